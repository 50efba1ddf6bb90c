/- Words that every layer's proofs lean on: values of bytes, slices that read, append, calls as steps, a number's field by the document. -/
import Derived.Test.YtjkfgbmlhglnfaaFldOrd
import Derived.Test.YtjkfgbmlhglnfaaProg
import Derived.Laws.AppendOwnNone
import Derived.Deep.AppendLies
import Derived.ArgAppend
import Derived.Lib.SliceRun
import Derived.Lib.SlBytesConst
import Derived.StillTailTactics
namespace Go.Proofs.Ytjkfgbmlhglnfaa
open Go.RowKit
set_option linter.unusedVariables false

theorem Try.info5 : (Try.prog.info? 5).map (fun i => (i.zero, i.size, i.bytes)) = some (some (.int .u8 0), 1, 1) := by kernel_rfl
theorem Try.cell5 : (Try.prog.info? 5).map (·.size) = some 1 := by kernel_rfl
/-- The number of bytes, the highest one first. -/
def val (l : List UInt8) : Nat := l.foldl (fun a c => a * 256 + c.toNat) 0
theorem val_snoc (l : List UInt8) (c : UInt8) : val (l ++ [c]) = val l * 256 + c.toNat := by simp [val]
theorem val_lt (l : List UInt8) : val l < 256 ^ l.length := by
  generalize hn : l.length = n
  induction n generalizing l with
  | zero => rw [List.eq_nil_of_length_eq_zero hn]; simp [val]
  | succ n ih =>
    have hne : l ≠ [] := by intro e; subst e; simp at hn
    have h1 := ih l.dropLast (by simp [hn])
    rw [← List.dropLast_concat_getLast hne, val_snoc, Nat.pow_succ]
    have := (l.getLast hne).toNat_lt
    omega
/-- The number of the k bytes from place at on. -/
def num (k : Nat) (l : List UInt8) (at_ : Nat) : Nat := val ((l.drop at_).take k)
theorem num_succ (i : Nat) (l : List UInt8) (at_ : Nat) (h : at_ + i < l.length) : num (i + 1) l at_ = num i l at_ * 256 + (l[at_ + i]).toNat := by
  unfold num
  rw [List.take_succ_eq_append_getElem (by simp; omega), val_snoc, List.getElem_drop]
theorem num_lt (k : Nat) (l : List UInt8) (at_ : Nat) : num k l at_ < 256 ^ k := by
  unfold num
  refine Nat.lt_of_lt_of_le (val_lt _) (Nat.pow_le_pow_right (by decide) ?_)
  simp; omega
theorem or_shift (V c s : Nat) (hc : c < 256) : V * 2 ^ (s + 8) ||| c * 2 ^ s = (V * 256 + c) * 2 ^ s := by
  have h : c * 2 ^ s < 2 ^ (s + 8) := by rw [Nat.pow_add, Nat.mul_comm (2 ^ s)]; exact Nat.mul_lt_mul_of_pos_right hc (Nat.two_pow_pos _)
  rw [← Nat.shiftLeft_eq V, ← Nat.shiftLeft_add_eq_or_of_lt h, Nat.shiftLeft_eq, Nat.pow_add, Nat.add_mul, Nat.mul_assoc, Nat.mul_comm 256]
theorem orStep64 (V c s : Nat) (hc : c < 256) (hb : (V * 256 + c) * 2 ^ s < 18446744073709551616) : bits BinOp.or .u64 ((V * 2 ^ (s + 8) : Nat) : Int) ((c * 2 ^ s : Nat) : Int) = (((V * 256 + c) * 2 ^ s : Nat) : Int) := by
  have h1 : V * 2 ^ (s + 8) ≤ (V * 256 + c) * 2 ^ s := by
    rw [Nat.pow_add, Nat.mul_comm (2 ^ s), ← Nat.mul_assoc]; exact Nat.mul_le_mul_right _ (by omega)
  have h2 : c * 2 ^ s ≤ (V * 256 + c) * 2 ^ s := Nat.mul_le_mul_right _ (by omega)
  rw [u64_or_nat _ _ (by omega) (by omega), or_shift V c s hc]
theorem num_zero (l : List UInt8) (at_ : Nat) : num 0 l at_ = 0 := by simp [num, val]
theorem own_empty (w : World) (B t : Nat) (hB : B ≤ w.heap.size) : (w.alloc (.cells #[] t)).ownsRow B t 1 (.slice (some ⟨w.heap.size, 0, none⟩) 0 0) 0 (bv []) :=
  ⟨rfl, .inr ⟨_, 0, #[], rfl, hB, heap_alloc_new w _, Nat.le_refl _, by simp [maxLen], rfl, rfl⟩⟩
theorem bv_one (l : List UInt8) : ∀ u ∈ bv l, u.oneCell' = true := fun u hu => by obtain ⟨c, _, rfl⟩ := List.mem_map.1 hu; rfl
theorem rd_cells {w : World} {ad : Addr} {l : List UInt8} (hc : ∀ j c, l[j]? = some c → w.cell? (ad.add j) = some (u8v c)) : ∀ j u, (bv l)[j]? = some u → w.cell? (ad.add j) = some u := fun j u hu => by
  rw [bv_at] at hu
  cases hj : l[j]? with
  | none => rw [hj] at hu; cases hu
  | some c => rw [hj] at hu; cases hu; exact hc j c hj
/-- A value that is a slice of these bytes, all below block B. -/
def Sl (w : World) (B : Nat) (v : Value) (l : List UInt8) : Prop := ∃ A cap, v = .slice A l.length cap ∧ Rd w B A l ∧ cap ≤ maxLen ∧ (A = none → cap = 0 ∧ l = []) ∧ l.length ≤ cap
theorem Sl.of_own {w : World} {t B : Nat} {l : List UInt8} {v : Value} (h : w.ownsRow B t 1 v l.length (bv l)) : Sl w w.heap.size v l := rd_of_own h
theorem Sl.below {w w' : World} {B B' : Nat} {v : Value} {l : List UInt8} (h : Sl w B v l) (hb : Below B' w w') (hB : B ≤ B') : Sl w' B v l := by
  obtain ⟨A, cap, e, hr, hm, hn⟩ := h
  exact ⟨A, cap, e, hr.below (hb.mono hB), hm, hn⟩
theorem Sl.turn {w w' : World} {B : Nat} {S : Nat → Prop} {v : Value} {l : List UInt8} (h : Sl w B v l) (hb : Turn S w w') (hB : B ≤ w.heap.size) (hs : ∀ k, k < B → ¬ S k) : Sl w' B v l := by
  obtain ⟨A, cap, e, hr, hm, hn⟩ := h
  exact ⟨A, cap, e, hr.turn hb hB hs, hm, hn⟩
theorem Sl.more {w : World} {B B' : Nat} {v : Value} {l : List UInt8} (h : Sl w B v l) (hB : B ≤ B') : Sl w B' v l := by
  obtain ⟨A, cap, e, hr, hm, hn⟩ := h
  exact ⟨A, cap, e, hr.more hB, hm, hn⟩
theorem str_empty : (ByteArray.empty : ByteArray) = ⟨(([] : List UInt8)).toArray⟩ := rfl
/-- Bytes become a string, wherever they lie. -/
theorem run_str {P : Program} (w : World) (src dst e : TypeId) (A : Option Addr) (cap : Nat) (l : List UInt8) (hs : P.underlying src = some (.slice e)) (he : P.underlying e = some (.int .u8)) (hd : P.underlying dst = some .string)
    (hc : 0 < l.length → ∃ ad, A = some ad ∧ ∀ j c, l[j]? = some c → w.cell? (ad.add j) = some (u8v c)) :
    (convert src dst (.slice A l.length cap)).run P w = .ok (.string ⟨l.toArray⟩) w := by
  cases A with
  | none =>
    cases l with
    | nil => rw [run_convert_bytes_nil w src e hs he _ _ dst hd]; rfl
    | cons c l => obtain ⟨ad, h, _⟩ := hc (by simp); cases h
  | some ad =>
    refine run_convert_bytes_back w src dst e ad cap l hs he hd fun j hj => ?_
    obtain ⟨ad', h, hcc⟩ := hc (by omega)
    obtain rfl : ad = ad' := by injection h
    exact hcc j _ (List.getElem?_eq_getElem hj)
/-- Bytes that a call has made, as a slice that reads, and that becomes a string. -/
theorem made_str {w : World} {B : Nat} {v : Value} (l : List UInt8) (h : w.ownsRow B 5 1 v l.length (bv l)) :
    ∃ A cap, v = .slice A l.length cap ∧ (convert 133 9 (.slice A l.length cap)).run Try.prog w = .ok (.string ⟨l.toArray⟩) w := by
  obtain ⟨A, cap, e, hr, _⟩ := rd_of_own h
  exact ⟨A, cap, e, run_str _ _ _ 5 _ _ _ Try.underlying133 Try.underlying5 Try.underlying9 fun hp => by
    obtain ⟨ad, e, _, _, hc⟩ := hr hp; exact ⟨ad, e, hc⟩⟩
theorem made_str' {w : World} {B : Nat} {v : Value} (k : Nat) (l : List UInt8) (hl : l.length = k) (h : w.ownsRow B 5 1 v k (bv l)) :
    ∃ A cap, v = .slice A k cap ∧ (convert 133 9 (.slice A k cap)).run Try.prog w = .ok (.string ⟨l.toArray⟩) w := by
  subst hl; exact made_str l h
theorem ba_app (a : Array UInt8) (s : ByteArray) : (⟨a ++ s.data⟩ : ByteArray) = ⟨a⟩ ++ s := by apply ByteArray.ext; simp
section
variable {P : Program} (w : World)
theorem run_app_bytes (base B : Nat) (t ty e : TypeId) (i : TypeInfo) (ht : P.underlying t = some (.slice e)) (hi : P.info? e = some i) (hz : i.zero = some (.int .u8 0)) (hsize : i.size = 1) (hby : i.bytes = 1)
    (v x : Value) (l m : List UInt8) (hown : w.ownsRow base e 1 v l.length (bv l)) (hx : Sl w B x m) (hbytes : l.length + m.length ≤ 140737488355328) (hbase : base ≤ w.heap.size) :
    ∃ v' w', (Builtin.append_ #[t, t] ty #[v, x]).run P w = .ok v' w' ∧ w'.ownsRow base e 1 v' (l ++ m).length (bv (l ++ m)) ∧ w.grownBy w' v.ownBlock := by
  obtain ⟨A, cap, rfl, hr, hm, hn, hle⟩ := hx
  rw [List.length_append, bv_app]
  cases A with
  | none =>
    obtain ⟨rfl, rfl⟩ := hn rfl
    have hrun := run_append_owned_none (P := P) (w := w) base t ty e i 1 ht hi v l.length (bv l) hown
    refine ⟨v, w, hrun, ?_, ?_⟩
    · simpa [bv] using hown
    · exact ⟨rfl, rfl, rfl, Nat.le_refl _, fun _ _ _ => rfl⟩
  | some ad =>
    have hc : ∀ j u, (bv m)[j]? = some u → w.cell? (ad.add j) = some u := fun j u hu => by
      have hj : j < m.length := by
        rcases Nat.lt_or_ge j m.length with h | h
        · exact h
        · rw [bv_at, List.getElem?_eq_none h] at hu; cases hu
      obtain ⟨ad', e, _, _, hcc⟩ := hr (by omega)
      obtain rfl : ad = ad' := by injection e
      exact rd_cells hcc j u hu
    obtain ⟨v', w', hrun, h2, h3, _⟩ := run_append_own (P := P) w base t ty e i (.int .u8 0) 1 1 ht hi hz hsize hby rfl (by decide) v l.length (bv l) hown ad m.length cap (bv m) (by simp [len_bv]) hc (bv_one m) (by unfold maxLen; omega) (by omega) hbase
    exact ⟨v', w', hrun, h2, h3⟩
theorem wp_app_bytes {o : Oper} {a : Act} {K : Act → World → Prop} {Q : Exit → Act → World → Prop} (s y : Operand) (t : TypeId)
    (ho : o.op = .call { callee := .builtin .append, args := #[s, y], argTypes := #[t, t] })
    (base B : Nat) (e : TypeId) (i : TypeInfo) (ht : P.underlying t = some (.slice e)) (hi : P.info? e = some i) (hz : i.zero = some (.int .u8 0)) (hsize : i.size = 1) (hby : i.bytes = 1)
    (v x : Value) (l m : List UInt8) (hs : a.eval s = v) (hy : a.eval y = x) (hown : w.ownsRow base e 1 v l.length (bv l)) (hx : Sl w B x m) (hbytes : l.length + m.length ≤ 140737488355328) (hbase : base ≤ w.heap.size)
    (h : ∀ v' w', w'.ownsRow base e 1 v' (l ++ m).length (bv (l ++ m)) → w.grownBy w' v.ownBlock → K (a.put o.dst v') w') : o.wp P a w K Q := by
  obtain ⟨v', w', hr, h2, h3⟩ := run_app_bytes (P := P) w base B t o.type e i ht hi hz hsize hby v x l m hown hx hbytes hbase
  unfold Oper.wp execOp
  simp only [ho, resolve, invoke, builtin, Sem.run_bind, Sem.run_pure, Result.andThen_ok, List.map_toArray, List.map_cons, List.map_nil, hs, hy, hr]
  exact h v' w' h2 h3
theorem wpList_app_bytes {ops : Array Oper} {rest : List Oper} {o : Oper} {a : Act} {Q : Exit → Act → World → Prop} (hgd : o.guard = none) (s y : Operand) (t : TypeId)
    (ho : o.op = .call { callee := .builtin .append, args := #[s, y], argTypes := #[t, t] })
    (base B : Nat) (e : TypeId) (i : TypeInfo) (ht : P.underlying t = some (.slice e)) (hi : P.info? e = some i) (hz : i.zero = some (.int .u8 0)) (hsize : i.size = 1) (hby : i.bytes = 1)
    (v x : Value) (l m : List UInt8) (hs : a.eval s = v) (hy : a.eval y = x) (hown : w.ownsRow base e 1 v l.length (bv l)) (hx : Sl w B x m) (hbytes : l.length + m.length ≤ 140737488355328) (hbase : base ≤ w.heap.size)
    (h : ∀ v' w', w'.ownsRow base e 1 v' (l ++ m).length (bv (l ++ m)) → w.grownBy w' v.ownBlock → wpList P ops Q rest (a.put o.dst v') w') : wpList P ops Q (o :: rest) a w :=
  wpList_plain hgd fun _ hK => wp_app_bytes w s y t ho base B e i ht hi hz hsize hby v x l m hs hy hown hx hbytes hbase fun v' w' h2 h3 => hK _ _ (h v' w' h2 h3)
theorem step_app_bytes {ops : Array Oper} {o : Oper} {a : Act} {K : Act → World → Prop} {Q : Exit → Act → World → Prop} {E : Prop} (hgd : o.guard = none) (s y : Operand) (t : TypeId)
    (ho : o.op = .call { callee := .builtin .append, args := #[s, y], argTypes := #[t, t] })
    (base B : Nat) (e : TypeId) (i : TypeInfo) (ht : P.underlying t = some (.slice e)) (hi : P.info? e = some i) (hz : i.zero = some (.int .u8 0)) (hsize : i.size = 1) (hby : i.bytes = 1)
    (v x : Value) (l m : List UInt8) (hs : a.eval s = v) (hy : a.eval y = x) (hown : w.ownsRow base e 1 v l.length (bv l)) (hx : Sl w B x m) (hbytes : l.length + m.length ≤ 140737488355328) (hbase : base ≤ w.heap.size)
    (h : ∀ v' w', w'.ownsRow base e 1 v' (l ++ m).length (bv (l ++ m)) → w.grownBy w' v.ownBlock → K (a.put o.dst v') w') :
    if Region.wanted o (yielded ops a.tmps) = true then Oper.wp P o a w K Q else E := by
  have hw : Region.wanted o (yielded ops a.tmps) = true := by simp [Region.wanted, hgd]
  rw [if_pos hw]
  exact wp_app_bytes w s y t ho base B e i ht hi hz hsize hby v x l m hs hy hown hx hbytes hbase h
end
section
variable {P : Program} (w : World)
theorem run_app_fresh (B : Nat) (t ty e : TypeId) (i : TypeInfo) (ht : P.underlying t = some (.slice e)) (hi : P.info? e = some i) (hz : i.zero = some (.int .u8 0)) (hsize : i.size = 1) (hby : i.bytes = 1)
    (g : Nat) (x : Value) (m : List UInt8) (hx : Sl w B x m) (hbytes : m.length ≤ 140737488355328) :
    ∃ v' w', (Builtin.append_ #[t, t] ty #[.slice (some ⟨g, 0, none⟩) 0 0, x]).run P w = .ok v' w' ∧ Sl w' w'.heap.size v' m ∧ Below w.heap.size w w' := by
  obtain ⟨A, cap, rfl, hr, hm, hn, hle⟩ := hx
  by_cases h0 : m.length = 0
  · obtain rfl : m = [] := List.eq_nil_of_length_eq_zero h0
    refine ⟨.slice (some ⟨g, 0, none⟩) 0 0, w, ?_, ⟨_, 0, rfl, Rd.nil _ _ _, by simp [maxLen], (fun h => by cases h), Nat.le_refl _⟩, Below.refl _ _⟩
    cases A with
    | none =>
      obtain ⟨rfl, _⟩ := hn rfl
      simp [Builtin.append_, run_underlying ht, sizeOf, typeInfo, hi, Builtin.lenOf, Builtin.firstCells, storeCells]
    | some ad =>
      have := run_append_room_cells (P := P) w t ty e i ht hi g 0 0 0 ad 0 cap [] (by simp) (by simp) (by simp) (by simp) (by simp) (by simp)
      simpa [World.setCells] using this
  · obtain ⟨ad, rfl, hs, hb, hc⟩ := hr (by omega)
    obtain ⟨v', w', hrun, h2, h3⟩ := run_append_arg_grows (P := P) w t ty e i (.int .u8 0) 1 1 ht hi hz hsize hby rfl (by decide) ⟨g, 0, none⟩ 0 0 [] (by simp) (by simp) ad m.length cap (bv m) (by simp [len_bv]) (rd_cells hc) (by omega) (by unfold maxLen; omega) (by omega)
    have ho : w'.ownsRow w.heap.size e 1 v' m.length (bv m) := by simpa using h2
    exact ⟨v', w', hrun, Sl.of_own ho, (Below.refl _ _).grown h3 (Nat.le_refl _) (by intro k hk; cases hk)⟩
theorem step_app_fresh {ops : Array Oper} {o : Oper} {a : Act} {K : Act → World → Prop} {Q : Exit → Act → World → Prop} {E : Prop} (hgd : o.guard = none) (s y : Operand) (t : TypeId)
    (ho : o.op = .call { callee := .builtin .append, args := #[s, y], argTypes := #[t, t] })
    (B : Nat) (e : TypeId) (i : TypeInfo) (ht : P.underlying t = some (.slice e)) (hi : P.info? e = some i) (hz : i.zero = some (.int .u8 0)) (hsize : i.size = 1) (hby : i.bytes = 1)
    (g : Nat) (x : Value) (m : List UInt8) (hs : a.eval s = .slice (some ⟨g, 0, none⟩) 0 0) (hy : a.eval y = x) (hx : Sl w B x m) (hbytes : m.length ≤ 140737488355328)
    (h : ∀ v' w', Sl w' w'.heap.size v' m → Below w.heap.size w w' → K (a.put o.dst v') w') :
    if Region.wanted o (yielded ops a.tmps) = true then Oper.wp P o a w K Q else E := by
  have hw : Region.wanted o (yielded ops a.tmps) = true := by simp [Region.wanted, hgd]
  rw [if_pos hw]
  obtain ⟨v', w', hr, h2, h3⟩ := run_app_fresh (P := P) w B t o.type e i ht hi hz hsize hby g x m hx hbytes
  unfold Oper.wp execOp
  simp only [ho, resolve, invoke, builtin, Sem.run_bind, Sem.run_pure, Result.andThen_ok, List.map_toArray, List.map_cons, List.map_nil, hs, hy, hr]
  exact h v' w' h2 h3
end
/-- A call of a Go function by its contract, as a step of a region that draws its order. -/
theorem step_call {P : Program} {w : World} {ops : Array Oper} {o : Oper} {a : Act} {K : Act → World → Prop} {Q : Exit → Act → World → Prop} {E : Prop} (hgd : o.guard = none) (f : FuncId) (fn : Func) (xs : Array Operand) (ats : Array TypeId)
    (ho : o.op = .call { callee := .value (.func f), args := xs, argTypes := ats }) (hf : P.funcs[f]? = some fn) (hname : (fn.name == "runtime.NumGoroutine") = false) (hbody : fn.body.isNone = false)
    (args : Array Value) (R : Value → World → Prop) (hc : Calls P f args w fun e w' => ∃ v, e = .returned v ∧ R v w') (hargs : xs.map a.eval = args) (h : ∀ v w', R v w' → K (a.put o.dst v) w') :
    if Region.wanted o (yielded ops a.tmps) = true then Oper.wp P o a w K Q else E := by
  have hw : Region.wanted o (yielded ops a.tmps) = true := by simp [Region.wanted, hgd]
  rw [if_pos hw]
  obtain ⟨dst, op, ty, pos, after, guard⟩ := o
  subst ho
  have hrun : (execOp a.eval { dst, op := .call { callee := .value (.func f), args := xs, argTypes := ats }, type := ty, pos, after, guard }).run P w = .ok (.enter f args) w := by
    rw [execOp_call_go]
    simp only [hargs]
    have h1 : ¬ fn.name = "runtime.NumGoroutine" := by simpa using hname
    have h2 : ¬ fn.body = none := by intro e; rw [e] at hbody; simp at hbody
    simp [callFunc, hf, h1, h2]
  unfold Oper.wp
  rw [hrun, Oper.upon_enter]
  refine hc.mono ?_
  rintro e w' ⟨v, rfl, hR⟩
  exact h v w' hR
/-- .. behind a guard that says yes. -/
theorem step_call_on {P : Program} {w : World} {ops : Array Oper} {o : Oper} {a : Act} {K : Act → World → Prop} {Q : Exit → Act → World → Prop} {E : Prop} (f : FuncId) (fn : Func) (xs : Array Operand) (ats : Array TypeId)
    (ho : o.op = .call { callee := .value (.func f), args := xs, argTypes := ats }) (hf : P.funcs[f]? = some fn) (hname : (fn.name == "runtime.NumGoroutine") = false) (hbody : fn.body.isNone = false)
    (args : Array Value) (R : Value → World → Prop) (hc : Calls P f args w fun e w' => ∃ v, e = .returned v ∧ R v w') (hargs : xs.map a.eval = args) (hw : Region.wanted o (yielded ops a.tmps) = true) (h : ∀ v w', R v w' → K (a.put o.dst v) w') :
    if Region.wanted o (yielded ops a.tmps) = true then Oper.wp P o a w K Q else E := by
  rw [if_pos hw]
  obtain ⟨dst, op, ty, pos, after, guard⟩ := o
  subst ho
  have hrun : (execOp a.eval { dst, op := .call { callee := .value (.func f), args := xs, argTypes := ats }, type := ty, pos, after, guard }).run P w = .ok (.enter f args) w := by
    rw [execOp_call_go]
    simp only [hargs]
    have h1 : ¬ fn.name = "runtime.NumGoroutine" := by simpa using hname
    have h2 : ¬ fn.body = none := by intro e; rw [e] at hbody; simp at hbody
    simp [callFunc, hf, h1, h2]
  unfold Oper.wp
  rw [hrun, Oper.upon_enter]
  refine hc.mono ?_
  rintro e w' ⟨v, rfl, hR⟩
  exact h v w' hR
theorem foldl_val (l : List UInt8) (a : Nat) : l.foldl (fun a c => a * 256 + c.toNat) a = a * 256 ^ l.length + val l := by
  induction l generalizing a with
  | nil => simp [val]
  | cons c l ih =>
    have h1 := ih (a * 256 + c.toNat)
    have h2 := ih (0 * 256 + c.toNat)
    unfold val
    rw [List.foldl_cons, List.foldl_cons, h1, h2, List.length_cons, Nat.pow_succ, Nat.zero_mul, Nat.zero_add, Nat.add_mul]
    rw [Nat.mul_assoc a, Nat.mul_comm 256]
    omega
theorem val_cons (c : UInt8) (l : List UInt8) : val (c :: l) = c.toNat * 256 ^ l.length + val l := by
  unfold val; rw [List.foldl_cons, foldl_val]; simp [val]
theorem val_nfld (k x : Nat) : val (nfld k x) = x % 256 ^ k := by
  induction k with
  | zero => simp [nfld, val, Nat.mod_one]
  | succ k ih =>
    unfold nfld
    rw [val_cons, ih, len_nfld, UInt8.toNat_ofNat', Nat.mod_eq_of_lt (Nat.mod_lt _ (by decide)), show 2 ^ (8 * k) = 256 ^ k from by rw [Nat.pow_mul], Nat.pow_succ, Nat.mod_mul]
    rw [Nat.mul_comm, Nat.add_comm]
theorem fld_emod (k : Nat) (hk : k ≤ 8) (n : Int) : fld k n = nfld k (n % 18446744073709551616).toNat := by
  rw [← fld_wrap k hk n]
  have h : n % 18446744073709551616 = ((n % 18446744073709551616).toNat : Int) := (Int.toNat_of_nonneg (Int.emod_nonneg _ (by decide))).symm
  rw [h, fld_nat, Int.toNat_natCast]
theorem val_fld (k : Nat) (hk : k ≤ 8) (n : Int) : (val (fld k n) : Int) = n % 256 ^ k := by
  rw [fld_emod k hk, val_nfld]
  have h := Int.toNat_of_nonneg (Int.emod_nonneg n (b := 18446744073709551616) (by decide))
  rw [Int.natCast_emod, h, show (((256 : Nat) ^ k : Nat) : Int) = (256 : Int) ^ k from by simp]
  refine Int.emod_emod_of_dvd n ?_
  rw [show (18446744073709551616 : Int) = 256 ^ k * 256 ^ (8 - k) from by rw [← Int.pow_add, show k + (8 - k) = 8 from by omega]; rfl]
  exact Int.dvd_mul_right _ _
/-- What stands at place at_ is read. -/
theorem num_fld (k : Nat) (hk : k ≤ 8) (n : Int) (l a b : List UInt8) (at_ : Nat) (hl : l = a ++ fld k n ++ b) (ha : a.length = at_) : (num k l at_ : Int) = n % 256 ^ k := by
  subst hl ha
  unfold num
  rw [List.append_assoc, List.drop_left, List.take_left' (len_fld k n)]
  exact val_fld k hk n
theorem bits64 (V c : Nat) (hc : c < 256) (hb : V * 256 + c < 18446744073709551616) : bits BinOp.or .u64 ((V * 256 : Nat) : Int) ((c : Nat) : Int) = ((V * 256 + c : Nat) : Int) := by
  have := orStep64 V c 0 hc (by simpa using hb)
  simpa using this
theorem num_step (S : ByteArray) (l : List UInt8) (hS : S = ⟨l.toArray⟩) (at_ j : Nat) (h : at_ + j < S.size) (h2 : at_ + j < l.length) (hb : num (j + 1) l at_ < 18446744073709551616) :
    bits BinOp.or .u64 (IntKind.u64.wrap ((num j l at_ : Int) * 256)) (IntKind.u64.wrap ((S[at_ + j]'h).toNat : Int)) = (num (j + 1) l at_ : Int) := by
  subst hS
  have hn := num_succ j l at_ h2
  have hlt := (l[at_ + j]).toNat_lt
  have e : (IntKind.u64.wrap (((⟨l.toArray⟩ : ByteArray)[at_ + j]'h).toNat : Int)) = ((l[at_ + j]).toNat : Int) := by
    rw [IntKind.wrap_u64]
    show ((l[at_ + j]).toNat : Int) % 18446744073709551616 = _
    omega
  rw [e, show IntKind.u64.wrap ((num j l at_ : Int) * 256) = (num j l at_ : Int) * 256 from by rw [IntKind.wrap_u64]; omega, show (num j l at_ : Int) * 256 = ((num j l at_ * 256 : Nat) : Int) from by simp, bits64 _ _ hlt (by omega), hn]
/-- One step more, that turns nothing that stood. -/
theorem bthen {B : Nat} {w a b : World} (h : Below B w a) (hB : B ≤ a.heap.size) (k : Below a.heap.size a b) : Below B w b := h.trans (k.mono hB)
theorem bcell {w w1 : World} {B : Nat} (hb : Below B w w1) : (∀ b o, b < B → w1.cell? ⟨b, o, none⟩ = w.cell? ⟨b, o, none⟩) ∧ (∀ b o, b < B → w1.frozen? ⟨b, o, none⟩ = w.frozen? ⟨b, o, none⟩) :=
  ⟨fun b o h => hb.cell (p := ⟨b, o, none⟩) h, fun b o h => hb.frozen (p := ⟨b, o, none⟩) h⟩
/-! What layer 3 taught: small words on blocks, results, rows and strings. -/
/-- A result's two cells, behind a call that made memory. -/
theorem res_cells {w w' : World} {B : Nat} {t : TypeId} {a b : Value} (hb : Below B (w.alloc (.cells #[a, b] t)) w') (hB : w.heap.size < B := by simp) :
    w'.cell? ⟨w.heap.size, 0, none⟩ = some a ∧ w'.cell? ⟨w.heap.size, 1, none⟩ = some b ∧ w'.frozen? ⟨w.heap.size, 0, none⟩ = false ∧ w'.frozen? ⟨w.heap.size, 1, none⟩ = false := by
  have hx := (Blk.new w t [a, b]).below hb hB
  exact ⟨hx.cell 0, hx.cell 1, hx.free 0, hx.free 1⟩
theorem res_below {w w' : World} {B : Nat} {t : TypeId} {a b c d : Value} (hb : Below B (w.alloc (.cells #[a, b] t)) w') (hB : w.heap.size < B := by simp) : Below w.heap.size w ((w'.setCell ⟨w.heap.size, 0, none⟩ c).setCell ⟨w.heap.size, 1, none⟩ d) :=
  ((((Below.refl w.heap.size w).alloc (Nat.le_refl _) _).trans (hb.mono (by omega))).setCell (Nat.le_refl _) _).setCell (Nat.le_refl _) _
theorem wrap_of (n : Int) (h0 : -9223372036854775808 ≤ n) (h1 : n ≤ 9223372036854775807) : IntKind.i64.wrap n = n := by rw [IntKind.wrap_i64]; omega
theorem blk2 {w : World} {g : Nat} {t : TypeId} {a b : Value} (h : Blk w g t [a, b]) :
    w.cell? ⟨g, 0, none⟩ = some a ∧ w.cell? ⟨g, 1, none⟩ = some b ∧ w.frozen? ⟨g, 0, none⟩ = false ∧ w.frozen? ⟨g, 1, none⟩ = false := ⟨h.cell 0, h.cell 1, h.free 0, h.free 1⟩
theorem blk2_put {w : World} {g : Nat} {t : TypeId} {a b c d : Value} (h : Blk w g t [a, b]) : Blk ((w.setCell ⟨g, 0, none⟩ c).setCell ⟨g, 1, none⟩ d) g t [c, d] := (h.put 0 c).put 1 d
theorem bblk {w w' : World} {B g : Nat} {t : TypeId} {cs : List Value} (hb : Below B w w') (h : Blk w g t cs) (hg : g < B) : Blk w' g t cs := h.below hb hg
theorem sl_mark (w : World) (l : List UInt8) (n : Nat) (C : Array Value) (fr : Nat × Nat) (hC : C = (bv l).toArray) (hn : l.length = n) (B : Nat) (hB : w.heap.size < B) (hm : n ≤ maxLen) :
    Sl (w.alloc (.cells C 5 fr)) B (.slice (some ⟨w.heap.size, 0, none⟩) n n) l := by
  subst hn hC
  refine ⟨_, _, rfl, fun _ => ⟨_, rfl, rfl, hB, fun j c hj => ?_⟩, hm, (fun h => by cases h), Nat.le_refl _⟩
  rw [show (⟨w.heap.size, 0, none⟩ : Addr).add j = ⟨w.heap.size, j, none⟩ from by unfold Addr.add; split <;> simp_all, World.cell?_alloc_mark]
  rw [List.getElem?_toArray, bv_at, hj]; rfl
theorem sl_nil (w : World) (B : Nat) : Sl w B (.slice none 0 0) [] := ⟨none, 0, rfl, Rd.nil _ _ _, by simp [maxLen], fun _ => ⟨rfl, rfl⟩, Nat.le_refl _⟩
theorem sl_conv {w : World} {B : Nat} {v : Value} {l : List UInt8} (h : Sl w B v l) : (convert 133 9 v).run Try.prog w = .ok (.string ⟨l.toArray⟩) w := by
  obtain ⟨A, cap, rfl, hr, _⟩ := h
  exact run_str _ _ _ 5 _ _ _ Try.underlying133 Try.underlying5 Try.underlying9 fun hp => by
    obtain ⟨ad, e, _, _, hc⟩ := hr hp; exact ⟨ad, e, hc⟩
theorem ba_self (S : ByteArray) : S = ⟨S.data.toList.toArray⟩ := by cases S; simp
theorem str_same (S : ByteArray) : (S.toList == S.toList) = true := by simp
theorem Row.set {w : World} {t g cap : Nat} {l : List UInt8} (h : Row w t g cap l) {j : Nat} (hj : j < l.length) (c : UInt8) : Row (w.setCell ⟨g, j, none⟩ (u8v c)) t g cap (l.set j c) := by
  obtain ⟨r, h, e⟩ := h
  refine ⟨r, ?_, by simpa using e⟩
  have := h.put j (u8v c)
  rw [List.set_append_left _ _ (by rw [len_bv]; exact hj)] at this
  simpa [bv, List.map_set] using this
section
variable {P : Program} (w : World)
/-- append of bytes to an own row, behind a guard that says yes. -/
theorem wpList_app_bytes_on {ops : Array Oper} {rest : List Oper} {o : Oper} {a : Act} {Q : Exit → Act → World → Prop} (hw : Region.wanted o (yielded ops a.tmps) = true) (s y : Operand) (t : TypeId)
    (ho : o.op = .call { callee := .builtin .append, args := #[s, y], argTypes := #[t, t] })
    (base B : Nat) (e : TypeId) (i : TypeInfo) (ht : P.underlying t = some (.slice e)) (hi : P.info? e = some i) (hz : i.zero = some (.int .u8 0)) (hsize : i.size = 1) (hby : i.bytes = 1)
    (v x : Value) (l m : List UInt8) (hs : a.eval s = v) (hy : a.eval y = x) (hown : w.ownsRow base e 1 v l.length (bv l)) (hx : Sl w B x m) (hbytes : l.length + m.length ≤ 140737488355328) (hbase : base ≤ w.heap.size)
    (h : ∀ v' w', w'.ownsRow base e 1 v' (l ++ m).length (bv (l ++ m)) → w.grownBy w' v.ownBlock → wpList P ops Q rest (a.put o.dst v') w') : wpList P ops Q (o :: rest) a w :=
  wpList_step fun K hK => by
    rw [if_pos hw]
    exact wp_app_bytes w s y t ho base B e i ht hi hz hsize hby v x l m hs hy hown hx hbytes hbase fun v' w' h2 h3 => hK _ _ (h v' w' h2 h3)
end
end Go.Proofs.Ytjkfgbmlhglnfaa
