/- append of bytes to an empty slice without room ('append([]byte{}, b...)'): a new row, or nothing: as a law for a region that draws its order. -/
import Derived.Test.YtacobklogcdhnaaApp
import Derived.Test.YtacobklogcdhnaaLaw01
import Derived.ArgAppend
namespace Go.Proofs.Ytacobklogcdhnaa
open Go.RowKit
set_option linter.unusedVariables false

section
variable {P : Program} (w : World)
theorem run_app_fresh (B : Nat) (t ty e : TypeId) (i : TypeInfo) (ht : P.underlying t = some (.slice e)) (hi : P.info? e = some i) (hz : i.zero = some (.int .u8 0)) (hsize : i.size = 1) (hby : i.bytes = 1)
    (g : Nat) (x : Value) (m : List UInt8) (hx : Sl w B x m) (hbytes : m.length ≤ 140737488355328) :
    ∃ v' w', (Builtin.append_ #[t, t] ty #[.slice (some ⟨g, 0, none⟩) 0 0, x]).run P w = .ok v' w' ∧ Sl w' w'.heap.size v' m ∧ Below w.heap.size w w' := by
  obtain ⟨A, cap, rfl, hr, hm, hn, hle⟩ := hx
  by_cases h0 : m.length = 0
  · obtain rfl : m = [] := List.eq_nil_of_length_eq_zero h0
    refine ⟨.slice (some ⟨g, 0, none⟩) 0 0, w, ?_, ⟨_, 0, rfl, Rd.nil _ _ _, by simp [maxLen], (fun h => by cases h), Nat.le_refl _⟩, Below.refl _ _⟩
    cases A with
    | none =>
      obtain ⟨rfl, _⟩ := hn rfl
      simp [Builtin.append_, run_underlying ht, sizeOf, typeInfo, hi, Builtin.lenOf, Builtin.firstCells, storeCells]
    | some ad =>
      have := run_append_room_cells (P := P) w t ty e i ht hi g 0 0 0 ad 0 cap [] (by simp) (by simp) (by simp) (by simp) (by simp) (by simp)
      simpa [World.setCells] using this
  · obtain ⟨ad, rfl, hs, hb, hc⟩ := hr (by omega)
    obtain ⟨v', w', hrun, h2, h3⟩ := run_append_arg_grows (P := P) w t ty e i (.int .u8 0) 1 1 ht hi hz hsize hby rfl (by decide) ⟨g, 0, none⟩ 0 0 [] (by simp) (by simp) ad m.length cap (bv m) (by simp [len_bv]) (rd_cells hc) (by omega) (by unfold maxLen; omega) (by omega)
    have ho : w'.ownsRow w.heap.size e 1 v' m.length (bv m) := by simpa using h2
    exact ⟨v', w', hrun, Sl.of_own ho, (Below.refl _ _).grown h3 (Nat.le_refl _) (by intro k hk; cases hk)⟩

theorem step_app_fresh {ops : Array Oper} {o : Oper} {a : Act} {K : Act → World → Prop} {Q : Exit → Act → World → Prop} {E : Prop} (hgd : o.guard = none) (s y : Operand) (t : TypeId)
    (ho : o.op = .call { callee := .builtin .append, args := #[s, y], argTypes := #[t, t] })
    (B : Nat) (e : TypeId) (i : TypeInfo) (ht : P.underlying t = some (.slice e)) (hi : P.info? e = some i) (hz : i.zero = some (.int .u8 0)) (hsize : i.size = 1) (hby : i.bytes = 1)
    (g : Nat) (x : Value) (m : List UInt8) (hs : a.eval s = .slice (some ⟨g, 0, none⟩) 0 0) (hy : a.eval y = x) (hx : Sl w B x m) (hbytes : m.length ≤ 140737488355328)
    (h : ∀ v' w', Sl w' w'.heap.size v' m → Below w.heap.size w w' → K (a.put o.dst v') w') :
    if Region.wanted o (yielded ops a.tmps) = true then Oper.wp P o a w K Q else E := by
  have hw : Region.wanted o (yielded ops a.tmps) = true := by simp [Region.wanted, hgd]
  rw [if_pos hw]
  obtain ⟨v', w', hr, h2, h3⟩ := run_app_fresh (P := P) w B t o.type e i ht hi hz hsize hby g x m hx hbytes
  unfold Oper.wp execOp
  simp only [ho, resolve, invoke, builtin, Sem.run_bind, Sem.run_pure, Result.andThen_ok, List.map_toArray, List.map_cons, List.map_nil, hs, hy, hr]
  exact h v' w' h2 h3
end

/-- A call of a Go function by its contract, as a step of a region that draws its order. -/
theorem step_call {P : Program} {w : World} {ops : Array Oper} {o : Oper} {a : Act} {K : Act → World → Prop} {Q : Exit → Act → World → Prop} {E : Prop} (hgd : o.guard = none) (f : FuncId) (fn : Func) (xs : Array Operand) (ats : Array TypeId)
    (ho : o.op = .call { callee := .value (.func f), args := xs, argTypes := ats }) (hf : P.funcs[f]? = some fn) (hname : (fn.name == "runtime.NumGoroutine") = false) (hbody : fn.body.isNone = false)
    (args : Array Value) (R : Value → World → Prop) (hc : Calls P f args w fun e w' => ∃ v, e = .returned v ∧ R v w') (hargs : xs.map a.eval = args) (h : ∀ v w', R v w' → K (a.put o.dst v) w') :
    if Region.wanted o (yielded ops a.tmps) = true then Oper.wp P o a w K Q else E := by
  have hw : Region.wanted o (yielded ops a.tmps) = true := by simp [Region.wanted, hgd]
  rw [if_pos hw]
  obtain ⟨dst, op, ty, pos, after, guard⟩ := o
  subst ho
  have hrun : (execOp a.eval { dst, op := .call { callee := .value (.func f), args := xs, argTypes := ats }, type := ty, pos, after, guard }).run P w = .ok (.enter f args) w := by
    rw [execOp_call_go]
    simp only [hargs]
    have h1 : ¬ fn.name = "runtime.NumGoroutine" := by simpa using hname
    have h2 : ¬ fn.body = none := by intro e; rw [e] at hbody; simp at hbody
    simp [callFunc, hf, h1, h2]
  unfold Oper.wp
  rw [hrun, Oper.upon_enter]
  refine hc.mono ?_
  rintro e w' ⟨v, rfl, hR⟩
  exact h v w' hR

/-- .. behind a guard that says yes. -/
theorem step_call_on {P : Program} {w : World} {ops : Array Oper} {o : Oper} {a : Act} {K : Act → World → Prop} {Q : Exit → Act → World → Prop} {E : Prop} (f : FuncId) (fn : Func) (xs : Array Operand) (ats : Array TypeId)
    (ho : o.op = .call { callee := .value (.func f), args := xs, argTypes := ats }) (hf : P.funcs[f]? = some fn) (hname : (fn.name == "runtime.NumGoroutine") = false) (hbody : fn.body.isNone = false)
    (args : Array Value) (R : Value → World → Prop) (hc : Calls P f args w fun e w' => ∃ v, e = .returned v ∧ R v w') (hargs : xs.map a.eval = args) (hw : Region.wanted o (yielded ops a.tmps) = true) (h : ∀ v w', R v w' → K (a.put o.dst v) w') :
    if Region.wanted o (yielded ops a.tmps) = true then Oper.wp P o a w K Q else E := by
  rw [if_pos hw]
  obtain ⟨dst, op, ty, pos, after, guard⟩ := o
  subst ho
  have hrun : (execOp a.eval { dst, op := .call { callee := .value (.func f), args := xs, argTypes := ats }, type := ty, pos, after, guard }).run P w = .ok (.enter f args) w := by
    rw [execOp_call_go]
    simp only [hargs]
    have h1 : ¬ fn.name = "runtime.NumGoroutine" := by simpa using hname
    have h2 : ¬ fn.body = none := by intro e; rw [e] at hbody; simp at hbody
    simp [callFunc, hf, h1, h2]
  unfold Oper.wp
  rw [hrun, Oper.upon_enter]
  refine hc.mono ?_
  rintro e w' ⟨v, rfl, hR⟩
  exact h v w' hR

theorem refText_v (s : ByteArray) (hs : s.size ≤ 140737488351232) (P : ByteArray) (hP : P = ⟨(txt s.data.toList).toArray⟩) (w : World) :
    Calls Try.prog 12 #[.string s] w fun e w' => ∃ v, e = .returned v ∧ v = .string P ∧ Below w.heap.size w w' := by
  subst hP
  exact (refText_any s w hs).mono fun e w' h => ⟨_, h.1, rfl, h.2⟩
theorem lives_v (w : World) : Calls Try.prog 13 #[] w fun e w' => ∃ v, e = .returned v ∧ v = .bool true ∧ Below w.heap.size w w' :=
  (lives_any w).mono fun e w' h => ⟨_, h.1, rfl, h.2⟩

/-- put, of a slice as a value. -/
theorem lput_sl (B : Nat) (v : Value) (l : List UInt8) (k : Nat) (hk : k < 4) (x : Int) (hx : x = k) (n : Int) (w : World) (hA : Sl w B v l) (hB : B ≤ w.heap.size) (hl : l.length ≤ 140737488354000) :
    Calls Try.prog 9 #[v, .int .i64 x, .int .i64 n] w fun e w' => ∃ v, e = .returned v ∧
      w'.ownsRow w.heap.size 5 1 v (l ++ fld (2 ^ k) n).length (bv (l ++ fld (2 ^ k) n)) ∧ Below w.heap.size w w' := by
  obtain ⟨A, cap, rfl, hr, _⟩ := hA
  exact lput_any B A cap l k hk x hx n w hr hB hl
theorem putText_sl (B : Nat) (v : Value) (l : List UInt8) (s : ByteArray) (w : World) (hA : Sl w B v l) (hB : B ≤ w.heap.size) (hl : l.length + s.size ≤ 140737488354000) (hs : s.size < 4294967296) :
    Calls Try.prog 11 #[v, .string s] w fun e w' => ∃ v, e = .returned v ∧
      w'.ownsRow w.heap.size 5 1 v (l ++ txt s.data.toList).length (bv (l ++ txt s.data.toList)) ∧ Below w.heap.size w w' := by
  obtain ⟨A, cap, rfl, hr, _⟩ := hA
  exact putText_any B A cap l s w hr hB hl hs
theorem refField_v (n : Int) (k : Nat) (hk : k ≤ 8) (P : ByteArray) (hP : P = ⟨(fld k n).toArray⟩) (x : Int) (hx : x = k) (w : World) :
    Calls Try.prog 10 #[.int .i64 n, .int .i64 x] w fun e w' => ∃ v, e = .returned v ∧ v = .string P ∧ Below w.heap.size w w' := by
  subst hP hx
  exact (refField_any n k hk w).mono fun e w' h => ⟨_, h.1, rfl, h.2⟩
end Go.Proofs.Ytacobklogcdhnaa
