/- Layer 14: maps whose keys are texts: what they tell. -/
import Derived.Test.YtjkfgbmlhglnfaaSpJ
import Derived.Maps.OwnIn
import Derived.Shelf.Spec.SearchS
import Derived.Shelf.Spec.SlicesInsertGrow
namespace Go.Proofs.Ytjkfgbmlhglnfaa
open Go.RowKit
open Go.ChangeMaps Go.MapKept
set_option linter.unusedVariables false
set_option linter.unusedSimpArgs false
set_option maxRecDepth 100000

theorem law_str : Maps.Keyed Try.prog 9 := Maps.string_keyed Try.underlying9
/-- An element is read as itself. -/
def RV (v : Value) : Option (DataW Value × List MemPlace) := some (.held v, [])
/-- A map that tells F, of so many keys. -/
def Mp (w : World) (g n : Nat) (F : List UInt8 → Option Value) : Prop :=
  ∃ D : DataW Value, w.ownsMap Try.prog 9 RV g n D ∧ Maps.size D = n ∧ ∀ k : List UInt8, Maps.has D (.string k) = (F k).isSome ∧ ∀ z, D.atKey (.string k) z = (match F k with | some v => .held v | none => z)
def upd (F : List UInt8 → Option Value) (k : List UInt8) (v : Option Value) : List UInt8 → Option Value := fun k' => if k' = k then v else F k'
theorem upd_at (F : List UInt8 → Option Value) (k : List UInt8) (v : Option Value) : upd F k v k = v := by simp [upd]
theorem upd_ne (F : List UInt8 → Option Value) {k k' : List UInt8} (v : Option Value) (h : k' ≠ k) : upd F k v k' = F k' := by simp [upd, h]
theorem Mp.lt {w : World} {g n : Nat} {F : List UInt8 → Option Value} (h : Mp w g n F) : g < w.heap.size := by
  obtain ⟨D, h1, _⟩ := h
  exact h1.lt
theorem Mp.turn {S : Nat → Prop} {w w' : World} {g n : Nat} {F : List UInt8 → Option Value} (h : Mp w g n F) (ht : Turn S w w') (hg : ¬ S g) : Mp w' g n F := by
  have hl := h.lt
  obtain ⟨D, ⟨es, c, hb, r⟩, h2⟩ := h
  exact ⟨D, ⟨es, c, (ht.block g hl hg).trans hb, r⟩, h2⟩
theorem Mp.still {w w' : World} {g n : Nat} {F : List UInt8 → Option Value} (h : Mp w g n F) (ht : Turn (fun _ => False) w w') : Mp w' g n F := h.turn ht (fun h => h)
theorem Mp.made (w : World) : Mp (w.alloc (.map #[] 0)) w.heap.size 0 (fun _ => none) :=
  ⟨.map [], World.ownsMap_made w _ _ _, rfl, fun k => ⟨rfl, fun z => rfl⟩⟩
theorem key_str (s : ByteArray) (hs : s.size ≤ maxLen) : keyOf Try.prog 9 (.string s) = some (.string s.toList) := by
  rw [ByteArray.toList_eq]
  simp [keyOf, mapKey, Try.underlying9, hs]
theorem ownsMap_tight {w : World} {g n : Nat} {D : DataW Value} (h : w.ownsMap Try.prog 9 RV g n D) : w.ownsMap Try.prog 9 RV g (Maps.size D) D := by
  obtain ⟨es, c, hb, F, hs, rfl⟩ := h
  exact ⟨es, c, hb, F, by simp [Maps.size, length_sorted], rfl⟩
theorem str_ne {a b : List UInt8} (h : a ≠ b) : Lit.string a ≠ Lit.string b := fun e => h (by injection e)
theorem Mp.lookup {w : World} {g n : Nat} {F : List UInt8 → Option Value} (h : Mp w g n F) {t e : TypeId} (ht : Try.prog.underlying t = some (.map 9 e)) {z : Value} (hz : (zeroValue e).run Try.prog w = .ok z w) (s : ByteArray) (hs : s.size ≤ maxLen) :
    (Instr.lookup t (.map (some g)) (.string s) false).run Try.prog w = .ok ((F s.toList).getD z) w := by
  obtain ⟨D, h1, h2, h3⟩ := h
  obtain ⟨v, ps, hr, hv⟩ := h1.lookup law_str ht hz (zd := .held z) (zp := []) rfl (key_str s hs)
  rw [hr]
  have h4 := (h3 s.toList).2 (.held z)
  rw [h4] at hv
  unfold RV at hv
  cases hF : F s.toList with
  | none => rw [hF] at hv; injection hv with hv; injection hv with hv; injection hv with hv; subst hv; rfl
  | some u => rw [hF] at hv; injection hv with hv; injection hv with hv; injection hv with hv; subst hv; rfl
theorem Mp.store {w : World} {g n : Nat} {F : List UInt8 → Option Value} (h : Mp w g n F) {t e : TypeId} (ht : Try.prog.underlying t = some (.map 9 e)) (hn : n < maxLen) (s : ByteArray) (hs : s.size ≤ maxLen) (u : Value) :
    ∃ w', (Instr.mapUpdate t (.map (some g)) (.string s) u).run Try.prog w = .ok () w' ∧ Mp w' g (if (F s.toList).isSome then n else n + 1) (upd F s.toList (some u)) ∧ Turn (fun k => k = g) w w' := by
  obtain ⟨D, h1, h2, h3⟩ := h
  have htd := h1.tidy law_str
  obtain ⟨w', hr, h4, h5⟩ := h1.store law_str ht hn (val := u) (d := .held u) (ps := []) (key_str s hs) rfl
  have hsz := Maps.size_put htd (k := .string s.toList) (DataW.held u)
  rw [(h3 s.toList).1, h2] at hsz
  refine ⟨w', hr, ⟨_, by rw [← hsz]; exact ownsMap_tight h4, hsz, fun k => ?_⟩, ?_⟩
  · by_cases hk : k = s.toList
    · subst hk
      rw [upd_at]
      exact ⟨Maps.has_put_same htd.isMap (show WideAt.IsKeyLit (.string _) from trivial) _, fun z => Maps.atKey_put_same htd.isMap (show WideAt.IsKeyLit (.string _) from trivial) _ _⟩
    · rw [upd_ne _ _ hk]
      exact ⟨(Maps.has_put_other (str_ne hk) _).trans (h3 k).1, fun z => (Maps.atKey_put_other (str_ne hk) _ _).trans ((h3 k).2 z)⟩
  · have h6 := h5.grown
    exact ⟨h6.os, h6.tape, h6.output, h6.size, fun k hk hne => h6.block k hk (fun e => hne (by cases e; rfl))⟩
theorem Mp.drop {w : World} {g n : Nat} {F : List UInt8 → Option Value} (h : Mp w g n F) {t e : TypeId} (ht : Try.prog.underlying t = some (.map 9 e)) (s : ByteArray) (hs : s.size ≤ maxLen) (ty : TypeId) :
    ∃ w', (Builtin.delete_ #[t, 9] ty #[.map (some g), .string s]).run Try.prog w = .ok (.tuple #[]) w' ∧ Mp w' g (if (F s.toList).isSome then n - 1 else n) (upd F s.toList none) ∧ Turn (fun k => k = g) w w' := by
  obtain ⟨D, h1, h2, h3⟩ := h
  have htd := h1.tidy law_str
  obtain ⟨w', hr, h4, h5⟩ := h1.drop law_str ht (key_str s hs) ty
  have hsz := Maps.size_del htd (k := .string s.toList)
  rw [(h3 s.toList).1, h2] at hsz
  have hsz2 : Maps.size (D.del (.string s.toList)) = (if (F s.toList).isSome then n - 1 else n) := by
    cases hF : (F s.toList).isSome <;> simp [hF] at hsz ⊢ <;> omega
  refine ⟨w', hr, ⟨_, by rw [← hsz2]; exact ownsMap_tight h4, hsz2, fun k => ?_⟩, ?_⟩
  · by_cases hk : k = s.toList
    · subst hk
      rw [upd_at]
      exact ⟨Maps.has_del_same, fun z => Maps.atKey_del_same _⟩
    · rw [upd_ne _ _ hk]
      exact ⟨(Maps.has_del_other (str_ne hk)).trans (h3 k).1, fun z => (Maps.atKey_del_other (str_ne hk) _).trans ((h3 k).2 z)⟩
  · have h6 := h5.grown
    exact ⟨h6.os, h6.tape, h6.output, h6.size, fun k hk hne => h6.block k hk (fun e => hne (by cases e; rfl))⟩
theorem Mp.len {w : World} {g n : Nat} {F : List UInt8 → Option Value} (h : Mp w g n F) {t e : TypeId} (ht : Try.prog.underlying t = some (.map 9 e)) (ty : TypeId) :
    (Builtin.len_ #[t] ty #[.map (some g)]).run Try.prog w = .ok (.int .i64 n) w := by
  obtain ⟨D, h1, h2, h3⟩ := h
  rw [← h2]
  exact h1.len ht ty
theorem zero_vers (w : World) : (zeroValue 38).run Try.prog w = .ok (.slice none 0 0) w := by kernel_rfl
theorem zero_unit (w : World) : (zeroValue 164).run Try.prog w = .ok (.agg #[]) w := by kernel_rfl
theorem wpList_lookup_mp {w : World} {ops : Array Oper} {rest : List Oper} {o : Oper} {a : Act} {Q : Exit → Act → World → Prop} (hg : o.guard = none) (m x : Operand) (hop : o.op = Op.lookup 124 m x false)
    (g n : Nat) (F : List UInt8 → Option Value) (s : ByteArray) (hs : s.size ≤ maxLen) (hm : a.eval m = .map (some g)) (h : Mp w g n F) (hx : a.eval x = .string s)
    (hK : wpList Try.prog ops Q rest (a.put o.dst ((F s.toList).getD (.slice none 0 0))) w) : wpList Try.prog ops Q (o :: rest) a w := by
  refine wpList_plain hg fun K' hK' => ?_
  have hr := h.lookup Try.underlying124 (zero_vers w) s hs
  unfold Oper.wp
  simp only [execOp, hop, hm, hx, Sem.run_bind, hr, Result.andThen_ok]
  exact hK' _ _ hK
theorem wpList_update_mp {w : World} {ops : Array Oper} {rest : List Oper} {o : Oper} {a : Act} {Q : Exit → Act → World → Prop} (hg : o.guard = none) (t e : TypeId) (ht : Try.prog.underlying t = some (.map 9 e)) (m x v : Operand) (hop : o.op = Op.mapUpdate t m x v)
    (g n : Nat) (F : List UInt8 → Option Value) (s : ByteArray) (u : Value) (hs : s.size ≤ maxLen) (hm : a.eval m = .map (some g)) (h : Mp w g n F) (hn : n < maxLen) (hx : a.eval x = .string s) (hv : a.eval v = u)
    (hK : ∀ w', Mp w' g (if (F s.toList).isSome then n else n + 1) (upd F s.toList (some u)) → Turn (fun k => k = g) w w' → wpList Try.prog ops Q rest (a.put o.dst undef) w') : wpList Try.prog ops Q (o :: rest) a w := by
  refine wpList_plain hg fun K' hK' => ?_
  obtain ⟨w', hr, h1, h2⟩ := h.store ht hn s hs u
  unfold Oper.wp
  simp [execOp, hop, hm, hx, hv, hr, Result.andThen]
  exact hK' _ _ (hK w' h1 h2)
theorem wpList_len_mp {w : World} {ops : Array Oper} {rest : List Oper} {o : Oper} {a : Act} {Q : Exit → Act → World → Prop} (hg : o.guard = none) (t e : TypeId) (ht : Try.prog.underlying t = some (.map 9 e)) (m : Operand) (hop : o.op = Op.call { callee := Callee.builtin Builtin.len, args := #[m], argTypes := #[t] })
    (g n : Nat) (F : List UInt8 → Option Value) (hm : a.eval m = .map (some g)) (h : Mp w g n F)
    (hK : wpList Try.prog ops Q rest (a.put o.dst (.int .i64 n)) w) : wpList Try.prog ops Q (o :: rest) a w := by
  obtain ⟨D, h1, h2, h3⟩ := h
  refine wpList_len_own w hg m t hop 9 e ht RV g n D hm h1 ?_
  rw [h2]
  exact hK
end Go.Proofs.Ytjkfgbmlhglnfaa
/- Layer 14: slices.BinarySearch, slices.Insert of texts. -/
namespace Go.Proofs.Ytjkfgbmlhglnfaa
open Go.RowKit
set_option linter.unusedVariables false
set_option linter.unusedSimpArgs false
set_option maxRecDepth 100000

def ren14 : Go.Shelf.Ren := ⟨fun | 26 => 54 | 33 => 103 | 34 => 104 | 38 => 96 | 22 => 55 | 29 => 105 | 30 => 106 | 36 => 145 | 17 => 165 | n => n, fun | 24 => 43 | 9 => 9 | 3 => 3 | 4 => 4 | 0 => 0 | 40 => 143 | n => n, fun n => n⟩
theorem lays26 : Go.Proofs.Lays2.n26 Try.prog ren14 := {
  mixed := by kernel_rfl
  f26 := Try.func54.trans (congrArg some (by kernel_rfl))
  f33 := Try.func103.trans (congrArg some (by kernel_rfl))
  f34 := Try.func104.trans (congrArg some (by kernel_rfl))
  f38 := Try.func96.trans (congrArg some (by kernel_rfl))
  t0 := Try.underlying0
  a0 := Try.isAgg0
  z0 := Try.sizeOf0
  v0 := Try.zeroValue0
  t3 := Try.underlying3
  a3 := Try.isAgg3
  z3 := Try.sizeOf3
  v3 := Try.zeroValue3
  t4 := Try.underlying4
  a4 := Try.isAgg4
  z4 := Try.sizeOf4
  v4 := Try.zeroValue4
  t9 := Try.underlying9
  a9 := Try.isAgg9
  z9 := Try.sizeOf9
  v9 := Try.zeroValue9
  t24 := Try.underlying43
  a24 := Try.isAgg43
  z24 := Try.sizeOf43
  v24 := Try.zeroValue43
  t40 := Try.underlying143
  a40 := Try.isAgg143
  z40 := Try.sizeOf143
  v40 := Try.zeroValue143 }
theorem lays22 : Go.Proofs.Lays2.n22 Try.prog ren14 := {
  mixed := by kernel_rfl
  f17 := Try.func165.trans (congrArg some (by kernel_rfl))
  f22 := Try.func55.trans (congrArg some (by kernel_rfl))
  f29 := Try.func105.trans (congrArg some (by kernel_rfl))
  f30 := Try.func106.trans (congrArg some (by kernel_rfl))
  f36 := Try.func145.trans (congrArg some (by kernel_rfl))
  t0 := Try.underlying0
  a0 := Try.isAgg0
  z0 := Try.sizeOf0
  v0 := Try.zeroValue0
  t3 := Try.underlying3
  a3 := Try.isAgg3
  z3 := Try.sizeOf3
  v3 := Try.zeroValue3
  t4 := Try.underlying4
  a4 := Try.isAgg4
  z4 := Try.sizeOf4
  v4 := Try.zeroValue4
  t9 := Try.underlying9
  a9 := Try.isAgg9
  z9 := Try.sizeOf9
  v9 := Try.zeroValue9
  t24 := Try.underlying43
  a24 := Try.isAgg43
  z24 := Try.sizeOf43
  v24 := Try.zeroValue43
  i9 := by kernel_rfl }
theorem blk_setCells14 {g t : Nat} : ∀ (vs : List Value) (o : Nat) (w : World) (cs : List Value), Blk w g t cs → o + vs.length ≤ cs.length → Blk (w.setCells g o vs) g t (cs.take o ++ vs ++ cs.drop (o + vs.length))
  | [], o, w, cs, h, hl => by simpa [World.setCells] using h
  | v :: r, o, w, cs, h, hl => by
    have h1 := blk_setCells14 r (o + 1) _ _ (h.put o v) (by simp at hl ⊢; omega)
    simp only [World.setCells]
    simp only [List.length_cons] at hl ⊢
    have e : (cs.set o v).take (o + 1) ++ r ++ (cs.set o v).drop (o + 1 + r.length) = cs.take o ++ v :: r ++ cs.drop (o + (r.length + 1)) := by
      rw [List.take_succ_eq_append_getElem (by simp; omega), List.getElem_set_self, List.take_set_of_le (by omega), List.drop_set_of_lt (by omega)]
      simp [show o + 1 + r.length = o + (r.length + 1) from by omega]
    rw [e] at h1
    exact h1
theorem turn_setCells14 {S : Nat → Prop} {g : Nat} : ∀ (vs : List Value) (o : Nat) {w w' : World}, Turn S w w' → S g ∨ w.heap.size ≤ g → Turn S w (w'.setCells g o vs)
  | [], _, _, _, h, _ => h
  | v :: r, o, _, _, h, hg => turn_setCells14 r (o + 1) (h.setCell (p := ⟨g, o, none⟩) hg v) hg
/-- A row of texts of the call's own. -/
def Kr (w : World) (v : Value) (K : List ByteArray) : Prop := w.ownsRow 0 9 1 v K.length (K.map Value.string)
theorem Kr.turn {S : Nat → Prop} {w w' : World} {v : Value} {K : List ByteArray} (h : Kr w v K) (ht : Turn S w w') (hn : ∀ k, v.ownBlock = some k → ¬ S k) : Kr w' v K := by
  obtain ⟨hl, ⟨e, h0⟩ | ⟨g, cap, cur, e, hB, hh, hr⟩⟩ := h
  · exact ⟨hl, .inl ⟨e, h0⟩⟩
  · exact ⟨hl, .inr ⟨g, cap, cur, e, hB, (ht.block g (Array.getElem?_eq_some_iff.1 hh).1 (hn g (by rw [e]; rfl))).trans hh, hr⟩⟩
theorem Kr.lt {w : World} {v : Value} {K : List ByteArray} (h : Kr w v K) : ∀ k, v.ownBlock = some k → k < w.heap.size := fun k hk => (own_ge9 h k hk).2
theorem kr_nil (w : World) : Kr w (.slice none 0 0) [] := ⟨rfl, .inl ⟨rfl, rfl⟩⟩
/-- A row of texts, plainly: none, or a block. -/
theorem Kr.form {w : World} {v : Value} {K : List ByteArray} (h : Kr w v K) : (v = .slice none 0 0 ∧ K = []) ∨ ∃ g cap cs, v = .slice (some ⟨g, 0, none⟩) K.length cap ∧ Blk w g 9 cs ∧ K.length ≤ cap ∧ cap ≤ maxLen ∧ cs.length = cap ∧ cs.take K.length = K.map Value.string := by
  obtain ⟨hl, ⟨e, h0⟩ | ⟨g, cap, cur, e, hB, hh, h1, h2, h3, h4⟩⟩ := h
  · exact .inl ⟨e, List.eq_nil_of_length_eq_zero h0⟩
  · refine .inr ⟨g, cap, cur.toList, e, ?_, h1, h2, by rw [Array.length_toList, h3]; omega, by rw [Nat.mul_one] at h4; exact h4⟩
    unfold Blk
    simpa using hh
theorem Kr.of {w : World} {g cap : Nat} {cs : List Value} {K : List ByteArray} (h : Blk w g 9 cs) (h1 : K.length ≤ cap) (h2 : cap ≤ maxLen) (h3 : cs.length = cap) (h4 : cs.take K.length = K.map Value.string) : Kr w (.slice (some ⟨g, 0, none⟩) K.length cap) K :=
  ⟨by simp, .inr ⟨g, cap, cs.toArray, rfl, Nat.zero_le _, h, h1, h2, by simp [h3], by simpa using h4⟩⟩
theorem Kr.cell {w : World} {g n c : Nat} {K : List ByteArray} (h : Kr w (.slice (some ⟨g, 0, none⟩) n c) K) (j : Nat) (k : ByteArray) (hj : K[j]? = some k) : w.cell? ⟨g, j, none⟩ = some (.string k) := by
  rcases h.form with ⟨e, _⟩ | ⟨g', cap, cs, e, hb, h1, h2, h3, h4⟩
  · injection e with e; cases e
  · injection e with e
    cases e
    rw [hb.cell]
    have hl : j < K.length := by
      rcases Nat.lt_or_ge j K.length with h | h
      · exact h
      · rw [List.getElem?_eq_none h] at hj; cases hj
    have h5 : (cs.take K.length)[j]? = (K.map Value.string)[j]? := by rw [h4]
    rw [List.getElem?_take_of_lt hl, List.getElem?_map, hj] at h5
    exact h5
/-- How many keys stand ahead of a key, and whether it is there. -/
def plK (K : List ByteArray) (key : ByteArray) : Nat := (K.takeWhile (fun k => lt14 k key)).length
def hasK (K : List ByteArray) (key : ByteArray) : Bool := decide (K[plK K key]? = some key)
def risK (K : List ByteArray) : Prop := K.Pairwise (fun a b => lt14 a b = true)
theorem bl14_trans : ∀ (x y z : List UInt8), Op.bytesLess x y = true → Op.bytesLess y z = true → Op.bytesLess x z = true
  | [], [], z, h, _ => by cases h
  | [], b :: y, [], _, h => by rw [bl_nil_right] at h; cases h
  | [], b :: y, c :: z, _, _ => by rw [bl_nil_left]; simp
  | a :: x, [], z, h, _ => by rw [bl_nil_right] at h; cases h
  | a :: x, b :: y, [], _, h => by rw [bl_nil_right] at h; cases h
  | a :: x, b :: y, c :: z, h1, h2 => by
    by_cases hab : a = b
    · subst hab
      rw [bl_same] at h1
      by_cases hac : a = c
      · subst hac
        rw [bl_same] at h2 ⊢
        exact bl14_trans x y z h1 h2
      · rw [bl_ne_head hac] at h2 ⊢; exact h2
    · rw [bl_ne_head hab] at h1
      have h3 := of_decide_eq_true h1
      by_cases hbc : b = c
      · subst hbc
        rw [bl_ne_head hab]; exact h1
      · rw [bl_ne_head hbc] at h2
        have h4 := of_decide_eq_true h2
        rw [bl_ne_head (fun e => by subst e; omega)]
        exact decide_eq_true (by omega)
theorem bl14_self : ∀ x : List UInt8, Op.bytesLess x x = false
  | [] => rfl
  | a :: x => by rw [bl_same]; exact bl14_self x
theorem bl14_eq : ∀ x y : List UInt8, Op.bytesLess x y = false → Op.bytesLess y x = false → x = y
  | [], [], _, _ => rfl
  | [], b :: y, h, _ => by rw [bl_nil_left] at h; simp at h
  | a :: x, [], _, h => by rw [bl_nil_left] at h; simp at h
  | a :: x, b :: y, h1, h2 => by
    by_cases hab : a = b
    · subst hab
      rw [bl_same] at h1 h2
      rw [bl14_eq x y h1 h2]
    · rw [bl_ne_head hab] at h1
      rw [bl_ne_head (fun e => hab e.symm)] at h2
      have h3 := of_decide_eq_false h1
      have h4 := of_decide_eq_false h2
      exact absurd (UInt8.toNat_inj.1 (by omega)) hab
theorem lt14_self (a : ByteArray) : lt14 a a = false := bl14_self _
theorem ba_ext {a b : ByteArray} (h : a.data.toList = b.data.toList) : a = b := by rw [ba_self a, ba_self b, h]
theorem lt14_eq {a b : ByteArray} (h1 : lt14 a b = false) (h2 : lt14 b a = false) : a = b := ba_ext (bl14_eq _ _ h1 h2)
theorem lt14_trans {a b c : ByteArray} (h1 : lt14 a b = true) (h2 : lt14 b c = true) : lt14 a c = true := by
  unfold lt14 at *
  exact bl14_trans _ _ _ h1 h2
theorem plK_le (K : List ByteArray) (key : ByteArray) : plK K key ≤ K.length := by
  unfold plK
  exact (List.takeWhile_prefix _).length_le
theorem takeWhile_at {α : Type} (p : α → Bool) : ∀ (L : List α) (i : Nat) (x : α), L[i]? = some x → i < (L.takeWhile p).length → p x = true
  | [], i, x, h, _ => by simp at h
  | y :: L, i, x, h, hi => by
    by_cases hy : p y = true
    · rw [List.takeWhile_cons_of_pos hy] at hi
      cases i with
      | zero => simp at h; rw [← h]; exact hy
      | succ i => exact takeWhile_at p L i x (by simpa using h) (by simpa using hi)
    · rw [List.takeWhile_cons_of_neg hy] at hi
      simp at hi
theorem takeWhile_stop {α : Type} (p : α → Bool) : ∀ (L : List α) (x : α), L[(L.takeWhile p).length]? = some x → p x = false
  | [], x, h => by simp at h
  | y :: L, x, h => by
    by_cases hy : p y = true
    · rw [List.takeWhile_cons_of_pos hy] at h
      exact takeWhile_stop p L x (by simpa using h)
    · rw [List.takeWhile_cons_of_neg hy] at h
      simp at h
      rw [← h]
      simpa using hy
theorem plK_below {K : List ByteArray} {key : ByteArray} {j : Nat} {k : ByteArray} (hj : K[j]? = some k) (h : j < plK K key) : lt14 k key = true := takeWhile_at (fun k => lt14 k key) K j k hj h
theorem plK_above {K : List ByteArray} {key : ByteArray} (hr : risK K) {j : Nat} {k : ByteArray} (hj : K[j]? = some k) (h : plK K key ≤ j) : lt14 k key = false := by
  have hl : j < K.length := by
    rcases Nat.lt_or_ge j K.length with h | h
    · exact h
    · rw [List.getElem?_eq_none h] at hj; cases hj
  obtain ⟨x, hx⟩ : ∃ x, K[plK K key]? = some x := ⟨_, List.getElem?_eq_getElem (by omega)⟩
  have h1 : lt14 x key = false := takeWhile_stop (fun k => lt14 k key) K x hx
  rcases Nat.lt_or_ge (plK K key) j with h2 | h2
  · cases h3 : lt14 k key with
    | false => rfl
    | true =>
      have h4 : lt14 x k = true := by
        have := List.pairwise_iff_getElem.1 hr (plK K key) j (by omega) hl h2
        rw [List.getElem?_eq_getElem (by omega)] at hx
        rw [List.getElem?_eq_getElem hl] at hj
        cases hx; cases hj
        exact this
      rw [lt14_trans h4 h3] at h1
      cases h1
  · have e : j = plK K key := by omega
    subst e
    rw [hx] at hj
    cases hj
    exact h1
theorem bs_spec14 (K : List ByteArray) (key : ByteArray) (hr : risK K) : Go.Lib.bsGo (fun t => Op.bytesLess (K.getD t key).toList key.toList) K.length 0 K.length = plK K key := by
  have hx : ∀ t, Op.bytesLess (K.getD t key).toList key.toList = lt14 (K.getD t key) key := fun t => by rw [ByteArray.toList_eq, ByteArray.toList_eq]; rfl
  refine Go.Lib.bsGo_spec _ (plK K key) ?_ ?_ K.length 0 K.length (by omega) (Nat.zero_le _) (plK_le K key)
  · intro t ht
    have hl : t < K.length := Nat.lt_of_lt_of_le ht (plK_le K key)
    have := plK_below (List.getElem?_eq_getElem hl) ht
    rw [hx, List.getD_eq_getElem?_getD, List.getElem?_eq_getElem hl]
    exact this
  · intro t ht
    rw [hx]
    rcases Nat.lt_or_ge t K.length with hl | hl
    · have := plK_above hr (List.getElem?_eq_getElem hl) ht
      rw [List.getD_eq_getElem?_getD, List.getElem?_eq_getElem hl]
      exact this
    · rw [List.getD_eq_getElem?_getD, List.getElem?_eq_none hl]
      exact lt14_self key
theorem bsearch14q (K : List ByteArray) (v : Value) (key : ByteArray) (w : World) (h : Kr w v K) (hr : risK K) (hb : K.length ≤ 100000000) :
    Calls Try.prog 54 #[v, .string key] w fun e w' => e = .returned (.tuple #[.int .i64 (plK K key : Nat), .bool (hasK K key)]) ∧ ∃ m, w' = w.drewN m := by
  rcases h.form with ⟨rfl, rfl⟩ | ⟨g, cap, cs, rfl, h1, h2, h3, h4, h5⟩
  · refine (Any2.slices_BinarySearch_string_empty lays26 none 0 key w).mono ?_
    rintro e w' ⟨rfl, rfl⟩
    exact ⟨rfl, 0, rfl⟩
  · refine (Any2.slices_BinarySearch_string lays26 g 0 K.length cap (fun t => K.getD t key) key w (by omega) (fun j hj => ?_)).mono ?_
    · rw [Nat.zero_add, h.cell j (K.getD j key) (by rw [List.getD_eq_getElem?_getD, List.getElem?_eq_getElem hj]; rfl)]
    · rintro e w' ⟨rfl, q, rfl⟩
      rw [bs_spec14 K key hr]
      refine ⟨?_, q, rfl⟩
      unfold hasK
      have hp := plK_le K key
      refine congrArg (fun b => Ending.returned (.tuple #[.int .i64 (plK K key : Nat), .bool b])) (decide_eq_decide.2 ?_)
      constructor
      · rintro ⟨h6, h7⟩
        rw [List.getD_eq_getElem?_getD, List.getElem?_eq_getElem h6] at h7
        rw [List.getElem?_eq_getElem h6]
        exact congrArg some h7
      · intro h6
        have h7 : plK K key < K.length := by
          rcases Nat.lt_or_ge (plK K key) K.length with h | h
          · exact h
          · rw [List.getElem?_eq_none h] at h6; cases h6
        exact ⟨h7, by rw [List.getD_eq_getElem?_getD, h6]; rfl⟩
theorem bsearch14 (K : List ByteArray) (v : Value) (key : ByteArray) (w : World) (h : Kr w v K) (hr : risK K) (hb : K.length ≤ 100000000) :
    Calls Try.prog 54 #[v, .string key] w fun e w' => e = .returned (.tuple #[.int .i64 (plK K key : Nat), .bool (hasK K key)]) ∧ Turn (fun _ => False) w w' :=
  (bsearch14q K v key w h hr hb).mono fun e w' ⟨h1, m, h2⟩ => ⟨h1, h2 ▸ (Turn.refl _ _).drewN m⟩
def insK (K : List ByteArray) (i : Nat) (key : ByteArray) : List ByteArray := K.take i ++ key :: K.drop i
theorem insK_len (K : List ByteArray) (i : Nat) (key : ByteArray) (h : i ≤ K.length) : (insK K i key).length = K.length + 1 := by
  unfold insK
  rw [List.length_append, List.length_take, List.length_cons, List.length_drop]
  omega
theorem map_cells (K : List ByteArray) : ∀ u ∈ K.map Value.string, u.oneCell' = true := fun u hu => by
  obtain ⟨k, _, rfl⟩ := List.mem_map.1 hu
  rfl
theorem blk_shape {w : World} {g t : Nat} {cs : List Value} (h : Blk w g t cs) : w.shape? g = some (t, cs.length) := by
  unfold Blk at h
  simp [World.shape?, h]
theorem getElem?_map_str {K : List ByteArray} {j : Nat} {u : Value} (h : (K.map Value.string)[j]? = some u) : ∃ k, K[j]? = some k ∧ u = .string k := by
  rw [List.getElem?_map] at h
  cases hk : K[j]? with
  | none => rw [hk] at h; cases h
  | some k => rw [hk] at h; exact ⟨k, rfl, by injection h with h; exact h.symm⟩
theorem zeroCells_str (n : Nat) : (Builtin.zeroCells (Value.string ⟨#[]⟩).cells n).size = n := by
  rw [size_zeroCells]
  simp [Value.cells]
theorem list_shift {α : Type} (cs L : List α) (i n : Nat) (x : α) (hi : i ≤ n) (hn : n + 1 ≤ cs.length) (hL : L.length = n) (h : cs.take n = L) :
    (((cs.take (i + 1) ++ L.drop i ++ cs.drop (i + 1 + (L.drop i).length)).take i ++ [x] ++ (cs.take (i + 1) ++ L.drop i ++ cs.drop (i + 1 + (L.drop i).length)).drop (i + [x].length))).take (n + 1) = L.take i ++ x :: L.drop i := by
  have e1 : (cs.take (i + 1) ++ L.drop i ++ cs.drop (i + 1 + (L.drop i).length)).take i = L.take i := by
    rw [List.append_assoc, List.take_append_of_le_length (by simp; omega), List.take_take, Nat.min_eq_left (by omega), ← h, List.take_take, Nat.min_eq_left hi]
  have e2 : (cs.take (i + 1) ++ L.drop i ++ cs.drop (i + 1 + (L.drop i).length)).drop (i + [x].length) = L.drop i ++ cs.drop (i + 1 + (L.drop i).length) := by
    rw [List.append_assoc]
    exact List.drop_left' (by simp; omega)
  rw [e1, e2, ← List.append_assoc, List.take_append_of_le_length (by simp; omega), List.take_of_length_le (by simp; omega)]
  simp
theorem list_grow {α : Type} (C L : List α) (i n : Nat) (x : α) (hi : i ≤ n) (hn : n + 1 ≤ C.length) (hL : L.length = n) (h : C.take i = L.take i) :
    (((C.take i ++ [x] ++ C.drop (i + [x].length)).take (i + 1) ++ L.drop i ++ (C.take i ++ [x] ++ C.drop (i + [x].length)).drop (i + 1 + (L.drop i).length))).take (n + 1) = L.take i ++ x :: L.drop i := by
  have e1 : (C.take i ++ [x] ++ C.drop (i + [x].length)).take (i + 1) = L.take i ++ [x] := by
    rw [h]
    exact List.take_left' (by simp; omega)
  rw [e1, List.take_append_of_le_length (by simp; omega), List.take_of_length_le (by simp; omega)]
  simp
set_option maxHeartbeats 4000000 in
theorem insert14 (K : List ByteArray) (v : Value) (i b : Nat) (key : ByteArray) (w : World) (h : Kr w v K) (hi : i ≤ K.length) (hb : K.length ≤ 100000000) (hq : Blk w b 9 [.string key]) (hne : v.ownBlock ≠ some b) :
    Calls Try.prog 55 #[v, .int .i64 i, .slice (some ⟨b, 0, none⟩) 1 1] w fun e w' => ∃ v', e = .returned v' ∧ Kr w' v' (insK K i key) ∧ Turn (fun k => v.ownBlock = some k) w w' ∧ (v'.ownBlock = v.ownBlock ∨ v'.ownBlock = some w.heap.size) ∧ Blk w' b 9 [.string key] := by
  have hvs : ∀ (j : Nat) (u : Value), [Value.string key][j]? = some u → w.cell? ⟨b, 0 + j, none⟩ = some u := fun j u hu => by rw [Nat.zero_add, hq.cell]; exact hu
  have h1v : ∀ u ∈ [Value.string key], u.oneCell' = true := fun u hu => by simp at hu; subst hu; rfl
  have hql := hq.lt
  have hcap : ∀ old, K.length + 1 ≤ grownCap w (K.length + 1) old 9 ∧ grownCap w (K.length + 1) old 9 ≤ maxLen := fun old => ⟨grownCap_ge w _ _ _, grownCap_le_maxLen w _ _ _ (by unfold maxLen; omega)⟩
  by_cases hin : i = K.length
  · subst hin
    have hK : insK K K.length key = K ++ [key] := by simp [insK]
    rw [hK]
    have hgrow : ∀ (base : Option Addr) (c : Nat), K.length ≤ c → c < K.length + 1 → (base = none → K.length = 0) → (∀ a, base = some a → ∀ j u, (K.map Value.string)[j]? = some u → w.cell? (a.add j) = some u) →
        Calls Try.prog 55 #[.slice base K.length c, .int .i64 K.length, .slice (some ⟨b, 0, none⟩) 1 1] w fun e w' => ∃ v', e = .returned v' ∧ Kr w' v' (K ++ [key]) ∧ Turn (fun _ => False) w w' ∧ v'.ownBlock = some w.heap.size ∧ Blk w' b 9 [.string key] := fun base c h1 h2 h3 h4 => by
      refine (Any2.slices_Insert_string_end_grow lays22 base K.length c b 0 1 1 (K.map Value.string) [.string key] w (by omega) h1 h2 (by omega) (by simp) rfl h3 h4 hvs h1v).mono ?_
      rintro e w' ⟨rfl, rfl⟩
      obtain ⟨g1, g2⟩ := hcap c
      refine ⟨_, rfl, ⟨by simp, .inr ⟨w.heap.size, _, _, ?_, Nat.zero_le _, heap_alloc_new w.drew _, ?_, g2, ?_, ?_⟩⟩, (Turn.refl _ _).drew.alloc _, rfl, hq.drew.alloc _⟩
      · rw [List.length_append]; rfl
      · rw [List.length_append]; exact g1
      · simp only [Array.size_append, zeroCells_str, List.size_toArray, List.length_append, List.length_map, List.length_singleton]
        change K.length + 1 + (grownCap w (K.length + 1) c 9 - (K.length + 1)) = grownCap w (K.length + 1) c 9 * 1
        omega
      · simp only [Array.toList_append, List.length_append, List.length_singleton, Nat.mul_one]
        rw [List.take_append_of_le_length (by simp), List.take_of_length_le (by simp)]
        simp
    rcases h.form with ⟨rfl, rfl⟩ | ⟨g, cap, cs, rfl, h1, h2, h3, h4, h5⟩
    · refine (hgrow none 0 (by simp) (by simp) (fun _ => rfl) (fun a e => by cases e)).mono ?_
      rintro e w' ⟨v', rfl, k1, k2, k3, k4⟩
      exact ⟨v', rfl, k1, k2.mono (fun k _ h => h.elim), .inr k3, k4⟩
    · have hgb : g ≠ b := fun e => hne (by rw [e]; rfl)
      by_cases hroom : K.length + 1 ≤ cap
      · refine (Any2.slices_Insert_string_end_room lays22 g 0 K.length cap b 0 1 1 [.string key] w (by omega) hroom (by unfold maxLen at h3; omega) rfl (fun j hj => ?_) (fun j hj => h1.free _) hvs h1v).mono ?_
        · rw [h1.cell, List.getElem?_eq_getElem (by omega)]; rfl
        · rintro e w' ⟨rfl, rfl⟩
          have hb2 := blk_setCells14 [Value.string key] (0 + K.length) w cs h1 (by simp; omega)
          refine ⟨_, rfl, ?_, turn_setCells14 _ _ (Turn.refl _ _) (.inl rfl), .inl rfl, ?_⟩
          · have := Kr.of (K := K ++ [key]) (cap := cap) hb2 (by simp; omega) h3 (by simp; omega) (by
              rw [Nat.zero_add, h5]
              simp only [List.length_append, List.length_singleton, List.map_append, List.map_cons, List.map_nil]
              rw [List.take_append_of_le_length (by simp), List.take_of_length_le (by simp)])
            simpa using this
          · exact hq.turn (turn_setCells14 (S := fun k => k = g) _ _ (Turn.refl _ _) (.inl rfl)) (fun e => hgb e.symm)
      · refine (hgrow (some ⟨g, 0, none⟩) cap h2 (by omega) (fun e => by cases e) (fun a e j u hj => ?_)).mono ?_
        · cases e
          obtain ⟨k, hk, rfl⟩ := getElem?_map_str hj
          rw [Addr.add_lit, Nat.zero_add]
          exact h.cell j k hk
        · rintro e w' ⟨v', rfl, k1, k2, k3, k4⟩
          exact ⟨v', rfl, k1, k2.mono (fun k _ h => h.elim), .inr k3, k4⟩
  · have hlt : i < K.length := by omega
    rcases h.form with ⟨rfl, rfl⟩ | ⟨g, cap, cs, rfl, h1, h2, h3, h4, h5⟩
    · simp at hlt
    · have hgb : b ≠ g := fun e => hne (by rw [e]; rfl)
      have hcs : ∀ (j : Nat) (u : Value), (K.map Value.string)[j]? = some u → w.cell? ⟨g, 0 + j, none⟩ = some u := fun j u hj => by
        obtain ⟨k, hk, rfl⟩ := getElem?_map_str hj
        rw [Nat.zero_add]
        exact h.cell j k hk
      by_cases hroom : K.length + 1 ≤ cap
      · refine (Any2.slices_Insert_string_shift lays22 g 0 K.length cap i b 0 1 1 (K.map Value.string) [.string key] w hlt (by omega) hroom (by unfold maxLen at h3; omega) hgb (by simp) rfl hcs (fun j hj => ?_) (fun j hj => h1.free _) hvs (map_cells K) h1v 9 9 1 cs.length (blk_shape hq) (blk_shape h1) (by omega) (hq.free _) (hq.free _)).mono ?_
        · rw [h1.cell, List.getElem?_eq_getElem (by omega)]; rfl
        · rintro e w' ⟨rfl, rfl⟩
          have hb2 := blk_setCells14 ((K.map Value.string).drop i) (0 + (i + 1)) w.drew cs h1 (by simp; omega)
          have hb3 := blk_setCells14 [Value.string key] (0 + i) _ _ hb2 (by simp; omega)
          have TT : Turn (fun k => k = g) w (World.setCells (World.setCells w.drew g (0 + (i + 1)) ((K.map Value.string).drop i)) g (0 + i) [Value.string key]) := turn_setCells14 _ _ (turn_setCells14 _ _ (Turn.refl _ _).drew (.inl rfl)) (.inl rfl)
          refine ⟨_, rfl, ?_, TT.mono (fun k _ e => by rw [e]; rfl), .inl rfl, hq.turn TT hgb⟩
          have := Kr.of (K := insK K i key) (cap := cap) hb3 (by rw [insK_len K i key hi]; exact hroom) h3 (by simp; omega) (by
            rw [insK_len K i key hi]
            simp only [Nat.zero_add]
            rw [list_shift cs (K.map Value.string) i K.length (.string key) hi (by omega) (by simp) h5]
            simp [insK, List.map_take, List.map_drop])
          rw [insK_len K i key hi] at this
          exact this
      · refine (Any2.slices_Insert_string_grow lays22 g 0 K.length cap i b 0 1 1 (K.map Value.string) [.string key] w hlt (by omega) h2 (by omega) (by omega) (by simp) rfl hcs hvs (map_cells K) h1v).mono ?_
        rintro e w' ⟨rfl, rfl⟩
        obtain ⟨g1, g2⟩ := hcap cap
        obtain ⟨GC, hGC⟩ : ∃ q, grownCap w (K.length + 1) cap 9 = q := ⟨_, rfl⟩
        have hnb : Blk (w.alloc (.cells (((K.map Value.string).take i).toArray ++ Builtin.zeroCells (Value.string ⟨#[]⟩).cells (K.length + 1 - i) ++ Builtin.zeroCells (Value.string ⟨#[]⟩).cells (grownCap w (K.length + 1) cap 9 - (K.length + 1))) 9)).drew w.heap.size 9 (((K.map Value.string).take i).toArray ++ Builtin.zeroCells (Value.string ⟨#[]⟩).cells (K.length + 1 - i) ++ Builtin.zeroCells (Value.string ⟨#[]⟩).cells (grownCap w (K.length + 1) cap 9 - (K.length + 1))).toList := by
          unfold Blk
          rw [Array.toArray_toList]
          exact heap_alloc_new w _
        rw [hGC] at hnb g1 g2
        obtain ⟨C, hC⟩ : ∃ C, (((K.map Value.string).take i).toArray ++ Builtin.zeroCells (Value.string ⟨#[]⟩).cells (K.length + 1 - i) ++ Builtin.zeroCells (Value.string ⟨#[]⟩).cells (GC - (K.length + 1))).toList = C := ⟨_, rfl⟩
        have hCl : C.length = GC := by
          rw [← hC, Array.length_toList]
          simp only [Array.size_append, zeroCells_str, List.size_toArray, List.length_take, List.length_map]
          omega
        have hCt : C.take i = (K.take i).map Value.string := by
          rw [← hC]
          simp only [Array.toList_append, List.append_assoc]
          rw [List.take_append_of_le_length (by simp; omega), List.take_of_length_le (by simp; omega), List.map_take]
        rw [hC] at hnb
        have hb2 := blk_setCells14 [Value.string key] i _ C hnb (by simp; omega)
        have hb3 := blk_setCells14 ((K.map Value.string).drop i) (i + 1) _ _ hb2.drew (by simp; omega)
        have TT : Turn (fun _ => False) w (((w.alloc (.cells (((K.map Value.string).take i).toArray ++ Builtin.zeroCells (Value.string ⟨#[]⟩).cells (K.length + 1 - i) ++ Builtin.zeroCells (Value.string ⟨#[]⟩).cells (grownCap w (K.length + 1) cap 9 - (K.length + 1))) 9)).drew.setCells w.heap.size i [Value.string key]).drew.setCells w.heap.size (i + 1) ((K.map Value.string).drop i)) := turn_setCells14 _ _ (turn_setCells14 _ _ ((Turn.refl _ _).alloc _).drew (.inr (Nat.le_refl _))).drew (.inr (Nat.le_refl _))
        refine ⟨_, rfl, ?_, TT.mono (fun k _ e => e.elim), .inr rfl, hq.turn TT (fun h => h)⟩
        have := Kr.of (K := insK K i key) (cap := GC) hb3 (by rw [insK_len K i key hi]; exact g1) g2 (by simp; omega) (by
          rw [insK_len K i key hi]
          rw [list_grow C (K.map Value.string) i K.length (.string key) hi (by omega) (by simp) (by rw [hCt, List.map_take])]
          simp [insK, List.map_take, List.map_drop])
        rw [insK_len K i key hi, ← hGC] at this
        exact this
end Go.Proofs.Ytjkfgbmlhglnfaa
