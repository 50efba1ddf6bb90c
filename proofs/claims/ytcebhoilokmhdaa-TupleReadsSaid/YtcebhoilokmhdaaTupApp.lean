/- append of parts to a row of the call's own. -/
import Derived.Test.YtcebhoilokmhdaaTupleRangesW
namespace Go.Proofs.Ytcebhoilokmhdaa
open Go.RowKit
set_option linter.unusedVariables false

theorem Try.infoPart : (Try.prog.info? 88).map (fun i => (i.zero, i.size, i.bytes)) = some (some (.agg #[.int .i64 0, .int .i64 0, .string ByteArray.empty]), 3, 32) := by kernel_rfl
theorem info_parts3 {i : Option TypeInfo} {z : Option Value} {s b : Nat} (h : i.map (fun i => (i.zero, i.size, i.bytes)) = some (z, s, b)) : ∃ j, i = some j ∧ j.zero = z ∧ j.size = s ∧ j.bytes = b := by
  cases i with
  | none => cases h
  | some j => simp at h; exact ⟨j, rfl, h.1, h.2.1, h.2.2⟩
theorem pcs_one (l : List Pt) : ∀ u ∈ pcs l, u.oneCell' = true := by
  induction l with
  | nil => intro u h; cases h
  | cons p l ih =>
    intro u h
    simp only [pcs, List.mem_cons] at h
    rcases h with rfl | rfl | rfl | h
    · rfl
    · rfl
    · rfl
    · exact ih u h
theorem pcs_cell (ps : List Pt) : ∀ (i : Nat) (u : Value), (pcs ps)[i]? = some u → ∃ (j r : Nat) (p : Pt), i = j * 3 + r ∧ ps[j]? = some p ∧ ((r = 0 ∧ u = .int .i64 p.k) ∨ (r = 1 ∧ u = .int .i64 p.n) ∨ (r = 2 ∧ u = .string p.s)) := by
  induction ps with
  | nil => intro i u h; simp [pcs] at h
  | cons p ps ih =>
    intro i u h
    match i, h with
    | 0, h => cases h; exact ⟨0, 0, p, rfl, rfl, .inl ⟨rfl, rfl⟩⟩
    | 1, h => cases h; exact ⟨0, 1, p, rfl, rfl, .inr (.inl ⟨rfl, rfl⟩)⟩
    | 2, h => cases h; exact ⟨0, 2, p, rfl, rfl, .inr (.inr ⟨rfl, rfl⟩)⟩
    | i + 3, h =>
      obtain ⟨j, r, q, e, hq, hr⟩ := ih i u (by simpa [pcs] using h)
      exact ⟨j + 1, r, q, by omega, by simpa using hq, hr⟩
theorem parts_of_own {w : World} {base : Nat} {v : Value} {l : List Pt} (h : w.ownsRow base 88 3 v l.length (pcs l)) (hf : fine l) : Parts w w.heap.size v l := by
  obtain ⟨_, ⟨hv, h0⟩ | ⟨g, cap, cur, hv, hB, hh, hn, hc, hs, ht⟩⟩ := h
  · obtain rfl : l = [] := List.eq_nil_of_length_eq_zero h0
    exact ⟨none, 0, hv, (fun h => by simp at h), by simp, by simp, by simp⟩
  · subst hv
    have hg : g < w.heap.size := (Array.getElem?_eq_some_iff.1 hh).1
    have hcell : ∀ i u, (pcs l)[i]? = some u → w.cell? ⟨g, i, none⟩ = some u := fun i u hu => by
      rw [← ht, List.getElem?_take] at hu
      split at hu
      · have : w.cell? ⟨g, i, none⟩ = cur[i]? := by simp [World.cell?, hh]
        rw [this]; simpa using hu
      · cases hu
    refine ⟨_, cap, rfl, fun _ => ⟨_, rfl, rfl, hg, fun j p hj => ?_⟩, hf.1, hf.2, hn⟩
    obtain ⟨h0, h1, h2⟩ := pcs_at l j p hj
    simp only [Nat.zero_add]
    exact ⟨hcell _ _ h0, hcell _ _ h1, hcell _ _ h2⟩

section
variable {P : Program} {w : World}
theorem run_app_parts (base B : Nat) (t ty e : TypeId) (i : TypeInfo) (ht : P.underlying t = some (.slice e)) (hi : P.info? e = some i) (hz : i.zero = some (.agg #[.int .i64 0, .int .i64 0, .string ByteArray.empty])) (hsize : i.size = 3) (hby : i.bytes = 32)
    (v x : Value) (l m : List Pt) (hown : w.ownsRow base e 3 v l.length (pcs l)) (hx : Parts w B x m) (hbytes : l.length + m.length ≤ 1000000) (hbase : base ≤ w.heap.size) :
    ∃ v' w', (Builtin.append_ #[t, t] ty #[v, x]).run P w = .ok v' w' ∧ w'.ownsRow base e 3 v' (l ++ m).length (pcs (l ++ m)) ∧ w.grownBy w' v.ownBlock := by
  obtain ⟨A, cap, rfl, hr, hm, hlen, hcap⟩ := hx
  rw [List.length_append, pcs_app]
  have goal_some : ∀ ad : Addr, (∀ j u, (pcs m)[j]? = some u → w.cell? (ad.add j) = some u) → ∃ v' w', (Builtin.append_ #[t, t] ty #[v, .slice (some ad) m.length cap]).run P w = .ok v' w' ∧ w'.ownsRow base e 3 v' (l.length + m.length) (pcs l ++ pcs m) ∧ w.grownBy w' v.ownBlock := by
    intro ad hc
    obtain ⟨v', w', hrun, h2, h3, _⟩ := run_append_own (P := P) w base t ty e i _ 3 32 ht hi hz hsize hby rfl (by decide) v l.length (pcs l) hown ad m.length cap (pcs m) (len_pcs m) hc (pcs_one m) (by unfold maxLen; omega) (by omega) hbase
    exact ⟨v', w', hrun, h2, h3⟩
  by_cases h0 : m.length = 0
  · obtain rfl : m = [] := List.eq_nil_of_length_eq_zero h0
    cases A with
    | none =>
      have hrun : ∀ c, (Builtin.append_ #[t, t] ty #[v, .slice none 0 c]).run P w = .ok v w := fun c => by
        rcases hown.2 with ⟨rfl, hx⟩ | ⟨g, cap', cur, rfl, _, _, hnc, _⟩
        · simp [Builtin.append_, run_underlying ht, sizeOf, typeInfo, hi, Builtin.lenOf, Builtin.firstCells]
        · simp [Builtin.append_, run_underlying ht, sizeOf, typeInfo, hi, Builtin.lenOf, Builtin.firstCells, hnc, storeCells]
      exact ⟨v, w, hrun _, by simpa [pcs] using hown, ⟨rfl, rfl, rfl, Nat.le_refl _, fun _ _ _ => rfl⟩⟩
    | some ad => exact goal_some ad (fun j u hu => by simp [pcs] at hu)
  · obtain ⟨ad, rfl, hs, hb, hc⟩ := hr (by omega)
    refine goal_some ad fun j u hu => ?_
    obtain ⟨j', r, p, rfl, hp, hr'⟩ := pcs_cell m j u hu
    obtain ⟨h1, h2, h3⟩ := hc j' p hp
    obtain ⟨b, o, sp⟩ := ad
    simp at hs; subst hs
    rw [show (⟨b, o, none⟩ : Addr).add (j' * 3 + r) = ⟨b, o + j' * 3 + r, none⟩ from by unfold Addr.add; split <;> simp_all <;> omega]
    rcases hr' with ⟨rfl, rfl⟩ | ⟨rfl, rfl⟩ | ⟨rfl, rfl⟩
    · exact h1
    · exact h2
    · exact h3
theorem wpList_app_parts {ops : Array Oper} {rest : List Oper} {o : Oper} {a : Act} {Q : Exit → Act → World → Prop} (hgd : o.guard = none) (s y : Operand) (t : TypeId)
    (ho : o.op = .call { callee := .builtin .append, args := #[s, y], argTypes := #[t, t] })
    (base B : Nat) (e : TypeId) (i : TypeInfo) (ht : P.underlying t = some (.slice e)) (hi : P.info? e = some i) (hz : i.zero = some (.agg #[.int .i64 0, .int .i64 0, .string ByteArray.empty])) (hsize : i.size = 3) (hby : i.bytes = 32)
    (v x : Value) (l m : List Pt) (hs : a.eval s = v) (hy : a.eval y = x) (hown : w.ownsRow base e 3 v l.length (pcs l)) (hx : Parts w B x m) (hbytes : l.length + m.length ≤ 1000000) (hbase : base ≤ w.heap.size)
    (h : ∀ v' w', w'.ownsRow base e 3 v' (l ++ m).length (pcs (l ++ m)) → Turn (fun k => v.ownBlock = some k) w w' → wpList P ops Q rest (a.put o.dst v') w') : wpList P ops Q (o :: rest) a w :=
  wpList_plain hgd fun K hK => by
    obtain ⟨v', w', hr, h2, h3⟩ := run_app_parts (P := P) (w := w) base B t o.type e i ht hi hz hsize hby v x l m hown hx hbytes hbase
    unfold Oper.wp execOp
    simp only [ho, resolve, invoke, builtin, Sem.run_bind, Sem.run_pure, Result.andThen_ok, List.map_toArray, List.map_cons, List.map_nil, hs, hy, hr]
    exact hK _ _ (h v' w' h2 (turn_grown h3))
end
theorem own_empty_parts (w : World) (B : Nat) (hB : B ≤ w.heap.size) : (w.alloc (.cells #[] 88)).ownsRow B 88 3 (.slice (some ⟨w.heap.size, 0, none⟩) 0 0) 0 (pcs []) :=
  ⟨rfl, .inr ⟨_, 0, #[], rfl, hB, heap_alloc_new w _, Nat.le_refl _, by simp [maxLen], rfl, rfl⟩⟩
theorem own_below3 {w w' : World} {base e n : Nat} {v : Value} {xs : List Value} (h : w.ownsRow base e 3 v n xs) (ht : Turn (fun k => v.ownBlock = some k) w w') (hb : base ≤ w.heap.size) : Below base w w' :=
  ht.below hb fun k hk => (h.lt k hk).1
theorem fine_app {a b : List Pt} (ha : fine a) (hb : fine b) (h : a.length + b.length ≤ 140737488351232) : fine (a ++ b) :=
  ⟨fun p hp => (List.mem_append.1 hp).elim (ha.1 p) (hb.1 p), by rw [List.length_append]; omega⟩
end Go.Proofs.Ytcebhoilokmhdaa
