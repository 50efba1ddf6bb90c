/- Layer 7: the document's rows held side by side. -/
import Derived.Test.YtmedljnbcpdoeaaDoorAlK
import Derived.Deep.QuietTactic
import Derived.BigQuiet
namespace Go.Proofs.YtmedljnbcpdoeaaDoor
open Go.RowKit
set_option linter.unusedVariables false
set_option maxRecDepth 100000

/-- A value that reads as these pairs. -/
def Pr (W : World) (v : Value) (xs : List (Nat × Nat)) : Prop := ∃ A c, v = .slice A xs.length c ∧
  (0 < xs.length → ∃ b, A = some ⟨b, 0, none⟩ ∧ b < W.heap.size ∧ ∀ j x, xs[j]? = some x → W.cell? ⟨b, j * 2, none⟩ = some (.int .i64 (x.1 : Int)) ∧ W.cell? ⟨b, j * 2 + 1, none⟩ = some (.int .i64 (x.2 : Int)))
theorem flat_at7 (l : List (Nat × Nat)) (j i : Nat) (s : Nat × Nat) (hs : l[j]? = some s) (hi : i < 2) : (l.flatMap rc7)[j * 2 + i]? = (rc7 s)[i]? := by
  induction l generalizing j with
  | nil => simp at hs
  | cons x l ih =>
    rw [List.flatMap_cons]
    cases j with
    | zero =>
      simp only [List.getElem?_cons_zero, Option.some.injEq] at hs
      subst hs
      rw [List.getElem?_append_left (by simp [rc7]; omega)]
      simp
    | succ j =>
      simp only [List.getElem?_cons_succ] at hs
      rw [List.getElem?_append_right (by simp [rc7]; omega), ← ih j hs]
      congr 1
      simp [rc7]; omega
theorem pr_blk {W : World} {b t c : Nat} {xs : List (Nat × Nat)} {rest : List Value} (h : Blk W b t (xs.flatMap rc7 ++ rest)) : Pr W (.slice (some ⟨b, 0, none⟩) xs.length c) xs := by
  refine ⟨_, _, rfl, fun _ => ⟨b, rfl, h.lt, fun j x hj => ?_⟩⟩
  have hjl := (List.getElem?_eq_some_iff.1 hj).1
  have hl := len_rc7 xs
  constructor
  · have := h.cell (j * 2)
    rw [List.getElem?_append_left (by omega), show j * 2 = j * 2 + 0 from rfl, flat_at7 xs j 0 x hj (by decide)] at this
    exact this
  · have := h.cell (j * 2 + 1)
    rw [List.getElem?_append_left (by omega), flat_at7 xs j 1 x hj (by decide)] at this
    exact this
theorem pr_own {W : World} {base t : Nat} {v : Value} {xs : List (Nat × Nat)} (h : W.ownsRow base t 2 v xs.length (xs.flatMap rc7)) : Pr W v xs := by
  rcases h.2 with ⟨e1, e2⟩ | ⟨g, cap, cur, rfl, hb, hgg, _, _, _, ht⟩
  · exact ⟨none, 0, by rw [e1, e2], fun h => by omega⟩
  · refine pr_blk (t := t) (rest := cur.toList.drop (xs.length * 2)) ?_
    rw [← ht, List.take_append_drop]
    unfold Blk
    simpa using hgg
theorem Pr.turn {W W' : World} {v : Value} {xs : List (Nat × Nat)} {S : Nat → Prop} (h : Pr W v xs) (ht : Turn S W W') (hS : ∀ b, v.ownBlock = some b → ¬ S b) : Pr W' v xs := by
  obtain ⟨A, c, rfl, hx⟩ := h
  refine ⟨A, c, rfl, fun hp => ?_⟩
  obtain ⟨b, rfl, hb, hc⟩ := hx hp
  refine ⟨b, rfl, Nat.lt_of_lt_of_le hb ht.size, fun j x hj => ?_⟩
  have hk := ht.block b hb (hS b rfl)
  exact ⟨(World.cell?_of_block (w := W) (a := ⟨b, j * 2, none⟩) hk).trans (hc j x hj).1, (World.cell?_of_block (w := W) (a := ⟨b, j * 2 + 1, none⟩) hk).trans (hc j x hj).2⟩
theorem Pr.still {W W' : World} {v : Value} {xs : List (Nat × Nat)} (h : Pr W v xs) (ht : Turn (fun _ => False) W W') : Pr W' v xs := h.turn ht (fun _ _ h => h)
theorem size_int (w : World) : (sizeOf 3).run Tryd.prog w = .ok 1 w := by kernel_rfl
theorem part_0 (x y : Int) (w : World) : (part 3 #[Value.int IntKind.i64 x, Value.int IntKind.i64 y] 0).run Tryd.prog w = .ok (.int .i64 x) w := by kernel_rfl
theorem part_1 (x y : Int) (w : World) : (part 3 #[Value.int IntKind.i64 x, Value.int IntKind.i64 y] 1).run Tryd.prog w = .ok (.int .i64 y) w := by kernel_rfl
theorem same_list {xs ys : List (Nat × Nat)} (hl : xs.length = ys.length) (h : ∀ j, j < xs.length → xs[j]? = ys[j]?) : xs = ys := by
  apply List.ext_getElem? 
  intro j
  rcases Nat.lt_or_ge j xs.length with hj | hj
  · exact h j hj
  · rw [List.getElem?_eq_none hj, List.getElem?_eq_none (by omega)]
end Go.Proofs.YtmedljnbcpdoeaaDoor
