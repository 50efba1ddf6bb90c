/- Layer 5: rows of slots, and whether two are the same. -/
import Derived.Test.YtpccelebidiekaaSltN
namespace Go.Proofs.Ytpccelebidiekaa
open Go.RowKit
set_option linter.unusedVariables false
set_option maxRecDepth 100000

/-- A slice that reads as these slots, from its block's beginning on. -/
def Row5 (w : World) (v : Value) (R : List St) : Prop :=
  ∃ A cap, v = .slice A R.length cap ∧ (0 < R.length → ∃ b, A = some ⟨b, 0, none⟩ ∧ b < w.heap.size ∧ ∀ j s, R[j]? = some s → ∀ i, i < 5 → w.cell? ⟨b, j * 5 + i, none⟩ = (scells s)[i]?)
theorem Row5.nil (w : World) (A : Option Addr) (cap : Nat) : Row5 w (.slice A 0 cap) [] := ⟨A, cap, rfl, fun h => absurd h (by simp)⟩
theorem Row5.own {w : World} {base n : Nat} {v : Value} {R : List St} (h : w.ownsRow base 23 5 v n (R.flatMap scells)) (hn : R.length = n) : Row5 w v R := by
  rcases h.2 with ⟨rfl, h0⟩ | ⟨b, cap, cur, rfl, _, hh, _, _, _, ht⟩
  · exact ⟨none, 0, by rw [hn, h0], fun hp => by omega⟩
  · exact ⟨_, _, by rw [hn], fun _ => ⟨b, rfl, (Array.getElem?_eq_some_iff.1 hh).1, fun j s hj i hi => row5_cell hh ht hn j s hj i hi⟩⟩
theorem Row5.below {w w' : World} {v : Value} {R : List St} (h : Row5 w v R) {B : Nat} (hb : Below B w w') (hB : w.heap.size ≤ B) : Row5 w' v R := by
  obtain ⟨A, cap, rfl, hr⟩ := h
  refine ⟨A, cap, rfl, fun hp => ?_⟩
  obtain ⟨b, rfl, hlt, hc⟩ := hr hp
  refine ⟨b, rfl, Nat.lt_of_lt_of_le hlt (by have := hb.size; omega), fun j s hj i hi => ?_⟩
  rw [← hc j s hj i hi]
  exact hb.cell (p := ⟨b, j * 5 + i, none⟩) (by show b < B; omega)
theorem bytes_same5 (S : ByteArray) : (S.toList == S.toList) = true := by simp
set_option maxHeartbeats 2000000 in
theorem refSame5 (R : List St) (hR : R.length ≤ 1000000) (v1 v2 : Value) (w : World) (h1 : Row5 w v1 R) (h2 : Row5 w v2 R) :
    Calls Try.prog 21 #[v1, v2] w fun r w' => r = .returned (.bool true) ∧ Below w.heap.size w w' := by
  obtain ⟨A1, c1, rfl, r1⟩ := h1
  obtain ⟨A2, c2, rfl, r2⟩ := h2
  have HR1 := Lib.hid r1
  have HR2 := Lib.hid r2
  clear r1 r2
  obtain ⟨n, hn⟩ : ∃ n, R.length = n := ⟨_, rfl⟩
  have HN := Lib.hid hn
  rw [hn] at hR ⊢
  clear hn
  have he : ((n : Int) == (n : Int)) = true := by simp
  have hne : ((n : Int) != (n : Int)) = false := by simp
  go_enter Try.func21, Try.ntmps21
  go_wp2
  go_loopw [5] (fun i wr => ∃ j : Nat, j ≤ n ∧ i = .int .i64 j ∧ Below w.heap.size w wr) (fun i _ => n - (intOf i).toNat)
  case atStart => exact ⟨0, Nat.zero_le _, rfl, Below.refl _ _⟩
  case round =>
    obtain ⟨j, hj, rfl, hbl⟩ := hrel
    by_cases hlt : j < n
    · obtain ⟨b1, rfl, lt1, q1⟩ := HR1.out (by rw [HN.out]; omega)
      obtain ⟨b2, rfl, lt2, q2⟩ := HR2.out (by rw [HN.out]; omega)
      obtain ⟨s, hs⟩ : ∃ s, R[j]? = some s := ⟨_, List.getElem?_eq_getElem (by rw [HN.out]; omega)⟩
      have x0 := (hbl.drew.cell (p := ⟨b1, j * 5 + 0, none⟩) lt1).trans (q1 j s hs 0 (by decide))
      have x1 := (hbl.drew.cell (p := ⟨b1, j * 5 + 1, none⟩) lt1).trans (q1 j s hs 1 (by decide))
      have x2 := (hbl.drew.cell (p := ⟨b1, j * 5 + 2, none⟩) lt1).trans (q1 j s hs 2 (by decide))
      have x3 := (hbl.drew.cell (p := ⟨b1, j * 5 + 3, none⟩) lt1).trans (q1 j s hs 3 (by decide))
      have x4 := (hbl.drew.cell (p := ⟨b1, j * 5 + 4, none⟩) lt1).trans (q1 j s hs 4 (by decide))
      have y0 := (hbl.drew.cell (p := ⟨b2, j * 5 + 0, none⟩) lt2).trans (q2 j s hs 0 (by decide))
      have y1 := (hbl.drew.cell (p := ⟨b2, j * 5 + 1, none⟩) lt2).trans (q2 j s hs 1 (by decide))
      have y2 := (hbl.drew.cell (p := ⟨b2, j * 5 + 2, none⟩) lt2).trans (q2 j s hs 2 (by decide))
      have y3 := (hbl.drew.cell (p := ⟨b2, j * 5 + 3, none⟩) lt2).trans (q2 j s hs 3 (by decide))
      have y4 := (hbl.drew.cell (p := ⟨b2, j * 5 + 4, none⟩) lt2).trans (q2 j s hs 4 (by decide))
      simp only [scells, List.getElem?_cons_zero, List.getElem?_cons_succ, Nat.add_zero] at x0 x1 x2 x3 x4 y0 y1 y2 y3 y4
      have hi1 : (j : Int) < (n : Int) := by omega
      have hi2 : (0 : Int) ≤ (j : Int) := by omega
      have z3 := wrap_of ((j : Int) + 1) (by omega) (by omega)
      have z4 := bytes_same5 s.d
      clear q1 q2 hs
      go_wp2
      refine wp_region_noPanic ?_
      refine wp_region_held_drew (S := fun X => X.cell? ⟨b1, j * 5, none⟩ = some (.int .i64 s.e) ∧ X.cell? ⟨b1, j * 5 + 1, none⟩ = some (.int .i64 s.q) ∧ X.cell? ⟨b1, j * 5 + 2, none⟩ = some (.bool s.f) ∧ X.cell? ⟨b1, j * 5 + 3, none⟩ = some (.bool s.z) ∧ X.cell? ⟨b1, j * 5 + 4, none⟩ = some (.string s.d) ∧ X.cell? ⟨b2, j * 5, none⟩ = some (.int .i64 s.e) ∧ X.cell? ⟨b2, j * 5 + 1, none⟩ = some (.int .i64 s.q) ∧ X.cell? ⟨b2, j * 5 + 2, none⟩ = some (.bool s.f) ∧ X.cell? ⟨b2, j * 5 + 3, none⟩ = some (.bool s.z) ∧ X.cell? ⟨b2, j * 5 + 4, none⟩ = some (.string s.d)) (by kernel_rfl) ⟨x0, x1, x2, x3, x4, y0, y1, y2, y3, y4⟩ (fun hHeld => ?_)
      clear x0 x1 x2 x3 x4 y0 y1 y2 y3 y4
      refine wpAnyH_take (i := 0) (v := ?_) rfl (by kernel_rfl) (by kernel_rfl) (by kernel_rfl) (fun _ _ _ h => h) (Or.inl ⟨by rfl, ?_⟩) (by assumption) ?_
      rotate_left 1
      · intro w' hSw
        obtain ⟨x0, x1, x2, x3, x4, y0, y1, y2, y3, y4⟩ := hSw
        go_simp
        all_goals first | with_reducible rfl | (rw [if_pos (by omega)]; with_reducible rfl) | (rw [if_neg (by omega)]; with_reducible rfl)
      try simp only [List.getElem_toArray, List.getElem_cons_zero, Act.put, List.setIfInBounds_toArray, List.set_cons_zero, List.set_cons_succ]
      refine wpAnyH_take (i := 1) (v := ?_) rfl (by kernel_rfl) (by kernel_rfl) (by kernel_rfl) (fun _ _ _ h => h) (Or.inl ⟨by rfl, ?_⟩) (by assumption) ?_
      rotate_left 1
      · intro w' hSw
        obtain ⟨x0, x1, x2, x3, x4, y0, y1, y2, y3, y4⟩ := hSw
        go_simp
        all_goals first | with_reducible rfl | (rw [if_pos (by omega)]; with_reducible rfl) | (rw [if_neg (by omega)]; with_reducible rfl)
      try simp only [List.getElem_toArray, List.getElem_cons_zero, List.getElem_cons_succ, Act.put, List.setIfInBounds_toArray, List.set_cons_zero, List.set_cons_succ]
      refine wpAnyH_take (i := 2) (v := ?_) rfl (by kernel_rfl) (by kernel_rfl) (by kernel_rfl) (fun _ _ _ h => h) (Or.inl ⟨by rfl, ?_⟩) (by assumption) ?_
      rotate_left 1
      · intro w' hSw
        obtain ⟨x0, x1, x2, x3, x4, y0, y1, y2, y3, y4⟩ := hSw
        go_simp
        all_goals first | with_reducible rfl | (rw [if_pos (by omega)]; with_reducible rfl) | (rw [if_neg (by omega)]; with_reducible rfl)
      try simp only [List.getElem_toArray, List.getElem_cons_zero, List.getElem_cons_succ, Act.put, List.setIfInBounds_toArray, List.set_cons_zero, List.set_cons_succ]
      refine wpAnyH_take (i := 3) (v := ?_) rfl (by kernel_rfl) (by kernel_rfl) (by kernel_rfl) (fun _ _ _ h => h) (Or.inl ⟨by rfl, ?_⟩) (by assumption) ?_
      rotate_left 1
      · intro w' hSw
        obtain ⟨x0, x1, x2, x3, x4, y0, y1, y2, y3, y4⟩ := hSw
        go_simp
        all_goals first | with_reducible rfl | (rw [if_pos (by omega)]; with_reducible rfl) | (rw [if_neg (by omega)]; with_reducible rfl)
      try simp only [List.getElem_toArray, List.getElem_cons_zero, List.getElem_cons_succ, Act.put, List.setIfInBounds_toArray, List.set_cons_zero, List.set_cons_succ]
      refine wpAnyH_take (i := 4) (v := ?_) rfl (by kernel_rfl) (by kernel_rfl) (by kernel_rfl) (fun _ _ _ h => h) (Or.inl ⟨by rfl, ?_⟩) (by assumption) ?_
      rotate_left 1
      · intro w' hSw
        obtain ⟨x0, x1, x2, x3, x4, y0, y1, y2, y3, y4⟩ := hSw
        go_simp
        all_goals first | with_reducible rfl | (rw [if_pos (by omega)]; with_reducible rfl) | (rw [if_neg (by omega)]; with_reducible rfl)
      try simp only [List.getElem_toArray, List.getElem_cons_zero, List.getElem_cons_succ, Act.put, List.setIfInBounds_toArray, List.set_cons_zero, List.set_cons_succ]
      refine wpAnyH_take (i := 5) (v := ?_) rfl (by kernel_rfl) (by kernel_rfl) (by kernel_rfl) (fun _ _ _ h => h) (Or.inl ⟨by rfl, ?_⟩) (by assumption) ?_
      rotate_left 1
      · intro w' hSw
        obtain ⟨x0, x1, x2, x3, x4, y0, y1, y2, y3, y4⟩ := hSw
        go_simp
        all_goals first | with_reducible rfl | (rw [if_pos (by omega)]; with_reducible rfl) | (rw [if_neg (by omega)]; with_reducible rfl)
      try simp only [List.getElem_toArray, List.getElem_cons_zero, List.getElem_cons_succ, Act.put, List.setIfInBounds_toArray, List.set_cons_zero, List.set_cons_succ]
      refine wpAnyH_take (i := 6) (v := ?_) rfl (by kernel_rfl) (by kernel_rfl) (by kernel_rfl) (fun _ _ _ h => h) (Or.inl ⟨by rfl, ?_⟩) (by assumption) ?_
      rotate_left 1
      · intro w' hSw
        obtain ⟨x0, x1, x2, x3, x4, y0, y1, y2, y3, y4⟩ := hSw
        go_simp
        all_goals first | with_reducible rfl | (rw [if_pos (by omega)]; with_reducible rfl) | (rw [if_neg (by omega)]; with_reducible rfl)
      try simp only [List.getElem_toArray, List.getElem_cons_zero, List.getElem_cons_succ, Act.put, List.setIfInBounds_toArray, List.set_cons_zero, List.set_cons_succ]
      refine wpAnyH_take (i := 7) (v := ?_) rfl (by kernel_rfl) (by kernel_rfl) (by kernel_rfl) (fun _ _ _ h => h) (Or.inl ⟨by rfl, ?_⟩) (by assumption) ?_
      rotate_left 1
      · intro w' hSw
        obtain ⟨x0, x1, x2, x3, x4, y0, y1, y2, y3, y4⟩ := hSw
        go_simp
        all_goals first | with_reducible rfl | (rw [if_pos (by omega)]; with_reducible rfl) | (rw [if_neg (by omega)]; with_reducible rfl)
      try simp only [List.getElem_toArray, List.getElem_cons_zero, List.getElem_cons_succ, Act.put, List.setIfInBounds_toArray, List.set_cons_zero, List.set_cons_succ]
      refine wpAnyH_take (i := 8) (v := ?_) rfl (by kernel_rfl) (by kernel_rfl) (by kernel_rfl) (fun _ _ _ h => h) (Or.inl ⟨by rfl, ?_⟩) (by assumption) ?_
      rotate_left 1
      · intro w' hSw
        obtain ⟨x0, x1, x2, x3, x4, y0, y1, y2, y3, y4⟩ := hSw
        go_simp
        all_goals first | with_reducible rfl | (rw [if_pos (by omega)]; with_reducible rfl) | (rw [if_neg (by omega)]; with_reducible rfl)
      try simp only [List.getElem_toArray, List.getElem_cons_zero, List.getElem_cons_succ, Act.put, List.setIfInBounds_toArray, List.set_cons_zero, List.set_cons_succ]
      refine wpAnyH_done (by kernel_rfl) ?_ _
      refine NoPanic.normal ?_
      go_wp2
      go_roundw
      case rel => exact ⟨j + 1, hlt, by simp, hbl.drew⟩
      case measure => simp [intOf]; omega
    · obtain rfl : j = n := by omega
      go_wp2
      go_ret
      exact ⟨rfl, hbl⟩
end Go.Proofs.Ytpccelebidiekaa
