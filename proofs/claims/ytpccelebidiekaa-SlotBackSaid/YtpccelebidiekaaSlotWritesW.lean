/- The walk of ambrylaw05.SlotWrites. -/
import Derived.Test.YtpccelebidiekaaSlotReadsW
import Derived.Test.YtpccelebidiekaaSltF
import Derived.Test.YtpccelebidiekaaFrameS
namespace Go.Proofs.Ytpccelebidiekaa
open Go.RowKit
set_option linter.unusedVariables false
set_option maxRecDepth 100000

/-- What both Bytes tell of one slot: the same bytes, the same error. -/
theorem bytes_both (s : St) : ∃ (l : List UInt8) (x : Int), (r5 s = true → l = put5 s ∧ x = 0) ∧ (r5 s = false → l = [] ∧ x = 2) ∧
    (∀ w, Calls Try.prog 12 #[stv s] w fun r w' => ∃ A c, r = .returned (.tuple #[.slice A l.length c, .int .i64 x]) ∧ Sl w' w'.heap.size (.slice A l.length c) l ∧ Below w.heap.size w w') := by
  cases h : r5 s with
  | true =>
    refine ⟨put5 s, 0, fun _ => ⟨rfl, rfl⟩, (fun h => by cases h), fun w => (bytes5_ok s h w).mono ?_⟩
    rintro e w' ⟨v, rfl, ho, hb⟩
    rw [← len_put5 (r5_yes h).2.2.2.2] at ho
    have hs := Sl.of_own ho
    obtain ⟨A, c, he⟩ : ∃ A c, v = .slice A (put5 s).length c := by obtain ⟨A, c, e, _⟩ := hs; exact ⟨A, c, e⟩
    subst he
    exact ⟨A, c, rfl, hs, hb⟩
  | false =>
    refine ⟨[], 2, (fun h => by cases h), fun _ => ⟨rfl, rfl⟩, fun w => (bytes5_bad s h w).mono ?_⟩
    rintro e w' ⟨rfl, hb⟩
    exact ⟨none, 0, rfl, sl_nil _ _, hb⟩
theorem refBytes_both (s : St) : ∀ w, Calls Try.prog 13 #[stv s] w fun r w' => r = .returned (.tuple #[.string ⟨(if r5 s then put5 s else []).toArray⟩, .int .i64 (if r5 s then 0 else 2)]) ∧ Turn (fun _ => False) w w' := by
  intro w
  cases h : r5 s with
  | true => exact refBytes5_ok s h _ rfl w
  | false => exact refBytes5_bad s h w

set_option maxHeartbeats 2000000 in
theorem slotWrites_walk (s : St) (w : World) (_ : (Lit.int .i64 s.e).wf = true) (_ : (Lit.int .i64 s.q).wf = true) :
    Calls Try.prog 3 #[stv s] w fun e w' => e = .returned (.bool true) ∧ Below w.heap.size w w' := by
  obtain ⟨l, x, h1, h2, hb⟩ := bytes_both s
  have hl : (if r5 s then put5 s else []) = l ∧ (if r5 s then (0 : Int) else 2) = x := by
    cases h : r5 s with
    | true => exact ⟨(h1 h).1.symm, (h1 h).2.symm⟩
    | false => exact ⟨(h2 h).1.symm, (h2 h).2.symm⟩
  have HB := Lib.hid hb
  have HR := Lib.hid (refBytes_both s)
  rw [hl.1, hl.2] at HR
  have HC := Lib.hid (check5 s)
  have HRC := Lib.hid (refCheck5 s)
  rw [hl.2] at HC HRC
  clear hb h1 h2 hl
  have z6 : (x == x) = true := by simp
  have z5 := str_same ⟨l.toArray⟩
  obtain ⟨e, q, f, z, d⟩ := s
  unfold stv sbox at *
  simp only at HB HR HC HRC
  go_enter Try.func3, Try.ntmps3
  go_wp2_with fail
  refine (HB.out _).mono ?_
  rintro e1 w1 ⟨A1, c1, rfl, s1, hb1⟩
  have S1 := Lib.hid s1
  have HB1 := Lib.hid (((Below.refl w.heap.size w).alloc (Nat.le_refl _) (sbox ⟨e, q, f, z, d⟩)).trans (hb1.mono (by rw [World.size_alloc]; exact Nat.le_succ _)))
  have hlt : w.heap.size < w1.heap.size := by have := hb1.size; rw [World.size_alloc] at this; omega
  obtain ⟨p0, p1, p2, p3, p4⟩ := box5_cells (s := ⟨e, q, f, z, d⟩) hb1
  have HP := Lib.hid (And.intro p0 (And.intro p1 (And.intro p2 (And.intro p3 p4))))
  clear s1 hb1
  go_wp2_with fail
  refine (HR.out _).mono ?_
  rintro e2 w2 ⟨rfl, t2⟩
  have HS : Hid (∀ X, Below w2.heap.size w2 X → (X.cell? ⟨w.heap.size, 0, none⟩ = some (.int .i64 e) ∧ X.cell? ⟨w.heap.size, 1, none⟩ = some (.int .i64 q) ∧ X.cell? ⟨w.heap.size, 2, none⟩ = some (.bool f) ∧ X.cell? ⟨w.heap.size, 3, none⟩ = some (.bool z) ∧ X.cell? ⟨w.heap.size, 4, none⟩ = some (.string d)) ∧ (convert 24 9 (.slice A1 l.length c1)).run Try.prog X = .ok (.string ⟨l.toArray⟩) X) := Lib.hid (fun X hX => by
    have hB : Below w1.heap.size w1 X := (t2.below (Nat.le_refl _) (fun k h => h.elim)).trans (hX.mono t2.size)
    obtain ⟨q0, q1, q2, q3, q4⟩ := HP.out
    exact ⟨⟨(hB.cell (p := ⟨w.heap.size, 0, none⟩) hlt).trans q0, (hB.cell (p := ⟨w.heap.size, 1, none⟩) hlt).trans q1, (hB.cell (p := ⟨w.heap.size, 2, none⟩) hlt).trans q2, (hB.cell (p := ⟨w.heap.size, 3, none⟩) hlt).trans q3, (hB.cell (p := ⟨w.heap.size, 4, none⟩) hlt).trans q4⟩, sl_conv (S1.out.below hB (Nat.le_refl _))⟩)
  have HB2 := Lib.hid (HB1.out.trans (t2.below (B := w.heap.size) (by omega) (fun k h => h.elim)))
  clear t2 p0 p1 p2 p3 p4
  have HCK : Hid (∀ W, Calls Try.prog 14 #[.agg #[.int .i64 e, .int .i64 q, .bool f, .bool z, .string d]] W fun e w' => ∃ v, e = .returned v ∧ (v = .int .i64 x ∧ Below W.heap.size W w')) := Lib.hid (fun W => (HC.out W).mono (fun e w' h => ⟨_, h.1, rfl, by rw [h.2]; exact (Below.refl _ _).alloc (Nat.le_refl _) _⟩))
  have HRK : Hid (∀ W, Calls Try.prog 15 #[.agg #[.int .i64 e, .int .i64 q, .bool f, .bool z, .string d]] W fun e w' => ∃ v, e = .returned v ∧ (v = .int .i64 x ∧ Below W.heap.size W w')) := Lib.hid (fun W => (HRC.out W).mono (fun e w' h => ⟨_, h.1, rfl, h.2⟩))
  have HLV : Hid (∀ W, Calls Try.prog 16 #[] W fun e w' => ∃ v, e = .returned v ∧ (v = .bool true ∧ Below W.heap.size W w')) := Lib.hid (fun W => (lives5_any W).mono (fun e w' h => ⟨_, h.1, rfl, h.2⟩))
  go_wp2_with fail
  refine wp_region_noPanic ?_
  refine wp_region_held_drew (S := fun X => (X.cell? ⟨w.heap.size, 0, none⟩ = some (.int .i64 e) ∧ X.cell? ⟨w.heap.size, 1, none⟩ = some (.int .i64 q) ∧ X.cell? ⟨w.heap.size, 2, none⟩ = some (.bool f) ∧ X.cell? ⟨w.heap.size, 3, none⟩ = some (.bool z) ∧ X.cell? ⟨w.heap.size, 4, none⟩ = some (.string d)) ∧ (convert 24 9 (.slice A1 l.length c1)).run Try.prog X = .ok (.string ⟨l.toArray⟩) X) (by kernel_rfl) (HS.out _ (Below.refl w2.heap.size w2).drew) (fun hHeld => ?_)
  -- region
  refine wpAnyH_take (i := 0) (v := ?_) rfl (by kernel_rfl) (by kernel_rfl) (by kernel_rfl) (fun _ _ _ h => h) (Or.inl ⟨by rfl, ?_⟩) (by assumption) ?_
  rotate_left 1
  · intro w' hSw
    go_simp
    all_goals first | with_reducible rfl | (rw [if_neg (by omega)]; done) | (rw [if_neg (by omega)]; with_reducible rfl) | (rw [if_pos (by omega)]; with_reducible rfl)
  try simp only [List.getElem_toArray, List.getElem_cons_zero, Act.put, List.setIfInBounds_toArray, List.set_cons_zero, List.set_cons_succ]
  refine wpAnyH_take (i := 1) (v := ?_) rfl (by kernel_rfl) (by kernel_rfl) (by kernel_rfl) (fun _ _ _ h => h) (Or.inl ⟨by rfl, ?_⟩) (by assumption) ?_
  rotate_left 1
  · intro w' hSw
    obtain ⟨⟨p0, p1, p2, p3, p4⟩, hcv⟩ := hSw
    go_simp
    all_goals first | with_reducible rfl | (rw [if_neg (by omega)]; done) | (rw [if_neg (by omega)]; with_reducible rfl) | (rw [if_pos (by omega)]; with_reducible rfl)
  try simp only [List.getElem_toArray, List.getElem_cons_zero, List.getElem_cons_succ, Act.put, List.setIfInBounds_toArray, List.set_cons_zero, List.set_cons_succ]
  refine wpAnyH_take (i := 2) (v := ?_) rfl (by kernel_rfl) (by kernel_rfl) (by kernel_rfl) (fun _ _ _ h => h) (Or.inl ⟨by rfl, ?_⟩) (by assumption) ?_
  rotate_left 1
  · intro w' hSw
    go_simp
    all_goals first | with_reducible rfl | (rw [if_neg (by omega)]; done) | (rw [if_neg (by omega)]; with_reducible rfl) | (rw [if_pos (by omega)]; with_reducible rfl)
  try simp only [List.getElem_toArray, List.getElem_cons_zero, List.getElem_cons_succ, Act.put, List.setIfInBounds_toArray, List.set_cons_zero, List.set_cons_succ]
  refine wpAnyH_take (i := 3) (v := ?_) rfl (by kernel_rfl) (by kernel_rfl) (by kernel_rfl) (fun _ _ _ h => h) (Or.inl ⟨by rfl, ?_⟩) (by assumption) ?_
  rotate_left 1
  · intro w' hSw
    go_simp
    all_goals first | with_reducible rfl | (rw [if_neg (by omega)]; done) | (rw [if_neg (by omega)]; with_reducible rfl) | (rw [if_pos (by omega)]; with_reducible rfl)
  try simp only [List.getElem_toArray, List.getElem_cons_zero, List.getElem_cons_succ, Act.put, List.setIfInBounds_toArray, List.set_cons_zero, List.set_cons_succ]
  refine wpAnyH_take (i := 4) (v := ?_) rfl (by kernel_rfl) (by kernel_rfl) (by kernel_rfl) (fun _ _ _ h => h) (Or.inl ⟨by rfl, ?_⟩) (by assumption) ?_
  rotate_left 1
  · intro w' hSw
    go_simp
    all_goals first | with_reducible rfl | (rw [if_neg (by omega)]; done) | (rw [if_neg (by omega)]; with_reducible rfl) | (rw [if_pos (by omega)]; with_reducible rfl)
  try simp only [List.getElem_toArray, List.getElem_cons_zero, List.getElem_cons_succ, Act.put, List.setIfInBounds_toArray, List.set_cons_zero, List.set_cons_succ]
  refine wpAnyH_take (i := 5) (v := ?_) rfl (by kernel_rfl) (by kernel_rfl) (by kernel_rfl) (fun _ _ _ h => h) (Or.inl ⟨by rfl, ?_⟩) (by assumption) ?_
  rotate_left 1
  · intro w' hSw
    go_simp
    all_goals first | with_reducible rfl | (rw [if_neg (by omega)]; done) | (rw [if_neg (by omega)]; with_reducible rfl) | (rw [if_pos (by omega)]; with_reducible rfl)
  try simp only [List.getElem_toArray, List.getElem_cons_zero, List.getElem_cons_succ, Act.put, List.setIfInBounds_toArray, List.set_cons_zero, List.set_cons_succ]
  refine wpAnyH_take (i := 6) (v := ?_) rfl (by kernel_rfl) (by kernel_rfl) (by kernel_rfl) (fun _ _ _ h => h) (Or.inl ⟨by rfl, ?_⟩) (by assumption) ?_
  rotate_left 1
  · intro w' hSw
    go_simp
    all_goals first | with_reducible rfl | (rw [if_neg (by omega)]; done) | (rw [if_neg (by omega)]; with_reducible rfl) | (rw [if_pos (by omega)]; with_reducible rfl)
  try simp only [List.getElem_toArray, List.getElem_cons_zero, List.getElem_cons_succ, Act.put, List.setIfInBounds_toArray, List.set_cons_zero, List.set_cons_succ]
  refine wpAnyH_take (i := 7) (v := ?_) rfl (by kernel_rfl) (by kernel_rfl) (by kernel_rfl) (fun _ _ _ h => h) (Or.inl ⟨by rfl, ?_⟩) (by assumption) ?_
  rotate_left 1
  · intro w' hSw
    go_simp
    all_goals first | with_reducible rfl | (rw [if_neg (by omega)]; done) | (rw [if_neg (by omega)]; with_reducible rfl) | (rw [if_pos (by omega)]; with_reducible rfl)
  try simp only [List.getElem_toArray, List.getElem_cons_zero, List.getElem_cons_succ, Act.put, List.setIfInBounds_toArray, List.set_cons_zero, List.set_cons_succ]
  refine wpAnyH_take (i := 8) (v := ?_) rfl (by kernel_rfl) (by kernel_rfl) (by kernel_rfl) (fun _ _ _ h => h) (Or.inl ⟨by rfl, ?_⟩) (by assumption) ?_
  rotate_left 1
  · intro w' hSw
    go_simp
    all_goals first | with_reducible rfl | (rw [if_neg (by omega)]; done) | (rw [if_neg (by omega)]; with_reducible rfl) | (rw [if_pos (by omega)]; with_reducible rfl)
  try simp only [List.getElem_toArray, List.getElem_cons_zero, List.getElem_cons_succ, Act.put, List.setIfInBounds_toArray, List.set_cons_zero, List.set_cons_succ]
  refine wpAnyH_take (i := 9) (v := ?_) rfl (by kernel_rfl) (by kernel_rfl) (by kernel_rfl) (fun _ _ _ h => h) (Or.inl ⟨by rfl, ?_⟩) (by assumption) ?_
  rotate_left 1
  · intro w' hSw
    go_simp
    all_goals first | with_reducible rfl | (rw [if_neg (by omega)]; done) | (rw [if_neg (by omega)]; with_reducible rfl) | (rw [if_pos (by omega)]; with_reducible rfl)
  try simp only [List.getElem_toArray, List.getElem_cons_zero, List.getElem_cons_succ, Act.put, List.setIfInBounds_toArray, List.set_cons_zero, List.set_cons_succ]
  refine wpAnyH_take (i := 10) (v := ?_) rfl (by kernel_rfl) (by kernel_rfl) (by kernel_rfl) (fun _ _ _ h => h) (Or.inl ⟨by rfl, ?_⟩) (by assumption) ?_
  rotate_left 1
  · intro w' hSw
    obtain ⟨⟨p0, p1, p2, p3, p4⟩, hcv⟩ := hSw
    go_simp
    all_goals first | with_reducible rfl | (rw [if_neg (by omega)]; done) | (rw [if_neg (by omega)]; with_reducible rfl) | (rw [if_pos (by omega)]; with_reducible rfl)
  try simp only [List.getElem_toArray, List.getElem_cons_zero, List.getElem_cons_succ, Act.put, List.setIfInBounds_toArray, List.set_cons_zero, List.set_cons_succ]
  refine wpAnyH_take (i := 12) (v := ?_) rfl (by kernel_rfl) (by kernel_rfl) (by kernel_rfl) (fun _ _ _ h => h) (Or.inl ⟨by rfl, ?_⟩) (by assumption) ?_
  rotate_left 1
  · intro w' hSw
    obtain ⟨⟨p0, p1, p2, p3, p4⟩, hcv⟩ := hSw
    go_simp
    all_goals first | with_reducible rfl | (rw [if_neg (by omega)]; done) | (rw [if_neg (by omega)]; with_reducible rfl) | (rw [if_pos (by omega)]; with_reducible rfl)
  try simp only [List.getElem_toArray, List.getElem_cons_zero, List.getElem_cons_succ, Act.put, List.setIfInBounds_toArray, List.set_cons_zero, List.set_cons_succ]
  refine wpAnyH_ready (rs := [11]) (by kernel_rfl) (by simp) ?_
  refine AllReadyH.cons rfl (fun K hK => ?_) AllReadyH.nil
  refine step_call_on 14 Try.f14 _ _ rfl Try.func14 (by kernel_rfl) (by kernel_rfl) _ _ (HCK.out _) (by go_simp) (by first | rfl | go_simp) ?_
  rintro v11 w3 ⟨rfl, hb11⟩
  have B3 := Lib.hid ((Below.refl w2.heap.size w2).drew.trans (hb11.mono ((Below.refl w2.heap.size w2).drew.size)))
  clear hb11
  refine hK.out _ _ (HS.out _ B3.out) (fun hHeld => ?_)
  clear hK K
  try simp only [List.getElem_toArray, List.getElem_cons_zero, List.getElem_cons_succ, Act.put, List.setIfInBounds_toArray, List.set_cons_zero, List.set_cons_succ]
  refine wpAnyH_ready (rs := [13]) (by kernel_rfl) (by simp) ?_
  refine AllReadyH.cons rfl (fun K hK => ?_) AllReadyH.nil
  refine step_call_on 15 Try.f15 _ _ rfl Try.func15 (by kernel_rfl) (by kernel_rfl) _ _ (HRK.out _) (by go_simp) (by first | rfl | go_simp) ?_
  rintro v13 w4 ⟨rfl, hb13⟩
  have B4 := Lib.hid (B3.out.trans (hb13.mono (B3.out.size)))
  clear hb13
  refine hK.out _ _ (HS.out _ B4.out) (fun hHeld => ?_)
  clear hK K
  try simp only [List.getElem_toArray, List.getElem_cons_zero, List.getElem_cons_succ, Act.put, List.setIfInBounds_toArray, List.set_cons_zero, List.set_cons_succ]
  refine wpAnyH_take (i := 14) (v := ?_) rfl (by kernel_rfl) (by kernel_rfl) (by kernel_rfl) (fun _ _ _ h => h) (Or.inl ⟨by rfl, ?_⟩) (by assumption) ?_
  rotate_left 1
  · intro w' hSw
    go_simp
    all_goals first | with_reducible rfl | (rw [if_neg (by omega)]; done) | (rw [if_neg (by omega)]; with_reducible rfl) | (rw [if_pos (by omega)]; with_reducible rfl)
  try simp only [List.getElem_toArray, List.getElem_cons_zero, List.getElem_cons_succ, Act.put, List.setIfInBounds_toArray, List.set_cons_zero, List.set_cons_succ]
  refine wpAnyH_take (i := 15) (v := ?_) rfl (by kernel_rfl) (by kernel_rfl) (by kernel_rfl) (fun _ _ _ h => h) (Or.inl ⟨by rfl, ?_⟩) (by assumption) ?_
  rotate_left 1
  · intro w' hSw
    go_simp
    all_goals first | with_reducible rfl | (rw [if_neg (by omega)]; done) | (rw [if_neg (by omega)]; with_reducible rfl) | (rw [if_pos (by omega)]; with_reducible rfl)
  try simp only [List.getElem_toArray, List.getElem_cons_zero, List.getElem_cons_succ, Act.put, List.setIfInBounds_toArray, List.set_cons_zero, List.set_cons_succ]
  refine wpAnyH_take (i := 16) (v := ?_) rfl (by kernel_rfl) (by kernel_rfl) (by kernel_rfl) (fun _ _ _ h => h) (Or.inl ⟨by rfl, ?_⟩) (by assumption) ?_
  rotate_left 1
  · intro w' hSw
    go_simp
    all_goals first | with_reducible rfl | (rw [if_neg (by omega)]; done) | (rw [if_neg (by omega)]; with_reducible rfl) | (rw [if_pos (by omega)]; with_reducible rfl)
  try simp only [List.getElem_toArray, List.getElem_cons_zero, List.getElem_cons_succ, Act.put, List.setIfInBounds_toArray, List.set_cons_zero, List.set_cons_succ]
  refine wpAnyH_ready (rs := [17]) (by kernel_rfl) (by simp) ?_
  refine AllReadyH.cons rfl (fun K hK => ?_) AllReadyH.nil
  refine step_call_on 16 Try.f16 _ _ rfl Try.func16 (by kernel_rfl) (by kernel_rfl) _ _ (HLV.out _) (by go_simp) (by first | rfl | go_simp) ?_
  rintro v17 w5 ⟨rfl, hb17⟩
  have B5 := Lib.hid (B4.out.trans (hb17.mono (B4.out.size)))
  clear hb17
  refine hK.out _ _ (HS.out _ B5.out) (fun hHeld => ?_)
  clear hK K
  try simp only [List.getElem_toArray, List.getElem_cons_zero, List.getElem_cons_succ, Act.put, List.setIfInBounds_toArray, List.set_cons_zero, List.set_cons_succ]
  refine wpAnyH_take (i := 18) (v := ?_) rfl (by kernel_rfl) (by kernel_rfl) (by kernel_rfl) (fun _ _ _ h => h) (Or.inl ⟨by rfl, ?_⟩) (by assumption) ?_
  rotate_left 1
  · intro w' hSw
    go_simp
    all_goals first | with_reducible rfl | (rw [if_neg (by omega)]; done) | (rw [if_neg (by omega)]; with_reducible rfl) | (rw [if_pos (by omega)]; with_reducible rfl)
  try simp only [List.getElem_toArray, List.getElem_cons_zero, List.getElem_cons_succ, Act.put, List.setIfInBounds_toArray, List.set_cons_zero, List.set_cons_succ]
  refine wpAnyH_take (i := 19) (v := ?_) rfl (by kernel_rfl) (by kernel_rfl) (by kernel_rfl) (fun _ _ _ h => h) (Or.inl ⟨by rfl, ?_⟩) (by assumption) ?_
  rotate_left 1
  · intro w' hSw
    go_simp
    all_goals first | with_reducible rfl | (rw [if_neg (by omega)]; done) | (rw [if_neg (by omega)]; with_reducible rfl) | (rw [if_pos (by omega)]; with_reducible rfl)
  try simp only [List.getElem_toArray, List.getElem_cons_zero, List.getElem_cons_succ, Act.put, List.setIfInBounds_toArray, List.set_cons_zero, List.set_cons_succ]
  refine wpAnyH_done (by kernel_rfl) ?_ _
  refine NoPanic.normal ?_
  -- region end
  go_wp2
  go_ret
  exact ⟨rfl, HB2.out.trans (B5.out.mono HB2.out.size)⟩
end Go.Proofs.Ytpccelebidiekaa
