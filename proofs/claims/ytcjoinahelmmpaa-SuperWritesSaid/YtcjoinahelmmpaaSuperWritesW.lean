/- The walk of ambrylaw11.SuperWrites. -/
import Derived.Test.YtcjoinahelmmpaaSuI
import Derived.Test.YtcjoinahelmmpaaFrameU
namespace Go.Proofs.Ytcjoinahelmmpaa
open Go.RowKit
set_option linter.unusedVariables false
set_option maxRecDepth 100000

/-- What both Bytes tell of one super: the same bytes, the same error. -/
theorem bytesU_both (s : Sup) : ∃ (l : List UInt8) (x : Int), (rU s = true → l = putU s ∧ x = 0) ∧ (rU s = false → l = [] ∧ x = 2) ∧
    (∀ w, Calls Try.prog 10 #[uv s] w fun r w' => ∃ A c, r = .returned (.tuple #[.slice A l.length c, .int .i64 x]) ∧ Sl w' w'.heap.size (.slice A l.length c) l ∧ Turn (fun _ => False) w w') := by
  cases h : rU s with
  | true =>
    refine ⟨putU s, 0, fun _ => ⟨rfl, rfl⟩, (fun h => by cases h), fun w => (bytesU_ok s h w).mono ?_⟩
    rintro e w' ⟨v, rfl, ho, hb⟩
    rw [← len_putU s] at ho
    have hs := Sl.of_own ho
    obtain ⟨A, c, he⟩ : ∃ A c, v = .slice A (putU s).length c := by obtain ⟨A, c, e, _⟩ := hs; exact ⟨A, c, e⟩
    subst he
    exact ⟨A, c, rfl, hs, Turn.of_below hb (fun k h1 h2 => by omega)⟩
  | false =>
    refine ⟨[], 2, (fun h => by cases h), fun _ => ⟨rfl, rfl⟩, fun w => (bytesU_bad s h w).mono ?_⟩
    rintro e w' ⟨rfl, hb⟩
    exact ⟨none, 0, rfl, sl_nil _ _, hb⟩
theorem refBytesU_both (s : Sup) : ∀ w, Calls Try.prog 11 #[uv s] w fun r w' => r = .returned (.tuple #[.string ⟨(if rU s then putU s else []).toArray⟩, .int .i64 (if rU s then 0 else 2)]) ∧ Turn (fun _ => False) w w' := by
  intro w
  cases h : rU s with
  | true => exact refBytesU_ok s h _ rfl w
  | false => exact refBytesU_bad s h w
set_option maxHeartbeats 2000000 in
theorem superWrites_walk (s : Sup) (w : World) (_ : s.wf) :
    Calls Try.prog 3 #[uv s] w fun e w' => e = .returned (.bool true) ∧ Below w.heap.size w w' := by
  obtain ⟨l, x, h1, h2, hb⟩ := bytesU_both s
  have hl : (if rU s then putU s else []) = l ∧ (if rU s then (0 : Int) else 2) = x := by
    cases h : rU s with
    | true => exact ⟨(h1 h).1.symm, (h1 h).2.symm⟩
    | false => exact ⟨(h2 h).1.symm, (h2 h).2.symm⟩
  have HB := Lib.hid hb
  have HR := Lib.hid (refBytesU_both s)
  rw [hl.1, hl.2] at HR
  have HC := Lib.hid (checkU s)
  have HRC := Lib.hid (refCheckU s)
  have HL := Lib.hid lives11_any
  rw [hl.2] at HC HRC
  clear hb h1 h2 hl
  have z6 : (x == x) = true := by simp
  have z5 := str_same ⟨l.toArray⟩
  obtain ⟨P, hP⟩ : ∃ P : ByteArray, ⟨l.toArray⟩ = P := ⟨_, rfl⟩
  have HCV : Hid (∀ (W : World) (A : Option Addr) (c : Nat), Sl W W.heap.size (.slice A l.length c) l → (convert 24 9 (.slice A l.length c)).run Try.prog W = .ok (.string P) W) := Lib.hid (fun W A c h => by rw [← hP]; exact sl_conv h)
  rw [hP] at HR z5
  clear hP
  obtain ⟨g, r, t, e, lm, m⟩ := s
  unfold uv ubox at *
  simp only at HB HR HC HRC
  go_enter Try.func3, Try.ntmps3
  have B0 := Lib.hid (Blk.new w 23 [.int .i64 g, .int .i64 r, .int .i64 t, .int .i64 e, .int .i64 lm, .int .i64 m])
  go_wp2_with fail
  refine (HB.out _).mono ?_
  rintro e1 w1 ⟨A1, c1, rfl, s1, ht⟩
  have S1 := Lib.hid s1
  have B1 := Lib.hid (B0.out.turn ht (fun h => h))
  have T1 := Lib.hid (((Turn.refl (fun _ => False) w).alloc _).trans ht)
  clear ht s1
  obtain ⟨p0, p1, p2, p3, p4, p5⟩ := (blk6 B1.out).1
  go_wp2_with fail
  refine (HR.out _).mono ?_
  rintro e2 w2 ⟨rfl, ht⟩
  have B2 := Lib.hid (B1.out.turn ht (fun h => h))
  have T2 := Lib.hid (T1.out.trans ht)
  have S2 := Lib.hid ((S1.out.turn ht (Nat.le_refl _) (fun k hk h => h)).more ht.size)
  clear ht p0 p1 p2 p3 p4 p5 B1
  obtain ⟨n, hn⟩ : ∃ n, l.length = n := ⟨_, rfl⟩
  rw [hn] at S2 HCV ⊢
  clear hn
  go_wp2_with fail
  have SC : Hid (∀ W, Turn (fun _ => False) w2 W → (W.cell? ⟨w.heap.size, 0, none⟩ = some (.int .i64 g) ∧ W.cell? ⟨w.heap.size, 1, none⟩ = some (.int .i64 r) ∧ W.cell? ⟨w.heap.size, 2, none⟩ = some (.int .i64 t) ∧ W.cell? ⟨w.heap.size, 3, none⟩ = some (.int .i64 e) ∧ W.cell? ⟨w.heap.size, 4, none⟩ = some (.int .i64 lm) ∧ W.cell? ⟨w.heap.size, 5, none⟩ = some (.int .i64 m)) ∧ (convert 24 9 (.slice A1 n c1)).run Try.prog W = .ok (.string P) W) := Lib.hid (fun W ht => ⟨(blk6 (B2.out.turn ht (fun h => h))).1, HCV.out W A1 c1 ((S2.out.turn ht (Nat.le_refl _) (fun k hk h => h)).more ht.size)⟩)
  have TT := Lib.hid ((Turn.refl (fun _ => False) w2).drew)
  refine wp_region_noPanic ?_
  have HCK : Hid (∀ W, Calls Try.prog 12 #[.agg #[.int .i64 g, .int .i64 r, .int .i64 t, .int .i64 e, .int .i64 lm, .int .i64 m]] W fun e w' => ∃ v, e = .returned v ∧ (v = .int .i64 x ∧ Turn (fun _ => False) W w')) := Lib.hid (fun W => (HC.out W).mono (by rintro _ _ ⟨rfl, rfl⟩; exact ⟨_, rfl, rfl, (Turn.refl _ _).alloc _⟩))
  have HRK : Hid (∀ W, Calls Try.prog 13 #[.agg #[.int .i64 g, .int .i64 r, .int .i64 t, .int .i64 e, .int .i64 lm, .int .i64 m]] W fun e w' => ∃ v, e = .returned v ∧ (v = .int .i64 x ∧ Turn (fun _ => False) W w')) := Lib.hid (fun W => (HRC.out W).mono (by rintro _ _ ⟨rfl, h⟩; exact ⟨_, rfl, rfl, h⟩))
  have HLV : Hid (∀ W, Calls Try.prog 14 #[] W fun e w' => ∃ v, e = .returned v ∧ (v = .bool true ∧ Turn (fun _ => False) W w')) := Lib.hid (fun W => (HL.out W).mono (by rintro _ _ ⟨rfl, h⟩; exact ⟨_, rfl, rfl, h⟩))
  refine wp_region_held_drew (S := fun W => (W.cell? ⟨w.heap.size, 0, none⟩ = some (.int .i64 g) ∧ W.cell? ⟨w.heap.size, 1, none⟩ = some (.int .i64 r) ∧ W.cell? ⟨w.heap.size, 2, none⟩ = some (.int .i64 t) ∧ W.cell? ⟨w.heap.size, 3, none⟩ = some (.int .i64 e) ∧ W.cell? ⟨w.heap.size, 4, none⟩ = some (.int .i64 lm) ∧ W.cell? ⟨w.heap.size, 5, none⟩ = some (.int .i64 m)) ∧ (convert 24 9 (.slice A1 n c1)).run Try.prog W = .ok (.string P) W) (by kernel_rfl) (SC.out _ TT.out) (fun hHeld => ?_)
  -- region
  refine wpAnyH_take (i := 0) (v := ?_) rfl (by kernel_rfl) (by kernel_rfl) (by kernel_rfl) (fun _ _ _ h => h) (Or.inl ⟨by rfl, ?_⟩) (by assumption) ?_
  rotate_left 1
  · intro w' hSw
    go_simp
    all_goals first | with_reducible rfl | (rw [if_neg (by omega)]; done) | (rw [if_pos (by omega)]; done) | (rw [if_neg (by omega)]; with_reducible rfl) | (rw [if_pos (by omega)]; with_reducible rfl)
  try simp only [List.getElem_toArray, List.getElem_cons_zero, Act.put, List.setIfInBounds_toArray, List.set_cons_zero, List.set_cons_succ]
  refine wpAnyH_take (i := 1) (v := ?_) rfl (by kernel_rfl) (by kernel_rfl) (by kernel_rfl) (fun _ _ _ h => h) (Or.inl ⟨by rfl, ?_⟩) (by assumption) ?_
  rotate_left 1
  · intro w' hSw
    obtain ⟨⟨p0, p1, p2, p3, p4, p5⟩, hcv⟩ := hSw
    go_simp
    all_goals first | with_reducible rfl | (rw [if_neg (by omega)]; done) | (rw [if_pos (by omega)]; done) | (rw [if_neg (by omega)]; with_reducible rfl) | (rw [if_pos (by omega)]; with_reducible rfl)
  try simp only [List.getElem_toArray, List.getElem_cons_zero, List.getElem_cons_succ, Act.put, List.setIfInBounds_toArray, List.set_cons_zero, List.set_cons_succ]
  refine wpAnyH_take (i := 2) (v := ?_) rfl (by kernel_rfl) (by kernel_rfl) (by kernel_rfl) (fun _ _ _ h => h) (Or.inl ⟨by rfl, ?_⟩) (by assumption) ?_
  rotate_left 1
  · intro w' hSw
    go_simp
    all_goals first | with_reducible rfl | (rw [if_neg (by omega)]; done) | (rw [if_pos (by omega)]; done) | (rw [if_neg (by omega)]; with_reducible rfl) | (rw [if_pos (by omega)]; with_reducible rfl)
  try simp only [List.getElem_toArray, List.getElem_cons_zero, List.getElem_cons_succ, Act.put, List.setIfInBounds_toArray, List.set_cons_zero, List.set_cons_succ]
  refine wpAnyH_take (i := 3) (v := ?_) rfl (by kernel_rfl) (by kernel_rfl) (by kernel_rfl) (fun _ _ _ h => h) (Or.inl ⟨by rfl, ?_⟩) (by assumption) ?_
  rotate_left 1
  · intro w' hSw
    go_simp
    all_goals first | with_reducible rfl | (rw [if_neg (by omega)]; done) | (rw [if_pos (by omega)]; done) | (rw [if_neg (by omega)]; with_reducible rfl) | (rw [if_pos (by omega)]; with_reducible rfl)
  try simp only [List.getElem_toArray, List.getElem_cons_zero, List.getElem_cons_succ, Act.put, List.setIfInBounds_toArray, List.set_cons_zero, List.set_cons_succ]
  refine wpAnyH_take (i := 4) (v := ?_) rfl (by kernel_rfl) (by kernel_rfl) (by kernel_rfl) (fun _ _ _ h => h) (Or.inl ⟨by rfl, ?_⟩) (by assumption) ?_
  rotate_left 1
  · intro w' hSw
    go_simp
    all_goals first | with_reducible rfl | (rw [if_neg (by omega)]; done) | (rw [if_pos (by omega)]; done) | (rw [if_neg (by omega)]; with_reducible rfl) | (rw [if_pos (by omega)]; with_reducible rfl)
  try simp only [List.getElem_toArray, List.getElem_cons_zero, List.getElem_cons_succ, Act.put, List.setIfInBounds_toArray, List.set_cons_zero, List.set_cons_succ]
  refine wpAnyH_take (i := 5) (v := ?_) rfl (by kernel_rfl) (by kernel_rfl) (by kernel_rfl) (fun _ _ _ h => h) (Or.inl ⟨by rfl, ?_⟩) (by assumption) ?_
  rotate_left 1
  · intro w' hSw
    go_simp
    all_goals first | with_reducible rfl | (rw [if_neg (by omega)]; done) | (rw [if_pos (by omega)]; done) | (rw [if_neg (by omega)]; with_reducible rfl) | (rw [if_pos (by omega)]; with_reducible rfl)
  try simp only [List.getElem_toArray, List.getElem_cons_zero, List.getElem_cons_succ, Act.put, List.setIfInBounds_toArray, List.set_cons_zero, List.set_cons_succ]
  refine wpAnyH_take (i := 6) (v := ?_) rfl (by kernel_rfl) (by kernel_rfl) (by kernel_rfl) (fun _ _ _ h => h) (Or.inl ⟨by rfl, ?_⟩) (by assumption) ?_
  rotate_left 1
  · intro w' hSw
    go_simp
    all_goals first | with_reducible rfl | (rw [if_neg (by omega)]; done) | (rw [if_pos (by omega)]; done) | (rw [if_neg (by omega)]; with_reducible rfl) | (rw [if_pos (by omega)]; with_reducible rfl)
  try simp only [List.getElem_toArray, List.getElem_cons_zero, List.getElem_cons_succ, Act.put, List.setIfInBounds_toArray, List.set_cons_zero, List.set_cons_succ]
  refine wpAnyH_take (i := 7) (v := ?_) rfl (by kernel_rfl) (by kernel_rfl) (by kernel_rfl) (fun _ _ _ h => h) (Or.inl ⟨by rfl, ?_⟩) (by assumption) ?_
  rotate_left 1
  · intro w' hSw
    go_simp
    all_goals first | with_reducible rfl | (rw [if_neg (by omega)]; done) | (rw [if_pos (by omega)]; done) | (rw [if_neg (by omega)]; with_reducible rfl) | (rw [if_pos (by omega)]; with_reducible rfl)
  try simp only [List.getElem_toArray, List.getElem_cons_zero, List.getElem_cons_succ, Act.put, List.setIfInBounds_toArray, List.set_cons_zero, List.set_cons_succ]
  refine wpAnyH_take (i := 8) (v := ?_) rfl (by kernel_rfl) (by kernel_rfl) (by kernel_rfl) (fun _ _ _ h => h) (Or.inl ⟨by rfl, ?_⟩) (by assumption) ?_
  rotate_left 1
  · intro w' hSw
    go_simp
    all_goals first | with_reducible rfl | (rw [if_neg (by omega)]; done) | (rw [if_pos (by omega)]; done) | (rw [if_neg (by omega)]; with_reducible rfl) | (rw [if_pos (by omega)]; with_reducible rfl)
  try simp only [List.getElem_toArray, List.getElem_cons_zero, List.getElem_cons_succ, Act.put, List.setIfInBounds_toArray, List.set_cons_zero, List.set_cons_succ]
  refine wpAnyH_take (i := 9) (v := ?_) rfl (by kernel_rfl) (by kernel_rfl) (by kernel_rfl) (fun _ _ _ h => h) (Or.inl ⟨by rfl, ?_⟩) (by assumption) ?_
  rotate_left 1
  · intro w' hSw
    go_simp
    all_goals first | with_reducible rfl | (rw [if_neg (by omega)]; done) | (rw [if_pos (by omega)]; done) | (rw [if_neg (by omega)]; with_reducible rfl) | (rw [if_pos (by omega)]; with_reducible rfl)
  try simp only [List.getElem_toArray, List.getElem_cons_zero, List.getElem_cons_succ, Act.put, List.setIfInBounds_toArray, List.set_cons_zero, List.set_cons_succ]
  refine wpAnyH_take (i := 10) (v := ?_) rfl (by kernel_rfl) (by kernel_rfl) (by kernel_rfl) (fun _ _ _ h => h) (Or.inl ⟨by rfl, ?_⟩) (by assumption) ?_
  rotate_left 1
  · intro w' hSw
    obtain ⟨⟨p0, p1, p2, p3, p4, p5⟩, hcv⟩ := hSw
    go_simp
    all_goals first | with_reducible rfl | (rw [if_neg (by omega)]; done) | (rw [if_pos (by omega)]; done) | (rw [if_neg (by omega)]; with_reducible rfl) | (rw [if_pos (by omega)]; with_reducible rfl)
  try simp only [List.getElem_toArray, List.getElem_cons_zero, List.getElem_cons_succ, Act.put, List.setIfInBounds_toArray, List.set_cons_zero, List.set_cons_succ]
  refine wpAnyH_take (i := 12) (v := ?_) rfl (by kernel_rfl) (by kernel_rfl) (by kernel_rfl) (fun _ _ _ h => h) (Or.inl ⟨by rfl, ?_⟩) (by assumption) ?_
  rotate_left 1
  · intro w' hSw
    obtain ⟨⟨p0, p1, p2, p3, p4, p5⟩, hcv⟩ := hSw
    go_simp
    all_goals first | with_reducible rfl | (rw [if_neg (by omega)]; done) | (rw [if_pos (by omega)]; done) | (rw [if_neg (by omega)]; with_reducible rfl) | (rw [if_pos (by omega)]; with_reducible rfl)
  try simp only [List.getElem_toArray, List.getElem_cons_zero, List.getElem_cons_succ, Act.put, List.setIfInBounds_toArray, List.set_cons_zero, List.set_cons_succ]
  refine wpAnyH_ready (rs := [11]) (by kernel_rfl) (by simp) ?_
  refine AllReadyH.cons rfl (fun K hK => ?_) AllReadyH.nil
  refine step_call_on 12 Try.f12 _ _ rfl Try.func12 (by kernel_rfl) (by kernel_rfl) _ _ (HCK.out _) (by go_simp) (by first | rfl | go_simp) ?_
  rintro v11 w3 ⟨rfl, ht⟩
  have TT := Lib.hid (TT.out.trans ht)
  clear ht
  refine hK.out _ _ (SC.out _ TT.out) (fun hHeld => ?_)
  clear hK K
  try simp only [List.getElem_toArray, List.getElem_cons_zero, List.getElem_cons_succ, Act.put, List.setIfInBounds_toArray, List.set_cons_zero, List.set_cons_succ]
  refine wpAnyH_ready (rs := [13]) (by kernel_rfl) (by simp) ?_
  refine AllReadyH.cons rfl (fun K hK => ?_) AllReadyH.nil
  refine step_call_on 13 Try.f13 _ _ rfl Try.func13 (by kernel_rfl) (by kernel_rfl) _ _ (HRK.out _) (by go_simp) (by first | rfl | go_simp) ?_
  rintro v13 w4 ⟨rfl, ht⟩
  have TT := Lib.hid (TT.out.trans ht)
  clear ht
  refine hK.out _ _ (SC.out _ TT.out) (fun hHeld => ?_)
  clear hK K
  try simp only [List.getElem_toArray, List.getElem_cons_zero, List.getElem_cons_succ, Act.put, List.setIfInBounds_toArray, List.set_cons_zero, List.set_cons_succ]
  refine wpAnyH_take (i := 14) (v := ?_) rfl (by kernel_rfl) (by kernel_rfl) (by kernel_rfl) (fun _ _ _ h => h) (Or.inl ⟨by rfl, ?_⟩) (by assumption) ?_
  rotate_left 1
  · intro w' hSw
    go_simp
    all_goals first | with_reducible rfl | (rw [if_neg (by omega)]; done) | (rw [if_pos (by omega)]; done) | (rw [if_neg (by omega)]; with_reducible rfl) | (rw [if_pos (by omega)]; with_reducible rfl)
  try simp only [List.getElem_toArray, List.getElem_cons_zero, List.getElem_cons_succ, Act.put, List.setIfInBounds_toArray, List.set_cons_zero, List.set_cons_succ]
  refine wpAnyH_take (i := 15) (v := ?_) rfl (by kernel_rfl) (by kernel_rfl) (by kernel_rfl) (fun _ _ _ h => h) (Or.inl ⟨by rfl, ?_⟩) (by assumption) ?_
  rotate_left 1
  · intro w' hSw
    go_simp
    all_goals first | with_reducible rfl | (rw [if_neg (by omega)]; done) | (rw [if_pos (by omega)]; done) | (rw [if_neg (by omega)]; with_reducible rfl) | (rw [if_pos (by omega)]; with_reducible rfl)
  try simp only [List.getElem_toArray, List.getElem_cons_zero, List.getElem_cons_succ, Act.put, List.setIfInBounds_toArray, List.set_cons_zero, List.set_cons_succ]
  refine wpAnyH_take (i := 16) (v := ?_) rfl (by kernel_rfl) (by kernel_rfl) (by kernel_rfl) (fun _ _ _ h => h) (Or.inl ⟨by rfl, ?_⟩) (by assumption) ?_
  rotate_left 1
  · intro w' hSw
    go_simp
    all_goals first | with_reducible rfl | (rw [if_neg (by omega)]; done) | (rw [if_pos (by omega)]; done) | (rw [if_neg (by omega)]; with_reducible rfl) | (rw [if_pos (by omega)]; with_reducible rfl)
  try simp only [List.getElem_toArray, List.getElem_cons_zero, List.getElem_cons_succ, Act.put, List.setIfInBounds_toArray, List.set_cons_zero, List.set_cons_succ]
  refine wpAnyH_ready (rs := [17]) (by kernel_rfl) (by simp) ?_
  refine AllReadyH.cons rfl (fun K hK => ?_) AllReadyH.nil
  refine step_call_on 14 Try.f14 _ _ rfl Try.func14 (by kernel_rfl) (by kernel_rfl) _ _ (HLV.out _) (by go_simp) (by first | rfl | go_simp) ?_
  rintro v17 w5 ⟨rfl, ht⟩
  have TT := Lib.hid (TT.out.trans ht)
  clear ht
  refine hK.out _ _ (SC.out _ TT.out) (fun hHeld => ?_)
  clear hK K
  try simp only [List.getElem_toArray, List.getElem_cons_zero, List.getElem_cons_succ, Act.put, List.setIfInBounds_toArray, List.set_cons_zero, List.set_cons_succ]
  refine wpAnyH_take (i := 18) (v := ?_) rfl (by kernel_rfl) (by kernel_rfl) (by kernel_rfl) (fun _ _ _ h => h) (Or.inl ⟨by rfl, ?_⟩) (by assumption) ?_
  rotate_left 1
  · intro w' hSw
    go_simp
    all_goals first | with_reducible rfl | (rw [if_neg (by omega)]; done) | (rw [if_pos (by omega)]; done) | (rw [if_neg (by omega)]; with_reducible rfl) | (rw [if_pos (by omega)]; with_reducible rfl)
  try simp only [List.getElem_toArray, List.getElem_cons_zero, List.getElem_cons_succ, Act.put, List.setIfInBounds_toArray, List.set_cons_zero, List.set_cons_succ]
  refine wpAnyH_take (i := 19) (v := ?_) rfl (by kernel_rfl) (by kernel_rfl) (by kernel_rfl) (fun _ _ _ h => h) (Or.inl ⟨by rfl, ?_⟩) (by assumption) ?_
  rotate_left 1
  · intro w' hSw
    go_simp
    all_goals first | with_reducible rfl | (rw [if_neg (by omega)]; done) | (rw [if_pos (by omega)]; done) | (rw [if_neg (by omega)]; with_reducible rfl) | (rw [if_pos (by omega)]; with_reducible rfl)
  try simp only [List.getElem_toArray, List.getElem_cons_zero, List.getElem_cons_succ, Act.put, List.setIfInBounds_toArray, List.set_cons_zero, List.set_cons_succ]
  refine wpAnyH_done (by kernel_rfl) ?_ _
  refine NoPanic.normal ?_
  go_wp2_with fail
  go_ret
  exact ⟨rfl, (T2.out.trans TT.out).below (Nat.le_refl _) (fun k h => h.elim)⟩
  -- region end
end Go.Proofs.Ytcjoinahelmmpaa
