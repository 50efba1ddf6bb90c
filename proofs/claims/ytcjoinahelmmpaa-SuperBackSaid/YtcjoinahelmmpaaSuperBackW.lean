/- The walk of ambrylaw11.SuperBack. -/
import Derived.Test.YtcjoinahelmmpaaSuI
import Derived.Test.YtcjoinahelmmpaaFrameU
namespace Go.Proofs.Ytcjoinahelmmpaa
open Go.RowKit
set_option linter.unusedVariables false
set_option maxRecDepth 100000

theorem sup_same (s : Sup) : (s.g == s.g) = true ∧ (s.r == s.r) = true ∧ (s.t == s.t) = true ∧ (s.e == s.e) = true ∧ (s.l == s.l) = true ∧ (s.m == s.m) = true := ⟨by simp, by simp, by simp, by simp, by simp, by simp⟩
/-- What stands behind the first part. -/
structure Bk (w W : World) : Prop where
  t : Below w.heap.size w W
set_option maxHeartbeats 4000000 in
theorem superBack_walk (s : Sup) (v : Value) (l : List UInt8) (w : World) (_ : s.wf) (hs : Sl w w.heap.size v l) (hb : l.length ≤ 140737488351232) :
    Calls Try.prog 6 #[uv s, v] w fun e w' => e = .returned (.bool true) ∧ Below w.heap.size w w' := by
  have HV := Lib.hid hs
  obtain ⟨A, cap, rfl, _⟩ := hs
  have HB := Lib.hid hb
  have HL := Lib.hid lives11_any
  have HRD : Hid (∀ W, Turn (fun _ => False) w W → Calls Try.prog 15 #[.slice A l.length cap] W fun e w' => e = .returned (rdU (readU l)) ∧ Turn (fun _ => False) W w') := Lib.hid (fun W ht => readU_any _ l W ((HV.out.turn ht (Nat.le_refl _) (fun k hk h => h)).more ht.size))
  have HCVB : Hid (∀ W, Turn (fun _ => False) w W → (convert 24 9 (.slice A l.length cap)).run Try.prog W = .ok (.string ⟨l.toArray⟩) W) := Lib.hid (fun W ht => sl_conv (HV.out.turn ht (Nat.le_refl _) (fun k hk h => h)))
  obtain ⟨s2, x2, ho, hx2⟩ : ∃ (s2 : Sup) (x2 : Int), rdU (readU l) = .tuple #[uv s2, .int .i64 x2] ∧ ((x2 = 4 ∧ s2 = zU) ∨ (x2 = 0 ∧ rU s2 = true ∧ putU s2 = l)) := by
    cases h : readU l with
    | none => exact ⟨zU, 4, rfl, .inl ⟨rfl, rfl⟩⟩
    | some s2 => exact ⟨s2, 0, rfl, .inr ⟨rfl, (readU_is h).1, (readU_is h).2.1⟩⟩
  rw [ho] at HRD
  have HX2 := Lib.hid hx2
  obtain ⟨n, hn⟩ : ∃ n, l.length = n := ⟨_, rfl⟩
  have HNL := Lib.hid hn
  rw [hn] at HRD HCVB ⊢
  clear hb ho hx2 hn HV
  have PB : Hid (∀ W, Calls Try.prog 10 #[uv s2] W fun e w' => rU s2 = true → ∃ A2 c2, e = .returned (.tuple #[.slice A2 128 c2, .int .i64 0]) ∧ (∀ W', Turn (fun _ => False) w' W' → (convert 24 9 (.slice A2 128 c2)).run Try.prog W' = .ok (.string ⟨(putU s2).toArray⟩) W') ∧ Turn (fun _ => False) W w') := Lib.hid (fun W => by
    cases h : rU s2 with
    | true =>
      refine (bytesU_ok s2 h W).mono ?_
      rintro e w' ⟨v, rfl, ho, hbw⟩ _
      rw [← len_putU s2] at ho
      have hs := Sl.of_own ho
      obtain ⟨A2, c2, rfl, _⟩ := id hs
      refine ⟨A2, c2, by rw [len_putU], fun W' ht => ?_, Turn.of_below hbw (fun k h1 h2 => by omega)⟩
      have := sl_conv (hs.turn ht (Nat.le_refl _) (fun k hk h => h))
      rwa [len_putU] at this
    | false => exact (bytesU_bad s2 h W).mono (fun _ _ _ h => by cases h))
  obtain ⟨g, r, t, e, lm, m⟩ := s
  obtain ⟨g2, r2, t2, e2, l2, m2⟩ := s2
  have B0 := Lib.hid (Blk.new w 23 [.int .i64 g, .int .i64 r, .int .i64 t, .int .i64 e, .int .i64 lm, .int .i64 m])
  have T0 := Lib.hid ((Turn.refl (fun _ => False) w).alloc (.cells #[.int .i64 g, .int .i64 r, .int .i64 t, .int .i64 e, .int .i64 lm, .int .i64 m] 23))
  have HOK := Lib.hid (bytesU_ok ⟨g, r, t, e, lm, m⟩)
  have HNO := Lib.hid (bytesU_bad ⟨g, r, t, e, lm, m⟩)
  have HCK := Lib.hid (checkU ⟨g, r, t, e, lm, m⟩)
  have HRX := Lib.hid (@readU_put ⟨g, r, t, e, lm, m⟩)
  have HLP := Lib.hid (len_putU ⟨g, r, t, e, lm, m⟩)
  unfold uv ubox at *
  simp only at HRD PB HOK HNO HCK ⊢
  obtain ⟨y1, y2, y3, y4, y5, y6⟩ := sup_same ⟨g, r, t, e, lm, m⟩
  simp only at y1 y2 y3 y4 y5 y6
  go_enter Try.func6, Try.ntmps6
  go_wp2_with fail
  cases hr : rU ⟨g, r, t, e, lm, m⟩ with
  | true =>
    have H1 := Lib.hid (HOK.out hr)
    have H2 := Lib.hid (HRX.out hr)
    clear HOK HNO HCK HRX hr
    refine (H1.out _).mono ?_
    rintro e1 w1 ⟨v1, rfl, ho, hbw⟩
    have ht := Turn.of_below (S := fun _ => False) hbw (fun k h1 h2 => by omega)
    have B1 := Lib.hid (B0.out.turn ht (fun h => h))
    have T1 := Lib.hid (T0.out.trans ht)
    rw [← HLP.out] at ho
    have hs1 := Sl.of_own ho
    obtain ⟨A1, c1, he, _⟩ := id hs1
    rw [he] at hs1 ⊢
    rw [HLP.out] at hs1 ⊢
    have S1 := Lib.hid hs1
    clear ho hbw ht hs1 he H1
    have R1 : Hid (∀ W, Turn (fun _ => False) w1 W → Calls Try.prog 15 #[.slice A1 128 c1] W fun e' w' => e' = .returned (.tuple #[.agg #[.int .i64 g, .int .i64 r, .int .i64 t, .int .i64 e, .int .i64 lm, .int .i64 m], .int .i64 0]) ∧ Turn (fun _ => False) W w') := Lib.hid (fun W ht => by
      have := readU_any _ _ W ((S1.out.turn ht (Nat.le_refl _) (fun k hk h => h)).more ht.size)
      rw [H2.out] at this
      exact this)
    clear S1 H2
    go_wp2_with fail
    refine (R1.out _ (Turn.refl _ _)).mono ?_
    rintro e3 w2 ⟨rfl, ht⟩
    have B2 := Lib.hid ((B1.out.turn ht (fun h => h)).alloc (.cells #[.int .i64 g, .int .i64 r, .int .i64 t, .int .i64 e, .int .i64 lm, .int .i64 m] 23))
    have T2 := Lib.hid ((T1.out.trans ht).alloc (.cells #[.int .i64 g, .int .i64 r, .int .i64 t, .int .i64 e, .int .i64 lm, .int .i64 m] 23))
    obtain ⟨p0, p1, p2, p3, p4, p5⟩ := (blk6 B2.out).1
    clear ht B1 T1 R1
    go_wp2_with fail
    refine (HRD.out _ T2.out).mono ?_
    rintro e4 w3 ⟨rfl, ht⟩
    have T3 := Lib.hid ((T2.out.trans ht).alloc (.cells #[.int .i64 g2, .int .i64 r2, .int .i64 t2, .int .i64 e2, .int .i64 l2, .int .i64 m2] 23))
    clear ht
    rcases HX2.out with ⟨rfl, hz⟩ | ⟨rfl, hr2, hp2⟩
    · unfold zU at hz
      injection hz with z1 z2 z3 z4 z5 z6
      subst z1 z2 z3 z4 z5 z6
      go_wp2_with (go_at_call 14; refine (HL.out _).mono ?_; rintro e5 w5 ⟨rfl, ht⟩; have T5 := Lib.hid (T3.out.trans ht); clear ht)
      go_ret
      exact ⟨rfl, T5.out.below (Nat.le_refl _) (fun k h => h.elim)⟩
    · have HP2 := Lib.hid hp2
      have PB2 := Lib.hid (fun W => (PB.out W).mono (fun e w' h => h hr2))
      clear hr2 hp2 PB HX2
      go_wp2_with fail
      refine (PB2.out _).mono ?_
      rintro e5 w4 ⟨A2, c2, rfl, hcv, ht⟩
      have T4 := Lib.hid (T3.out.trans ht)
      have k1 := hcv _ (Turn.refl _ _)
      have k2 := HCVB.out _ T4.out
      rw [HP2.out] at k1
      obtain ⟨P, hP⟩ : ∃ P : ByteArray, ⟨l.toArray⟩ = P := ⟨_, rfl⟩
      rw [hP] at k1 k2
      have k3 := str_same P
      clear ht hcv hP
      go_wp2_with (go_at_call 14; refine (HL.out _).mono ?_; rintro e6 w5 ⟨rfl, ht⟩; have T5 := Lib.hid (T4.out.trans ht); clear ht)
      go_ret
      exact ⟨rfl, T5.out.below (Nat.le_refl _) (fun k h => h.elim)⟩
  | false =>
    have H1 := Lib.hid (HNO.out hr)
    have H2 : Hid (∀ W, Calls Try.prog 12 #[.agg #[.int .i64 g, .int .i64 r, .int .i64 t, .int .i64 e, .int .i64 lm, .int .i64 m]] W fun e' w' => e' = .returned (.int .i64 2) ∧ Turn (fun _ => False) W w') := Lib.hid (fun W => (HCK.out W).mono (by rw [hr]; rintro _ _ ⟨rfl, rfl⟩; exact ⟨rfl, (Turn.refl _ _).alloc _⟩))
    clear HOK HNO HCK HRX hr
    refine (H1.out _).mono ?_
    rintro e1 w1 ⟨rfl, ht⟩
    have B1 := Lib.hid (B0.out.turn ht (fun h => h))
    have T1 := Lib.hid (T0.out.trans ht)
    obtain ⟨p0, p1, p2, p3, p4, p5⟩ := (blk6 B1.out).1
    clear ht H1
    go_wp2_with fail
    refine (H2.out _).mono ?_
    rintro e3 w2 ⟨rfl, ht⟩
    have T2 := Lib.hid (T1.out.trans ht)
    clear ht p0 p1 p2 p3 p4 p5
    go_wp2_with fail
    refine (HRD.out _ T2.out).mono ?_
    rintro e4 w3 ⟨rfl, ht⟩
    have T3 := Lib.hid ((T2.out.trans ht).alloc (.cells #[.int .i64 g2, .int .i64 r2, .int .i64 t2, .int .i64 e2, .int .i64 l2, .int .i64 m2] 23))
    clear ht
    rcases HX2.out with ⟨rfl, hz⟩ | ⟨rfl, hr2, hp2⟩
    · unfold zU at hz
      injection hz with z1 z2 z3 z4 z5 z6
      subst z1 z2 z3 z4 z5 z6
      go_wp2_with (go_at_call 14; refine (HL.out _).mono ?_; rintro e5 w5 ⟨rfl, ht⟩; have T5 := Lib.hid (T3.out.trans ht); clear ht)
      go_ret
      exact ⟨rfl, T5.out.below (Nat.le_refl _) (fun k h => h.elim)⟩
    · have HP2 := Lib.hid hp2
      have PB2 := Lib.hid (fun W => (PB.out W).mono (fun e w' h => h hr2))
      clear hr2 hp2 PB HX2
      go_wp2_with fail
      refine (PB2.out _).mono ?_
      rintro e5 w4 ⟨A2, c2, rfl, hcv, ht⟩
      have T4 := Lib.hid (T3.out.trans ht)
      have k1 := hcv _ (Turn.refl _ _)
      have k2 := HCVB.out _ T4.out
      rw [HP2.out] at k1
      obtain ⟨P, hP⟩ : ∃ P : ByteArray, ⟨l.toArray⟩ = P := ⟨_, rfl⟩
      rw [hP] at k1 k2
      have k3 := str_same P
      clear ht hcv hP
      go_wp2_with (go_at_call 14; refine (HL.out _).mono ?_; rintro e6 w5 ⟨rfl, ht⟩; have T5 := Lib.hid (T4.out.trans ht); clear ht)
      go_ret
      exact ⟨rfl, T5.out.below (Nat.le_refl _) (fun k h => h.elim)⟩
end Go.Proofs.Ytcjoinahelmmpaa
