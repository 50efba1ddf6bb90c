/- ReadsCover: its walk. -/
import Derived.Test.YtaebhbdmmnpgeaaRdN
namespace Go.Proofs.Ytaebhbdmmnpgeaa
open Go.RowKit Go.Shelf
set_option linter.unusedVariables false
set_option linter.unusedSimpArgs false
set_option maxRecDepth 100000
attribute [local go_sem] Oper.semAt_some

theorem few_16 (A1 : Option Addr) (n1 c1 : Nat) (A2 : Option Addr) (n2 c2 : Nat) (w : World) :
    Calls Try.prog 26 #[.agg #[.slice A1 n1 c1, .slice A2 n2 c2]] w fun e w' => e = .returned (.bool (decide (n1 ≤ 100 ∧ n2 ≤ 100))) ∧ Turn (fun _ => False) w w' := by
  by_cases h1 : n1 ≤ 100
  · have g1 : (n1 : Int) ≤ 100 := by omega
    by_cases h2 : n2 ≤ 100
    · have g2 : (n2 : Int) ≤ 100 := by omega
      rw [show decide (n1 ≤ 100 ∧ n2 ≤ 100) = true from by simp [h1, h2]]
      clear h1 h2
      go_enter Try.func26, Try.ntmps26
      go_wp2_with fail
      go_ret
      exact ⟨rfl, (Turn.refl _ _).alloc _⟩
    · have g2 : ¬ (n2 : Int) ≤ 100 := by omega
      rw [show decide (n1 ≤ 100 ∧ n2 ≤ 100) = false from by simp [h1, h2]]
      clear h1 h2
      go_enter Try.func26, Try.ntmps26
      go_wp2_with fail
      go_ret
      exact ⟨rfl, (Turn.refl _ _).alloc _⟩
  · have g1 : ¬ (n1 : Int) ≤ 100 := by omega
    rw [show decide (n1 ≤ 100 ∧ n2 ≤ 100) = false from by simp [h1]]
    clear h1
    go_enter Try.func26, Try.ntmps26
    go_wp2_with fail
    go_ret
    exact ⟨rfl, (Turn.refl _ _).alloc _⟩
set_option maxHeartbeats 16000000 in
theorem readsCover_of (L : List ByteArray) (S : List Pq2) (fa fb key : ByteArray) (A1 : Option Addr) (n1 c1 : Nat) (A2 : Option Addr) (n2 c2 : Nat) (w : World) (hk : Kx w (.slice A1 n1 c1) L) (hs : Px w (.slice A2 n2 c2) S) (hcap : n2 ≤ c2) :
    Calls Try.prog 9 #[.agg #[.slice A1 n1 c1, .slice A2 n2 c2], .string fa, .string fb, .string key] w fun r w' => r = .returned (.bool true) ∧ Turn (fun _ => False) w w' := by
  have HFW := Lib.hid (fun W => few_16 A1 n1 c1 A2 n2 c2 W)
  have HCH := Lib.hid (fun W (hW : Turn (fun _ => False) w W) => check_16 L S A1 n1 c1 A2 n2 c2 W (hk.still hW) (hs.still hW))
  have HCO := Lib.hid (fun W (hW : Turn (fun _ => False) w W) => covers_16 L S key A1 n1 c1 A2 n2 c2 W (hk.still hW) (hs.still hW))
  have HKE := Lib.hid (fun W (hW : Turn (fun _ => False) w W) => key_16 L S fa A1 n1 c1 A2 n2 c2 W (hk.still hW) (hs.still hW))
  have HSP := Lib.hid (fun W (hW : Turn (fun _ => False) w W) => span_16 L S fa fb A1 n1 c1 A2 n2 c2 W (hk.still hW) (hs.still hW) hcap)
  obtain ⟨W1, hW1⟩ : ∃ W, w.alloc (.cells #[.slice A1 n1 c1, .slice A2 n2 c2] 60) = W := ⟨_, rfl⟩
  have T1 : Hid (Turn (fun _ => False) w W1) := Lib.hid (hW1 ▸ (Turn.refl _ _).alloc _)
  have B1 : Hid (Blk W1 w.heap.size 60 [.slice A1 n1 c1, .slice A2 n2 c2]) := Lib.hid (hW1 ▸ Blk.new _ _ _)
  obtain ⟨x0, x1⟩ := cells2b16 B1.out
  clear hk hs
  cases hfw : decide (n1 ≤ 100 ∧ n2 ≤ 100) with
  | false =>
    rw [hfw] at HFW
    clear hfw
    go_enter Try.func9, Try.ntmps9
    go_wp2_with (first
      | (go_at_call 27; refine (lives_16 _).mono ?_; rintro e w9 ⟨rfl, t9⟩; have T9 := Lib.hid (T2.out.trans t9); clear t9)
      | (go_at_call 26; refine (HFW.out _).mono ?_; rintro e w2 ⟨rfl, t2⟩; have T2 := Lib.hid (T1.out.trans t2); clear t2))
    go_ret
    exact ⟨rfl, T9.out⟩
  | true =>
    rw [hfw] at HFW
    clear hfw
    cases hr : rgb16 L S with
    | false =>
      rw [hr] at HCH
      simp only [Bool.false_eq_true, if_false] at HCH
      clear hr
      go_enter Try.func9, Try.ntmps9
      go_wp2_with (first
        | (go_at_call 27; refine (lives_16 _).mono ?_; rintro e w9 ⟨rfl, t9⟩; have T9 := Lib.hid (T3.out.trans t9); clear t9)
        | (go_at_call 33; refine (HCH.out _ T2.out).mono ?_; rintro e w3 ⟨rfl, t3⟩; have T3 := Lib.hid (T2.out.trans t3); clear t3)
        | (go_at_call 26; refine (HFW.out _).mono ?_; rintro e w2 ⟨rfl, t2⟩; have T2 := Lib.hid (T1.out.trans t2); obtain ⟨x0, x1⟩ := cells2b16 (B1.out.turn t2 (fun h => h)); clear t2))
      go_ret
      exact ⟨rfl, T9.out⟩
    | true =>
      have HRG := Lib.hid (rgb_iff.1 hr)
      rw [hr] at HCH HCO
      simp only [if_true, Bool.true_and] at HCH HCO
      clear hr
      obtain ⟨wb, hwb⟩ : ∃ b, cov16 L S key = b := ⟨_, rfl⟩
      have HWB := Lib.hid hwb
      rw [hwb] at HCO
      clear hwb
      obtain ⟨K1, S1, er1, hke⟩ : ∃ a b c, key16 L S fa = (a, b, c) := ⟨_, _, _, rfl⟩
      obtain ⟨K2, S2, er2, hse⟩ : ∃ a b c, span16 L S ⟨fa, fb⟩ = (a, b, c) := ⟨_, _, _, rfl⟩
      have hk1 := key_ok (k := fa) HRG.out
      have hs1 := span_ok (s := ⟨fa, fb⟩) HRG.out
      rw [hke] at hk1 HKE
      rw [hse] at hs1 HSP
      simp only at hk1 hs1
      have HK1 := Lib.hid hk1
      have HS1 := Lib.hid hs1
      obtain ⟨WN, hwn⟩ : ∃ b, win key fa fb = b := ⟨_, rfl⟩
      have HWN := Lib.hid hwn
      clear hke hse hk1 hs1 hwn
      go_enter Try.func9, Try.ntmps9
      go_wp2_with (first
        | (go_at_call 36; refine (HCO.out _ T3.out).mono ?_; rintro e w4 ⟨rfl, t4⟩; have T4 := Lib.hid (T3.out.trans t4); have V4 := Lib.hid (V3.out.trans t4); obtain ⟨x0, x1⟩ := cells2b16 (B1.out.turn V4.out (fun h => h)); clear t4)
        | (go_at_call 33; refine (HCH.out _ T2.out).mono ?_; rintro e w3 ⟨rfl, t3⟩; have T3 := Lib.hid (T2.out.trans t3); have V3 := Lib.hid (V2.out.trans t3); obtain ⟨x0, x1⟩ := cells2b16 (B1.out.turn V3.out (fun h => h)); clear t3)
        | (go_at_call 26; refine (HFW.out _).mono ?_; rintro e w2 ⟨rfl, t2⟩; have T2 := Lib.hid (T1.out.trans t2); have V2 := Lib.hid t2; obtain ⟨x0, x1⟩ := cells2b16 (B1.out.turn t2 (fun h => h)); clear t2))
      refine (HKE.out _ T4.out).mono ?_
      rintro e w5 ⟨A3, n3, c3, A4, n4, c4, rfl, hka, hpa, hca, t5⟩
      simp only at hka hpa ⊢
      have T5 := Lib.hid (T4.out.trans t5)
      have V5 := Lib.hid (V4.out.trans t5)
      have KA := Lib.hid hka
      have PA := Lib.hid hpa
      have BA := Lib.hid (Blk.new w5 60 [.slice A3 n3 c3, .slice A4 n4 c4])
      have BX := Lib.hid ((B1.out.turn V5.out (fun h => h)).alloc (.cells #[.slice A3 n3 c3, .slice A4 n4 c4] 60))
      obtain ⟨x0, x1⟩ := cells2b16 BX.out
      clear hka hpa t5
      go_wp2_with fail
      refine (HSP.out _ (T5.out.alloc _)).mono ?_
      rintro e w6 ⟨A5, n5, c5, A6, n6, c6, rfl, hkb, hpb, hcb, t6⟩
      simp only at hkb hpb ⊢
      have T6 := Lib.hid ((T5.out.alloc (.cells #[.slice A3 n3 c3, .slice A4 n4 c4] 60)).trans t6)
      have U6 := Lib.hid (((Turn.refl (fun _ => False) w5).alloc (.cells #[.slice A3 n3 c3, .slice A4 n4 c4] 60)).trans t6)
      have BA6 := Lib.hid (BA.out.turn t6 (fun h => h))
      have KB := Lib.hid hkb
      have PB := Lib.hid hpb
      clear hkb hpb t6
      obtain ⟨W7, hW7⟩ : ∃ W, w6.alloc (.cells #[.slice A5 n5 c5, .slice A6 n6 c6] 60) = W := ⟨_, rfl⟩
      have U7 : Hid (Turn (fun _ => False) w6 W7) := Lib.hid (hW7 ▸ (Turn.refl _ _).alloc _)
      have BB : Hid (Blk W7 w6.heap.size 60 [.slice A5 n5 c5, .slice A6 n6 c6]) := Lib.hid (hW7 ▸ Blk.new _ _ _)
      have BA7 := Lib.hid (BA6.out.turn U7.out (fun h => h))
      have T7 := Lib.hid (T6.out.trans U7.out)
      have KA7 := Lib.hid ((KA.out.still U6.out).still U7.out)
      have PA7 := Lib.hid ((PA.out.still U6.out).still U7.out)
      have KB7 := Lib.hid (KB.out.still U7.out)
      have PB7 := Lib.hid (PB.out.still U7.out)
      obtain ⟨a0, a1⟩ := cells2b16 BA7.out
      obtain ⟨b0, b1⟩ := cells2b16 BB.out
      have HWY := Lib.hid hW7
      have Z00 := Lib.hid (Turn.refl (fun _ => False) W7)
      clear hW7
      go_upto_region 6 with fail
      go_cut [14] (fun v wy => v = .bool WN ∧ wy = W7)
      case first =>
        have g1 := lt_tl key fa
        have g2 := lt_tl key fb
        have g3 : fb.toList.isEmpty = em16 fb := rfl
        have hw := HWN.out
        rw [win_def] at hw
        generalize lt14 key fa = q1 at *
        generalize lt14 key fb = q2 at *
        generalize em16 fb = q3 at *
        cases q1 <;> cases q2 <;> cases q3
        all_goals go_wp2_with fail
        all_goals go_meet
        all_goals exact ⟨by rw [← hw]; rfl, HWY.out⟩
      case rest =>
        obtain ⟨rfl, rfl⟩ := hcut
        have Z0 := Z00
        obtain ⟨qe, hqe⟩ : ∃ b, (key.toList == fa.toList) = b := ⟨_, rfl⟩
        rcases HK1.out with h | ⟨h, hr1, hc1⟩
        · subst h
          rcases HS1.out with h | ⟨h, hr2, hc2⟩
          · subst h
            have T9 := T7
            go_wp2_with (go_at_call 27; refine (lives_16 _).mono ?_; rintro e y5 ⟨rfl, t⟩; have Z5 := Lib.hid (T7.out.trans t); clear t)
            go_ret
            exact ⟨rfl, Z5.out⟩
          · subst h
            have HCB := Lib.hid (fun W hW => by have := covers_16 K2 S2 key A5 n5 c5 A6 n6 c6 W (KB7.out.still hW) (PB7.out.still hW); rw [rgb_yes hr2, Bool.true_and, hc2 key, HWB.out, HWN.out] at this; exact this)
            have HDB := Lib.hid (fun W hW => by have := check_16 K2 S2 A5 n5 c5 A6 n6 c6 W (KB7.out.still hW) (PB7.out.still hW); rw [rgb_yes hr2] at this; simp only [if_true] at this; exact this)
            cases wb <;> cases WN
            all_goals simp only [Bool.true_or, Bool.false_or, Bool.or_true, Bool.or_false] at HCB
            all_goals go_wp2_with (first
              | (go_at_call 27; refine (lives_16 _).mono ?_; rintro e y5 ⟨rfl, t⟩; have Z5 := Lib.hid (Z4.out.trans t); clear t)
              | (go_at_call 33; refine (HDB.out _ Z3.out).mono ?_; rintro e y4 ⟨rfl, t⟩; have Z4 := Lib.hid (Z3.out.trans t); clear t)
              | (go_at_call 36; refine (HCB.out _ Z0.out).mono ?_; rintro e y3 ⟨rfl, t⟩; have Z3 := Lib.hid (Z0.out.trans t); obtain ⟨a0, a1⟩ := cells2b16 (BA7.out.turn Z3.out (fun h => h)); obtain ⟨b0, b1⟩ := cells2b16 (BB.out.turn Z3.out (fun h => h)); clear t))
            all_goals go_ret
            all_goals exact ⟨rfl, T7.out.trans Z5.out⟩
        · subst h
          have HCA := Lib.hid (fun W hW => by have := covers_16 K1 S1 key A3 n3 c3 A4 n4 c4 W (KA7.out.still hW) (PA7.out.still hW); rw [rgb_yes hr1, Bool.true_and, hc1 key, HWB.out, hqe] at this; exact this)
          have HDA := Lib.hid (fun W hW => by have := check_16 K1 S1 A3 n3 c3 A4 n4 c4 W (KA7.out.still hW) (PA7.out.still hW); rw [rgb_yes hr1] at this; simp only [if_true] at this; exact this)
          rcases HS1.out with h | ⟨h, hr2, hc2⟩
          · subst h
            cases wb <;> cases qe
            all_goals simp only [Bool.true_or, Bool.false_or, Bool.or_true, Bool.or_false] at HCA
            all_goals go_wp2_with (first
              | (go_at_call 27; refine (lives_16 _).mono ?_; rintro e y5 ⟨rfl, t⟩; have Z5 := Lib.hid (Z2.out.trans t); clear t)
              | (go_at_call 33; refine (HDA.out _ Z1.out).mono ?_; rintro e y2 ⟨rfl, t⟩; have Z2 := Lib.hid (Z1.out.trans t); obtain ⟨a0, a1⟩ := cells2b16 (BA7.out.turn Z2.out (fun h => h)); obtain ⟨b0, b1⟩ := cells2b16 (BB.out.turn Z2.out (fun h => h)); clear t)
              | (go_at_call 36; refine (HCA.out _ Z0.out).mono ?_; rintro e y1 ⟨rfl, t⟩; have Z1 := Lib.hid (Z0.out.trans t); obtain ⟨a0, a1⟩ := cells2b16 (BA7.out.turn Z1.out (fun h => h)); obtain ⟨b0, b1⟩ := cells2b16 (BB.out.turn Z1.out (fun h => h)); clear t))
            all_goals go_ret
            all_goals exact ⟨rfl, T7.out.trans Z5.out⟩
          · subst h
            have HCB := Lib.hid (fun W hW => by have := covers_16 K2 S2 key A5 n5 c5 A6 n6 c6 W (KB7.out.still hW) (PB7.out.still hW); rw [rgb_yes hr2, Bool.true_and, hc2 key, HWB.out, HWN.out] at this; exact this)
            have HDB := Lib.hid (fun W hW => by have := check_16 K2 S2 A5 n5 c5 A6 n6 c6 W (KB7.out.still hW) (PB7.out.still hW); rw [rgb_yes hr2] at this; simp only [if_true] at this; exact this)
            cases wb <;> cases qe <;> cases WN
            all_goals simp only [Bool.true_or, Bool.false_or, Bool.or_true, Bool.or_false] at HCA HCB
            all_goals go_wp2_with (first
              | (go_at_call 27; refine (lives_16 _).mono ?_; rintro e y5 ⟨rfl, t⟩; have Z5 := Lib.hid (Z4.out.trans t); clear t)
              | (go_at_call 33; refine (HDB.out _ Z3.out).mono ?_; rintro e y4 ⟨rfl, t⟩; have Z4 := Lib.hid (Z3.out.trans t); clear t)
              | (go_at_call 36; refine (HCB.out _ Z2.out).mono ?_; rintro e y3 ⟨rfl, t⟩; have Z3 := Lib.hid (Z2.out.trans t); obtain ⟨a0, a1⟩ := cells2b16 (BA7.out.turn Z3.out (fun h => h)); obtain ⟨b0, b1⟩ := cells2b16 (BB.out.turn Z3.out (fun h => h)); clear t)
              | (go_at_call 33; refine (HDA.out _ Z1.out).mono ?_; rintro e y2 ⟨rfl, t⟩; have Z2 := Lib.hid (Z1.out.trans t); obtain ⟨a0, a1⟩ := cells2b16 (BA7.out.turn Z2.out (fun h => h)); obtain ⟨b0, b1⟩ := cells2b16 (BB.out.turn Z2.out (fun h => h)); clear t)
              | (go_at_call 36; refine (HCA.out _ Z0.out).mono ?_; rintro e y1 ⟨rfl, t⟩; have Z1 := Lib.hid (Z0.out.trans t); obtain ⟨a0, a1⟩ := cells2b16 (BA7.out.turn Z1.out (fun h => h)); obtain ⟨b0, b1⟩ := cells2b16 (BB.out.turn Z1.out (fun h => h)); clear t))
            all_goals go_ret
            all_goals exact ⟨rfl, T7.out.trans Z5.out⟩
theorem readsCover_walk (L : List ByteArray) (S : List Pq2) (A1 : Option Addr) (n1 c1 : Nat) (A2 : Option Addr) (n2 c2 : Nat) (fa fb key : ByteArray) (w : World) (hk : Kx w (.slice A1 n1 c1) L) (hs : Px w (.slice A2 n2 c2) S) (hcap : n2 ≤ c2) (_ : fa.size ≤ 140737488351232) (_ : fb.size ≤ 140737488351232) (_ : key.size ≤ 140737488351232) :
    Calls Try.prog 9 #[.agg #[.slice A1 n1 c1, .slice A2 n2 c2], .string fa, .string fb, .string key] w fun r w' => r = .returned (.bool true) ∧ Below w.heap.size w w' :=
  (readsCover_of L S fa fb key A1 n1 c1 A2 n2 c2 w hk hs hcap).mono fun e w' ⟨he, ht⟩ => ⟨he, ht.below (Nat.le_refl _) (fun _ h => h.elim)⟩
end Go.Proofs.Ytaebhbdmmnpgeaa
