/- Layer 16: the statements' example. -/
import Derived.Test.YtjkfgbmlhglnfaaRdL
import Derived.Test.YtjkfgbmlhglnfaaRdK
namespace Go.Proofs.Ytjkfgbmlhglnfaa
open Go.RowKit Go.Shelf
set_option linter.unusedVariables false
set_option linter.unusedSimpArgs false
set_option maxRecDepth 100000
attribute [local go_sem] Oper.semAt_some

abbrev r16a : ByteArray := ⟨#[97]⟩
abbrev r16b : ByteArray := ⟨#[98]⟩
abbrev r16c : ByteArray := ⟨#[99]⟩
abbrev r16d : ByteArray := ⟨#[100]⟩
abbrev r16z : ByteArray := ⟨#[122]⟩
abbrev r16y : ByteArray := ⟨#[122, 122]⟩
abbrev r16e : ByteArray := ⟨#[]⟩
theorem em_one (b : UInt8) : em16 ⟨#[b]⟩ = false := by unfold em16; rw [ByteArray.toList_eq]; rfl
theorem lt_ab : lt14 r16a r16b = true := by decide +kernel
theorem lt_cb : lt14 r16c r16b = false := by decide +kernel
theorem lt_ca : lt14 r16c r16a = false := by decide +kernel
theorem lt_bd : lt14 r16b r16d = true := by decide +kernel
theorem lt_bb : lt14 r16b r16b = false := by decide +kernel
theorem lt_da : lt14 r16d r16a = false := by decide +kernel
theorem lt_ad : lt14 r16a r16d = true := by decide +kernel
theorem lt_db : lt14 r16d r16b = false := by decide +kernel
theorem lt_cd : lt14 r16c r16d = true := by decide +kernel
theorem lt_dd : lt14 r16d r16d = false := by decide +kernel
theorem lt_dz : lt14 r16d r16z = true := by decide +kernel
theorem lt_yz : lt14 r16y r16z = false := by decide +kernel
theorem lt_ya : lt14 r16y r16a = false := by decide +kernel
theorem hasK_nil (k : ByteArray) : hasK [] k = false := by unfold hasK plK; simp
theorem rgt_c : Rgt16 [r16c] [] := ⟨⟨by decide, by decide⟩, ⟨fun s hs => (by cases hs), List.Pairwise.nil⟩, by simp [Kup], fun k _ => rfl⟩
theorem rgt_0 : Rgt16 [] [] := ⟨⟨by decide, by decide⟩, ⟨fun s hs => (by cases hs), List.Pairwise.nil⟩, by simp [Kup], fun k hk => by cases hk⟩
theorem key_ex : key16 [] [] r16c = ([r16c], [], 0) := by
  unfold key16
  rw [rgb_yes rgt_0]
  simp only [if_true]
  have : cov16 [] [] r16c = false := by unfold cov16; rw [hasK_nil]; rfl
  rw [this]
  simp [insK, plK]
theorem span_ex1 : span16 [r16c] [] ⟨r16a, r16b⟩ = ([r16c], [⟨r16a, r16b⟩], 0) := by
  unfold span16
  rw [rgb_yes rgt_c]
  simp only [if_true]
  have h1 : some16 ⟨r16a, r16b⟩ = true := by unfold some16; simp only [lt_ab, Bool.or_true]
  rw [h1]
  have h2 : spd16 [⟨r16a, r16b⟩] r16c = false := by unfold spd16; simp only [List.any_cons, List.any_nil, win_def, lt_ca, lt_cb, em_one]; rfl
  simp [tog16, h2]
theorem rgt_ab : Rgt16 [r16c] [⟨r16a, r16b⟩] := by
  have := (span_ok16 rgt_c (s := ⟨r16a, r16b⟩))
  rw [span_ex1] at this
  exact this rfl
theorem span_ex2 : span16 [r16c] [⟨r16a, r16b⟩] ⟨r16b, r16d⟩ = ([], [⟨r16a, r16d⟩], 0) := by
  unfold span16
  rw [rgb_yes rgt_ab]
  simp only [if_true]
  have h1 : some16 ⟨r16b, r16d⟩ = true := by unfold some16; simp only [lt_bd, Bool.or_true]
  rw [h1]
  have ht : tog16 [⟨r16a, r16b⟩] ⟨r16b, r16d⟩ = [⟨r16a, r16d⟩] := by
    simp [tog16, apt16, mrg16, mn16, fur16, lt_bb, lt_da, lt_ab, lt_db, em_one]
  have h2 : spd16 [⟨r16a, r16d⟩] r16c = true := by unfold spd16; simp only [List.any_cons, List.any_nil, win_def, lt_ca, lt_cd, em_one]; rfl
  rw [ht]
  simp [h2]
theorem rgt_ad : Rgt16 [] [⟨r16a, r16d⟩] := by
  have := (span_ok16 rgt_ab (s := ⟨r16b, r16d⟩))
  rw [span_ex2] at this
  exact this rfl
theorem span_ex3 : span16 [] [⟨r16a, r16d⟩] ⟨r16z, r16e⟩ = ([], [⟨r16a, r16d⟩, ⟨r16z, r16e⟩], 0) := by
  unfold span16
  rw [rgb_yes rgt_ad]
  simp only [if_true]
  have h1 : some16 ⟨r16z, r16e⟩ = true := by unfold some16; simp only [em_new, Bool.true_or]
  rw [h1]
  have ht : tog16 [⟨r16a, r16d⟩] ⟨r16z, r16e⟩ = [⟨r16a, r16d⟩, ⟨r16z, r16e⟩] := by
    simp [tog16, apt16, lt_dz, em_one]
  rw [ht]
  simp
theorem rgt_az : Rgt16 [] [⟨r16a, r16d⟩, ⟨r16z, r16e⟩] := by
  have := (span_ok16 rgt_ad (s := ⟨r16z, r16e⟩))
  rw [span_ex3] at this
  exact this rfl
theorem lt_dz2 : lt14 r16d r16z = true := lt_dz
theorem cov_ex : (rgb16 [] [⟨r16a, r16d⟩, ⟨r16z, r16e⟩] && cov16 [] [⟨r16a, r16d⟩, ⟨r16z, r16e⟩] r16d) = false := by
  have : cov16 [] [⟨r16a, r16d⟩, ⟨r16z, r16e⟩] r16d = false := by
    unfold cov16 spd16
    rw [hasK_nil]
    simp only [List.any_cons, List.any_nil, win_def, lt_da, lt_dd, lt_dz, em_one]
    rfl
  rw [this, Bool.and_false]
theorem hit_ex : hit16 [] [⟨r16a, r16d⟩, ⟨r16z, r16e⟩] [⟨r16y, r16e, true⟩] = true := by
  unfold hit16
  have : cov16 [] [⟨r16a, r16d⟩, ⟨r16z, r16e⟩] r16y = true := by
    unfold cov16 spd16
    simp only [List.any_cons, List.any_nil, win_def, lt_yz, em_new]
    simp
  simp only [List.any_cons, List.any_nil, rgb_yes rgt_az, this]
  rfl
theorem kx_one16 {W : World} {q : Nat} {k : ByteArray} (hq : Blk W q 9 [.string k]) : Kx W (.slice (some ⟨q, 0, none⟩) 1 1) [k] := ⟨_, _, rfl, by simp, hq.rc⟩
theorem px_one16 {W : World} {q : Nat} {s : Pq2} (hq : Blk W q 59 [.string s.k, .string s.v]) : Px W (.slice (some ⟨q, 0, none⟩) 1 1) [s] := ⟨_, _, rfl, by simp, hq.rc⟩
theorem cx_one16 {W : World} {q : Nat} {c : Cg} (hq : Blk W q 79 [.string c.k, .string c.v, .bool c.d]) : Cx W (.slice (some ⟨q, 0, none⟩) 1 1) [c] := ⟨_, _, rfl, by simp, hq.rc⟩
set_option maxHeartbeats 8000000 in
theorem lives_16 (w : World) : Calls Try.prog 17 #[] w fun e w' => e = .returned (.bool true) ∧ Turn (fun _ => False) w w' := by
  have HK := Lib.hid (fun W => key_16 [] [] r16c none 0 0 none 0 0 W (kx_nil16 _) (px_nil16 _))
  rw [key_ex] at HK
  go_enter Try.func17, Try.ntmps17
  go_wp2_with fail
  refine (HK.out _).mono ?_
  rintro e w2 ⟨A1, n1, c1, A2, n2, c2, rfl, hk, hp, hc, ht⟩
  simp only at hk hp ⊢
  have T2 := Lib.hid ht
  have HS := Lib.hid (fun W (h : Turn (fun _ => False) w2 W) => span_16 [r16c] [] r16a r16b A1 n1 c1 A2 n2 c2 W (hk.still h) (hp.still h) hc)
  rw [span_ex1] at HS
  clear hk hp hc ht HK
  go_wp2_with fail
  refine (HS.out _ ((Turn.refl _ _).alloc _)).mono ?_
  rintro e w3 ⟨A3, n3, c3, A4, n4, c4, rfl, hk, hp, hc, ht⟩
  simp only at hk hp ⊢
  have T3 := Lib.hid ((T2.out.alloc (.cells #[.slice A1 n1 c1, .slice A2 n2 c2] 46)).trans ht)
  have KB := Lib.hid hk
  have PB := Lib.hid hp
  have B3 := Lib.hid (Blk.new w3 46 [.slice A3 n3 c3, .slice A4 n4 c4])
  have HS2 := Lib.hid (fun W (h : Turn (fun _ => False) w3 W) => span_16 [r16c] [⟨r16a, r16b⟩] r16b r16d A3 n3 c3 A4 n4 c4 W (hk.still h) (hp.still h) hc)
  rw [span_ex2] at HS2
  clear hk hp hc ht HS
  go_wp2_with fail
  refine (HS2.out _ ((Turn.refl _ _).alloc _)).mono ?_
  rintro e w4 ⟨A5, n5, c5, A6, n6, c6, rfl, hk, hp, hc, ht⟩
  simp only at hk hp ⊢
  have U4 := Lib.hid (((Turn.refl (fun _ => False) w3).alloc (.cells #[.slice A3 n3 c3, .slice A4 n4 c4] 46)).trans ht)
  have T4 := Lib.hid (T3.out.trans U4.out)
  have B34 := Lib.hid (B3.out.turn ht (fun h => h))
  have KC := Lib.hid hk
  have PC := Lib.hid hp
  have B4 := Lib.hid (Blk.new w4 46 [.slice A5 n5 c5, .slice A6 n6 c6])
  have HS3 := Lib.hid (fun W (h : Turn (fun _ => False) w4 W) => span_16 [] [⟨r16a, r16d⟩] r16z r16e A5 n5 c5 A6 n6 c6 W (hk.still h) (hp.still h) hc)
  rw [span_ex3] at HS3
  clear hk hp hc ht HS2
  go_wp2_with fail
  refine (HS3.out _ ((Turn.refl _ _).alloc _)).mono ?_
  rintro e w5 ⟨A7, n7, c7, A8, n8, c8, rfl, hk, hp, hc, ht⟩
  simp only at hk hp ⊢
  have hn8 : n8 = 2 := by obtain ⟨_, _, e, _⟩ := id hp; injection e
  subst hn8
  have U5 := Lib.hid (((Turn.refl (fun _ => False) w4).alloc (.cells #[.slice A5 n5 c5, .slice A6 n6 c6] 46)).trans ht)
  obtain ⟨W6, hW6⟩ : ∃ W, w5.alloc (.cells #[.slice A7 n7 c7, .slice A8 2 c8] 46) = W := ⟨_, rfl⟩
  have U6 : Hid (Turn (fun _ => False) w5 W6) := Lib.hid (hW6 ▸ (Turn.refl _ _).alloc _)
  have T6 := Lib.hid ((T4.out.trans U5.out).trans U6.out)
  have C3 := Lib.hid (((B34.out.turn U5.out (fun h => h)).turn U6.out (fun h => h)))
  have C4 := Lib.hid ((B4.out.turn ht (fun h => h)).turn U6.out (fun h => h))
  have C5 : Hid (Blk W6 w5.heap.size 46 [.slice A7 n7 c7, .slice A8 2 c8]) := Lib.hid (hW6 ▸ Blk.new _ _ _)
  have KB6 := Lib.hid (((KB.out.still U4.out).still U5.out).still U6.out)
  have PB6 := Lib.hid (((PB.out.still U4.out).still U5.out).still U6.out)
  have KC6 := Lib.hid ((KC.out.still U5.out).still U6.out)
  have PC6 := Lib.hid ((PC.out.still U5.out).still U6.out)
  have KD6 := Lib.hid (hk.still U6.out)
  have PD6 := Lib.hid (hp.still U6.out)
  have hn3 : n3 = 1 := by obtain ⟨_, _, e, _⟩ := id KB.out; injection e
  have hn4 : n4 = 1 := by obtain ⟨_, _, e, _⟩ := id PB.out; injection e
  have hn5 : n5 = 0 := by obtain ⟨_, _, e, _⟩ := id KC.out; injection e
  have hn6 : n6 = 1 := by obtain ⟨_, _, e, _⟩ := id PC.out; injection e
  subst hn3 hn4 hn5 hn6
  have HCO := Lib.hid (fun W (h : Turn (fun _ => False) W6 W) => covers_16 [] [⟨r16a, r16d⟩, ⟨r16z, r16e⟩] r16d A7 n7 c7 A8 2 c8 W (KD6.out.still h) (PD6.out.still h))
  rw [cov_ex] at HCO
  have HHI := Lib.hid (fun u W (h : Turn (fun _ => False) W6 W) (hc : Cx W u [⟨r16y, r16e, true⟩]) => hit_16 [] [⟨r16a, r16d⟩, ⟨r16z, r16e⟩] [⟨r16y, r16e, true⟩] u A7 n7 c7 A8 2 c8 W (KD6.out.still h) (PD6.out.still h) hc)
  rw [hit_ex] at HHI
  clear hk hp hc ht HS3
  obtain ⟨b0, b1⟩ := cells2b16 C3.out
  obtain ⟨d0, d1⟩ := cells2b16 C4.out
  obtain ⟨e0, e1⟩ := cells2b16 C5.out
  go_wp2_with fail
  have V7 : Hid (Turn (fun _ => False) W6 ((W6.alloc (.cells #[.string r16c] 9)).alloc (.cells #[.string r16a, .string r16b] 59))) := Lib.hid (((Turn.refl _ _).alloc _).alloc _)
  refine (refSame_16 [r16c] [⟨r16a, r16b⟩] A3 1 c3 A4 1 c4 _ 1 1 _ 1 1 _ (KB6.out.still V7.out) (PB6.out.still V7.out) (kx_one16 ((Blk.new W6 9 [.string r16c]).alloc _)) (px_one16 (Blk.new_ (W6.alloc (.cells #[.string r16c] 9)) 59 [.string r16a, .string r16b] (by simp))) (by decide) (by decide)).mono ?_
  rintro e w7 ⟨rfl, ht⟩
  have T7 := Lib.hid (V7.out.trans ht)
  clear b0 b1 d0 d1 e0 e1 ht
  obtain ⟨b0, b1⟩ := cells2b16 (C3.out.turn T7.out (fun h => h))
  obtain ⟨d0, d1⟩ := cells2b16 (C4.out.turn T7.out (fun h => h))
  obtain ⟨e0, e1⟩ := cells2b16 (C5.out.turn T7.out (fun h => h))
  go_wp2_with fail
  have V8 : Hid (Turn (fun _ => False) W6 (w7.alloc (.cells #[.string r16a, .string r16d] 59))) := Lib.hid (T7.out.alloc _)
  refine (refSame_16 [] [⟨r16a, r16d⟩] A5 0 c5 A6 1 c6 _ 0 0 _ 1 1 _ (KC6.out.still V8.out) (PC6.out.still V8.out) (kx_nil16 _) (px_one16 (Blk.new w7 59 [.string r16a, .string r16d])) (by decide) (by decide)).mono ?_
  rintro e w8 ⟨rfl, ht⟩
  have T8 := Lib.hid (V8.out.trans ht)
  clear b0 b1 d0 d1 e0 e1 ht
  obtain ⟨b0, b1⟩ := cells2b16 (C3.out.turn T8.out (fun h => h))
  obtain ⟨d0, d1⟩ := cells2b16 (C4.out.turn T8.out (fun h => h))
  obtain ⟨e0, e1⟩ := cells2b16 (C5.out.turn T8.out (fun h => h))
  go_wp2_with fail
  refine (HCO.out _ T8.out).mono ?_
  rintro e w9 ⟨rfl, ht⟩
  have T9 := Lib.hid (T8.out.trans ht)
  clear b0 b1 d0 d1 e0 e1 ht
  obtain ⟨b0, b1⟩ := cells2b16 (C3.out.turn T9.out (fun h => h))
  obtain ⟨d0, d1⟩ := cells2b16 (C4.out.turn T9.out (fun h => h))
  obtain ⟨e0, e1⟩ := cells2b16 (C5.out.turn T9.out (fun h => h))
  go_wp2_with fail
  have V9 : Hid (Turn (fun _ => False) W6 (w9.alloc (.cells #[.string r16y, .string r16e, .bool true] 79))) := Lib.hid (T9.out.alloc _)
  refine (HHI.out _ _ V9.out (cx_one16 (c := ⟨r16y, r16e, true⟩) (Blk.new w9 79 [.string r16y, .string r16e, .bool true]))).mono ?_
  rintro e w10 ⟨rfl, ht⟩
  have T10 := Lib.hid (V9.out.trans ht)
  clear b0 b1 d0 d1 e0 e1 ht
  go_wp2_with fail
  go_ret
  exact ⟨rfl, T6.out.trans T10.out⟩
theorem few_16 (A1 : Option Addr) (n1 c1 : Nat) (A2 : Option Addr) (n2 c2 : Nat) (w : World) :
    Calls Try.prog 16 #[.agg #[.slice A1 n1 c1, .slice A2 n2 c2]] w fun e w' => e = .returned (.bool (decide (n1 ≤ 100 ∧ n2 ≤ 100))) ∧ Turn (fun _ => False) w w' := by
  by_cases h1 : n1 ≤ 100
  · have g1 : (n1 : Int) ≤ 100 := by omega
    by_cases h2 : n2 ≤ 100
    · have g2 : (n2 : Int) ≤ 100 := by omega
      rw [show decide (n1 ≤ 100 ∧ n2 ≤ 100) = true from by simp [h1, h2]]
      clear h1 h2
      go_enter Try.func16, Try.ntmps16
      go_wp2_with fail
      go_ret
      exact ⟨rfl, (Turn.refl _ _).alloc _⟩
    · have g2 : ¬ (n2 : Int) ≤ 100 := by omega
      rw [show decide (n1 ≤ 100 ∧ n2 ≤ 100) = false from by simp [h1, h2]]
      clear h1 h2
      go_enter Try.func16, Try.ntmps16
      go_wp2_with fail
      go_ret
      exact ⟨rfl, (Turn.refl _ _).alloc _⟩
  · have g1 : ¬ (n1 : Int) ≤ 100 := by omega
    rw [show decide (n1 ≤ 100 ∧ n2 ≤ 100) = false from by simp [h1]]
    clear h1
    go_enter Try.func16, Try.ntmps16
    go_wp2_with fail
    go_ret
    exact ⟨rfl, (Turn.refl _ _).alloc _⟩
end Go.Proofs.Ytjkfgbmlhglnfaa
