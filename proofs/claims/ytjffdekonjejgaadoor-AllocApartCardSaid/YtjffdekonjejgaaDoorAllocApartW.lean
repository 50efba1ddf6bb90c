/- AllocApart: its walk. -/
import Derived.Test.YtjffdekonjejgaaDoorAlU
namespace Go.Proofs.YtjffdekonjejgaaDoor
open Go.RowKit
set_option linter.unusedVariables false
set_option maxRecDepth 100000

set_option maxHeartbeats 8000000 in
theorem allocApart_walk (v : Value) (qs : List Ac) (k : Int) (w : World) (hq : Acs w.heap.size w v qs) (hk : -9223372036854775808 ≤ k ∧ k ≤ 9223372036854775807) (hT : Tb w) :
    Calls Tryd.prog 4 #[v, .int .i64 k] w fun r w' => r = .returned (.bool true) ∧ Below w.heap.size w w' := by
  have HB := Lib.hid (begun7 v qs w hq hT)
  have hqv : ∃ A n c, v = .slice A n c := by obtain ⟨A, c, h, _⟩ := hq; exact ⟨A, _, c, h⟩
  obtain ⟨A0, n0, c0, rfl⟩ := hqv
  clear hq hT
  go_enter Tryd.func4, Tryd.ntmps4
  go_wp2_with (go_at_call 18; refine HB.out.mono ?_; rintro e w1 ⟨p, g, l, rfl, ha1, hl, hp, hg, ht1⟩)
  have A1 := Lib.hid ha1
  have T1 := Lib.hid ht1
  have HL := Lib.hid hl
  have HC := Lib.hid (copy7 ha1)
  clear ha1 ht1 hl
  go_wp2_with fail
  refine HC.out.mono ?_
  rintro e w2 ⟨p2, g2, rfl, hb2, hp2, hg2, ht2⟩
  have B2 := Lib.hid hb2
  have T2 := Lib.hid (T1.out.trans ht2)
  have A2 := Lib.hid (A1.out.still ht2)
  have HTK := Lib.hid (take7 A2.out k hk.2)
  have hpl := A1.out.ltp
  have hgl := A1.out.ltg
  have htb0 := A2.out.tb
  have HC7 := Lib.hid (tak7_cases l k)
  clear hb2 ht2
  have hg0 : 0 < g := by
    obtain ⟨c, rest, _, _, _, _, _, h, _⟩ := A2.out
    omega
  have hg20 : 0 < g2 := by
    obtain ⟨c, rest, _, _, _, _, _, h, _⟩ := B2.out
    omega
  have HL7 := Lib.hid (fun w h => lives7 w h)
  clear htb0
  go_wp2_with fail
  refine HTK.out.mono ?_
  rintro e w3 ⟨rfl, ha3, ht3⟩
  have B3 := Lib.hid (B2.out.turn ht3 (by omega) (by omega) (by omega))
  have T3 := Lib.hid (T2.out.trans_new ht3 (fun j hj h => by omega))
  have A3 := Lib.hid ha3
  clear ha3 ht3
  have refused : ∀ X3, tak7 l k = (l, 0, X3) → X3 ≠ 0 → True := fun _ _ _ => trivial
  clear refused
  rcases HC7.out with ⟨hk1, htk⟩ | ⟨hk1, hf, htk⟩ | ⟨I, C, K, rfl, hK1, hf, hKC, hIC, hall, htk⟩
  iterate 2
    · rw [htk] at A3 ⊢
      have HR := Lib.hid (rowsList7 A3.out)
      clear htk HC7
      go_wp2_with fail
      refine HR.out.mono ?_
      rintro e w4 ⟨v4, rfl, ho4, ht4⟩
      obtain ⟨A4, c4, rfl⟩ := own_slice7 ho4
      have P4 := Lib.hid (pr_own ho4)
      have HR2 := Lib.hid (rowsList7 (B3.out.still ht4))
      have T4 := Lib.hid ht4
      clear ho4 ht4
      have hrn := rows7_len (l ++ [false]) 0 0
      have hrl : (rows7 l).length ≤ 101 := by
        rw [List.length_append, HL.out] at hrn
        exact hrn
      clear hrn
      go_wp2_with fail
      refine HR2.out.mono ?_
      rintro e w5 ⟨v5, rfl, ho5, ht5⟩
      obtain ⟨A5, c5, rfl⟩ := own_slice7 ho5
      have HS := Lib.hid (same7 (rows7 l) (rows7 l) _ _ w5 (P4.out.still ht5) (pr_own ho5) (by omega) (by omega))
      have T5 := Lib.hid ((T3.out.trans T4.out).trans ht5)
      have TB5 := Lib.hid ((A3.out.still (T4.out.trans ht5)).tb)
      clear ho5 ht5
      rw [decide_eq_true rfl] at HS
      go_wp2_with fail
      refine HS.out.mono ?_
      rintro e w6 ⟨rfl, ht6⟩
      have T6 := Lib.hid (T5.out.trans ht6)
      have HLL := Lib.hid (HL7.out w6 (TB5.out.turn ht6 (fun h => h)))
      clear ht6
      go_wp2_with fail
      refine HLL.out.mono ?_
      rintro e w7 ⟨rfl, ht7⟩
      go_wp2_with fail
      go_ret
      exact ⟨rfl, (T6.out.trans ht7).below (Nat.le_refl _) (fun _ h => h.elim)⟩
  · rw [htk] at A3 ⊢
    have HF := Lib.hid hf
    have HALL := Lib.hid hall
    rw [HL.out] at hIC
    have HFT := Lib.hid (free_take l I K (by rw [HL.out]; omega) (fun j a b => hall j a (by omega)))
    have HFL := Lib.hid (flip_at l I K)
    have hlf := Lib.hid (len_flip l I K)
    have hfl := free_le l
    rw [HL.out] at hfl
    have hK2 : K ≤ 100 := by omega
    have hK1i : (1 : Int) ≤ (K : Int) := by omega
    have hK2i : (K : Int) ≤ 100 := by omega
    have hI : (0 : Int) ≤ (I : Int) := by omega
    have e1 := wrap_of (100 - (K : Int)) (by omega) (by omega)
    have hI2 : (I : Int) ≤ 100 - (K : Int) := by omega
    clear htk HC7 hf hall
    go_wp2_with fail
    go_loopw [9] (fun v9 wr => ∃ j : Nat, j ≤ 100 ∧ v9 = .int .i64 j ∧ Turn (fun _ => False) w3 wr) (fun v9 _ => 100 - (intOf v9).toNat)
    case atStart => exact ⟨0, by omega, rfl, Turn.refl _ _⟩
    case round =>
      obtain ⟨j, hj, rfl, ht⟩ := hrel
      have HT := Lib.hid ht
      have HHA := Lib.hid (fun w (h : Turn (fun _ => False) w3 w) => hasPage7 (A3.out.still h) (j : Int))
      have HHB := Lib.hid (fun w (h : Turn (fun _ => False) w3 w) => hasPage7 (B3.out.still h) (j : Int))
      clear ht
      by_cases hlt : j < 100
      · have hlti : (j : Int) < 100 := by omega
        have e2 := wrap_of ((I : Int) + (K : Int)) (by omega) (by omega)
        have e3 := wrap_of ((j : Int) + 1) (by omega) (by omega)
        by_cases hw : I ≤ j ∧ j < I + K
        · have ha : has7 (flip l I K) j = true := by
            unfold has7
            rw [hlf.out, HL.out, Int.toNat_natCast, HFL.out _ (by rw [HL.out]; omega), if_pos hw, HALL.out j hw.1 (by omega)]
            simp; omega
          have hb : has7 l j = false := by
            unfold has7
            rw [Int.toNat_natCast, HALL.out j hw.1 (by omega)]
            simp
          rw [ha] at HHA
          rw [hb] at HHB
          have w1 : (I : Int) ≤ (j : Int) := by omega
          have w2' : (j : Int) < (I : Int) + (K : Int) := by omega
          have w3b : decide (I ≤ j) = true := by simpa using hw.1
          clear ha hb hw
          go_wp2_with fail
          refine (HHB.out _ HT.out).mono ?_
          rintro e w4 ⟨rfl, ht4⟩
          have T4 := Lib.hid (HT.out.trans ht4)
          clear ht4
          go_wp2_with fail
          refine (HHA.out _ T4.out).mono ?_
          rintro e w5 ⟨rfl, ht5⟩
          have T5 := Lib.hid (T4.out.trans ht5)
          clear ht5
          go_wp2_with fail
          go_roundw
          case rel => exact ⟨j + 1, hlt, by simp, T5.out⟩
          case measure => simp [intOf]; omega
        · have ha : has7 (flip l I K) j = has7 l j := by
            unfold has7
            rw [hlf.out, Int.toNat_natCast, HFL.out _ (by rw [HL.out]; omega), if_neg hw]
          rw [ha] at HHA
          generalize has7 l j = bb at *
          have w3b : decide (I ≤ j) = false ∨ decide (I ≤ j) = true ∧ ¬ ((j : Int) < (I : Int) + (K : Int)) := by
            by_cases h : I ≤ j
            · exact .inr ⟨by simpa using h, by omega⟩
            · exact .inl (by simpa using h)
          clear ha hw
          rcases w3b with h1 | ⟨h1, h2⟩
          · have h1i : (j : Int) < (I : Int) := by simp at h1; omega
            go_wp2_with fail
            refine (HHA.out _ HT.out).mono ?_
            rintro e w4 ⟨rfl, ht4⟩
            have T4 := Lib.hid (HT.out.trans ht4)
            clear ht4
            go_wp2_with fail
            refine (HHB.out _ T4.out).mono ?_
            rintro e w5 ⟨rfl, ht5⟩
            have T5 := Lib.hid (T4.out.trans ht5)
            clear ht5
            cases bb
            all_goals
              go_wp2_with fail
              go_roundw
              case rel => exact ⟨j + 1, hlt, by simp, T5.out⟩
              case measure => simp [intOf]; omega
          · have h1i : (I : Int) ≤ (j : Int) := by simp at h1; omega
            have h2i : (I : Int) + (K : Int) ≤ (j : Int) := by omega
            clear h2
            go_wp2_with fail
            refine (HHA.out _ HT.out).mono ?_
            rintro e w4 ⟨rfl, ht4⟩
            have T4 := Lib.hid (HT.out.trans ht4)
            clear ht4
            go_wp2_with fail
            refine (HHB.out _ T4.out).mono ?_
            rintro e w5 ⟨rfl, ht5⟩
            have T5 := Lib.hid (T4.out.trans ht5)
            clear ht5
            cases bb
            all_goals
              go_wp2_with fail
              go_roundw
              case rel => exact ⟨j + 1, hlt, by simp, T5.out⟩
              case measure => simp [intOf]; omega
      · obtain rfl : j = 100 := by omega
        have HFA := Lib.hid (freeCount7 (A3.out.still HT.out))
        have HFB := Lib.hid (freeCount7 (B3.out.still HT.out))
        have hsum : (free7 (flip l I K) : Int) = (free7 l : Int) - (K : Int) := by have := HFT.out; omega
        have e4 := wrap_of ((free7 l : Int) - (K : Int)) (by omega) (by omega)
        have hLV := HL7.out _ ((A3.out.still HT.out).tb)
        have HLV := Lib.hid hLV
        rw [hsum] at HFA
        clear hsum hLV
        generalize free7 l = F at *
        go_wp2_with fail
        refine HFA.out.mono ?_
        rintro e w4 ⟨rfl, rfl⟩
        go_wp2_with fail
        refine HFB.out.mono ?_
        rintro e w5 ⟨rfl, rfl⟩
        go_wp2_with fail
        refine HLV.out.mono ?_
        rintro e w6 ⟨rfl, ht6⟩
        go_wp2_with fail
        go_ret
        exact ⟨rfl, ((T3.out.trans HT.out).trans ht6).below (Nat.le_refl _) (fun _ h => h.elim)⟩
end Go.Proofs.YtjffdekonjejgaaDoor
