/- AllocBack: its walk. -/
import Derived.Test.YtjffdekonjejgaaDoorAlU
namespace Go.Proofs.YtjffdekonjejgaaDoor
open Go.RowKit
set_option linter.unusedVariables false
set_option maxRecDepth 100000

/-- As ahead, but for the pages from I on. -/
def In7 (l0 l : List Bool) (I K : Nat) : Prop := l.length = l0.length ∧ ∀ j, ¬ (I ≤ j ∧ j < I + K) → l.getD j false = l0.getD j false
theorem in7_give {l0 l : List Bool} {I K x : Nat} (h : In7 l0 l I K) (hx : I ≤ x ∧ x < I + K) (hl : I + K ≤ l0.length) : In7 l0 (giv7 l x 1).1 I K := by
  rw [giv7_one l x (by rw [h.1]; omega)]
  split
  · exact h
  · refine ⟨by rw [List.length_set]; exact h.1, fun j hj => ?_⟩
    rw [getD_set _ _ _ _ (by rw [h.1]; omega), if_neg (fun e => hj (by rw [e]; exact hx))]
    exact h.2 j hj
set_option maxHeartbeats 8000000 in
theorem allocBack_walk (v : Value) (qs : List Ac) (k : Int) (u : Value) (zs : List Int) (w : World) (hq : Acs w.heap.size w v qs) (hk : -9223372036854775808 ≤ k ∧ k ≤ 9223372036854775807) (hz : Ints .i64 w w.heap.size u zs) (hT : Tb w) :
    Calls Tryd.prog 5 #[v, .int .i64 k, u] w fun r w' => r = .returned (.bool true) ∧ Below w.heap.size w w' := by
  have HB := Lib.hid (begun7 v qs w hq hT)
  have hqv : ∃ A n c, v = .slice A n c := by obtain ⟨A, c, h, _⟩ := hq; exact ⟨A, _, c, h⟩
  obtain ⟨A0, n0, c0, rfl⟩ := hqv
  obtain ⟨Az, cz, rfl, hzc, _, _, _, _⟩ := hz
  have HZ := Lib.hid hzc
  have HL7 := Lib.hid (fun w h => lives7 w h)
  clear hq hT hzc
  go_enter Tryd.func5, Tryd.ntmps5
  go_wp2_with (go_at_call 18; refine HB.out.mono ?_; rintro e w1 ⟨p, g, l, rfl, ha1, hl, hp, hg, ht1⟩)
  have A1 := Lib.hid ha1
  have T1 := Lib.hid ht1
  have HL := Lib.hid hl
  have HR := Lib.hid (rowsList7 ha1)
  have hrn := rows7_len (l ++ [false]) 0 0
  have hrl : (rows7 l).length ≤ 101 := by
    rw [List.length_append, hl] at hrn
    exact hrn
  clear ha1 ht1 hl hrn
  go_wp2_with fail
  refine HR.out.mono ?_
  rintro e w2 ⟨v2, rfl, ho2, ht2⟩
  have P2 := Lib.hid (pr_own ho2)
  have O2 := Lib.hid (fun b (hb : v2.ownBlock = some b) => own_base7 ho2 b hb)
  have A2 := Lib.hid (A1.out.still ht2)
  have T2 := Lib.hid (T1.out.trans ht2)
  have hpl := A1.out.ltp
  have hgl := A1.out.ltg
  obtain ⟨A, c, rfl⟩ := own_slice7 ho2
  have HTK := Lib.hid (take7 A2.out k hk.2)
  have HC7 := Lib.hid (tak7_cases l k)
  clear ho2 ht2
  go_wp2_with fail
  refine HTK.out.mono ?_
  rintro e w3 ⟨rfl, ha3, ht3⟩
  have T3 := Lib.hid (T2.out.trans_new ht3 (fun j hj h => by omega))
  have P3 := Lib.hid (P2.out.turn ht3 (fun b hb h => by have := O2.out b hb; omega))
  have A3 := Lib.hid ha3
  clear ha3 ht3
  have fin : ∀ w8 (a8 : Al w8 p g l) (t8 : Turn (· = g) w3 w8), Hid (Calls Tryd.prog 15 #[.pointer (some ⟨p, 0, none⟩)] w8 fun r w9 => ∃ B c9, r = .returned (.slice B (rows7 l).length c9) ∧ Turn (fun _ => False) w8 w9 ∧ Al w9 p g l ∧ Turn (fun _ => False) w w9 ∧ Calls Tryd.prog 14 #[.slice B (rows7 l).length c9, .slice A (rows7 l).length c] w9 fun r w' => r = .returned (.bool true) ∧ Turn (fun _ => False) w9 w') := fun w8 a8 t8 => Lib.hid ((rowsList7 a8).mono fun e w9 ⟨v9, he, ho, ht⟩ => by
      obtain ⟨B, c9, rfl⟩ := own_slice7 ho
      refine ⟨B, c9, he, ht, a8.still ht, (T3.out.trans_new t8 (fun j hj h => by omega)).trans ht, ?_⟩
      have := same7 (rows7 l) (rows7 l) _ _ w9 (pr_own ho) ((P3.out.turn t8 (fun b hb h => by have := O2.out b hb; omega)).still ht) (by omega) (by omega)
      rw [decide_eq_true rfl] at this
      exact this)
  have FIN := Lib.hid fin
  clear fin
  rcases HC7.out with ⟨hk1, htk⟩ | ⟨hk1, hf, htk⟩ | ⟨I, C, K, rfl, hK1, hf, hKC, hIC, hall, htk⟩
  iterate 2
    · rw [htk] at A3 ⊢
      have FR := FIN.out w3 A3.out (Turn.refl _ _)
      clear htk HC7
      generalize (rows7 l).length = N at *
      go_wp2_with fail
      refine FR.out.mono ?_
      rintro e w4 ⟨B, c9, rfl, ht4, ha4, hw4, hs4⟩
      have HS := Lib.hid hs4
      have T4 := Lib.hid hw4
      have A4 := Lib.hid ha4
      clear ht4 ha4 hw4 hs4
      go_wp2_with fail
      refine HS.out.mono ?_
      rintro e w6 ⟨rfl, ht6⟩
      have T6 := Lib.hid (T4.out.trans ht6)
      have HLL := Lib.hid (HL7.out w6 (A4.out.still ht6).tb)
      clear ht6
      go_wp2_with fail
      refine HLL.out.mono ?_
      rintro e w7 ⟨rfl, ht7⟩
      go_wp2_with fail
      go_ret
      exact ⟨rfl, (T6.out.trans ht7).below (Nat.le_refl _) (fun _ h => h.elim)⟩
  · rw [htk] at A3 ⊢
    have HALL := Lib.hid hall
    have hIK : I + K ≤ l.length := by omega
    have hI100 : I + K ≤ 100 := by rw [HL.out] at hIC; omega
    have IN0 : Hid (In7 l (flip l I K) I K) := Lib.hid ⟨len_flip l I K, fun j hj => by rw [flip_at _ _ _ _ hIK, if_neg hj]⟩
    have hK2 : K ≤ 100 := by omega
    have hK1i : (1 : Int) ≤ (K : Int) := by omega
    have hK2i : (K : Int) ≤ 100 := by omega
    have hI : (0 : Int) ≤ (I : Int) := by omega
    have HIK := Lib.hid hIK
    clear htk HC7 hf hall hIC
    obtain ⟨n, hn⟩ : ∃ n, n = zs.length := ⟨_, rfl⟩
    have HNZ := Lib.hid hn
    rw [← hn]
    clear hn
    go_wp2_with fail
    go_loopw [11] (fun v11 wr => ∃ (j : Nat) (l2 : List Bool), j ≤ n ∧ j ≤ 200 ∧ v11 = .int .i64 j ∧ In7 l l2 I K ∧ Al wr p g l2 ∧ Turn (· = g) w3 wr) (fun v11 _ => 200 - (intOf v11).toNat)
    case atStart => exact ⟨0, _, Nat.zero_le _, by omega, rfl, IN0.out, A3.out, Turn.refl _ _⟩
    case round =>
      obtain ⟨j, l2, hj, hj2, rfl, hin, ha, ht⟩ := hrel
      have HIN := Lib.hid hin
      have HA := Lib.hid ha
      have HT := Lib.hid ht
      clear hin ha ht
      have hcase : (j < n ∧ j < 200) ∨ (j < n ∧ ¬ j < 200) ∨ ¬ j < n := by omega
      rcases hcase with ⟨h1, h2⟩ | hout
      · have h1i : (j : Int) < (n : Int) := by omega
        have h2i : (j : Int) < 200 := by omega
        obtain ⟨ad, hae, hsp, hab, hac⟩ := HZ.out (by rw [← HNZ.out]; omega)
        subst hae
        obtain ⟨b, o, sp⟩ := ad
        simp only at hsp hab
        subst hsp
        obtain ⟨z, hzj⟩ : ∃ z, zs[j]? = some z := ⟨_, List.getElem?_eq_getElem (by rw [← HNZ.out]; exact h1)⟩
        have hcz := hac j z hzj
        rw [show (⟨b, o, none⟩ : Addr).add j = ⟨b, o + j, none⟩ from by unfold Addr.add; split <;> simp_all] at hcz
        have q0 := (World.cell?_of_block (w := w) (a := ⟨b, o + j, none⟩) ((T3.out.trans_new HT.out (fun i hi h => by omega)).block b hab (fun h => h))).trans hcz
        obtain ⟨y, hy⟩ : ∃ y : Nat, y = (z % 18446744073709551616).toNat := ⟨_, rfl⟩
        obtain ⟨m, hm⟩ : ∃ m : Nat, m = y % K := ⟨_, rfl⟩
        have hmK : m < K := by rw [hm]; exact Nat.mod_lt _ (by omega)
        have hy64 : y < 18446744073709551616 := by omega
        have e1 : IntKind.u64.wrap z = (y : Int) := by rw [IntKind.wrap_u64, hy]; omega
        have e2 : IntKind.u64.wrap (K : Int) = (K : Int) := by rw [IntKind.wrap_u64]; omega
        have e3 : (y : Int).tmod (K : Int) = (m : Int) := by rw [Int.tmod_eq_emod_of_nonneg (by omega), hm]; rfl
        have e3' : (y : Int) % (K : Int) = (m : Int) := by rw [hm]; rfl
        have e4 : IntKind.u64.wrap (m : Int) = (m : Int) := by rw [IntKind.wrap_u64]; omega
        have e4' := wrap_of (m : Int) (by omega) (by omega)
        have e5 := wrap_of ((I : Int) + (m : Int)) (by omega) (by omega)
        have e6 := wrap_of ((j : Int) + 1) (by omega) (by omega)
        have hIm : (I : Int) + (m : Int) = ((I + m : Nat) : Int) := by omega
        have HG : Hid (Calls Tryd.prog 21 #[.pointer (some ⟨p, 0, none⟩), .int .i64 ((I : Int) + (m : Int)), .int .i64 1] wr fun r w' => r = .returned (.int .i64 (giv7 l2 ((I + m : Nat) : Int) 1).2) ∧ Al w' p g (giv7 l2 ((I + m : Nat) : Int) 1).1 ∧ Turn (· = g) wr w') := Lib.hid (by rw [hIm]; exact give7 HA.out _ 1 (by omega) (by decide))
        have IN2 := Lib.hid (in7_give HIN.out (x := I + m) (by omega) HIK.out)
        generalize giv7 l2 ((I + m : Nat) : Int) 1 = X at *
        clear hac hzj hcz hy hm hIm
        go_wp2_with fail
        refine HG.out.mono ?_
        rintro e w5 ⟨rfl, ha5, ht5⟩
        have A5 := Lib.hid ha5
        have T5 := Lib.hid (HT.out.trans ht5)
        clear ha5 ht5
        go_wp2_with fail
        go_roundw
        case rel => exact ⟨j + 1, X.1, h1, h2, by simp, IN2.out, A5.out, T5.out⟩
        case measure => (simp [intOf]; try omega)
      · have hex : (decide (j < n) = true ∧ (j : Int) < (n : Int) ∧ (200 : Int) ≤ (j : Int)) ∨ (decide (j < n) = false ∧ (n : Int) ≤ (j : Int)) := by
          rcases hout with ⟨h1, h2⟩ | h1
          · exact .inl ⟨by simpa using h1, by omega, by omega⟩
          · exact .inr ⟨by simpa using h1, by omega⟩
        clear hout
        rcases hex with ⟨d1, d2, d3⟩ | ⟨d1, d2⟩
        all_goals
          go_wp2_with fail
          go_loopw [12] (fun v12 wr2 => ∃ (i : Nat) (l3 : List Bool), i ≤ K ∧ v12 = .int .i64 i ∧ In7 l l3 I K ∧ (∀ q, q < i → l3.getD (I + q) false = true) ∧ Al wr2 p g l3 ∧ Turn (· = g) w3 wr2) (fun v12 _ => K - (intOf v12).toNat)
          case atStart => exact ⟨0, l2, Nat.zero_le _, rfl, HIN.out, fun q h => absurd h (by omega), HA.out, HT.out⟩
          case round =>
            obtain ⟨i, l3, hi, rfl, hin3, hq3, ha3, ht3⟩ := hrel
            have HIN3 := Lib.hid hin3
            have HA3 := Lib.hid ha3
            have HT3 := Lib.hid ht3
            have HQ3 := Lib.hid hq3
            clear hin3 ha3 ht3 hq3
            by_cases hlt : i < K
            · have hlti : (i : Int) < (K : Int) := by omega
              have hIi : (I : Int) + (i : Int) = ((I + i : Nat) : Int) := by omega
              have e5 := wrap_of ((I : Int) + (i : Int)) (by omega) (by omega)
              have e6 := wrap_of ((i : Int) + 1) (by omega) (by omega)
              have hln : I + i < l3.length := by rw [HIN3.out.1]; have := HIK.out; omega
              have hh : has7 l3 ((I + i : Nat) : Int) = !l3.getD (I + i) false := by
                unfold has7
                rw [Int.toNat_natCast]
                have : (0 : Int) ≤ ((I + i : Nat) : Int) ∧ ((I + i : Nat) : Int) < (l3.length : Int) := by omega
                rw [decide_eq_true this, Bool.true_and]
              have hg1 := giv7_one l3 (I + i) hln
              have HH : Hid (Calls Tryd.prog 17 #[.pointer (some ⟨p, 0, none⟩), .int .i64 ((I : Int) + (i : Int))] wr fun r w' => r = .returned (.bool (!l3.getD (I + i) false)) ∧ Turn (fun _ => False) wr w') := Lib.hid (by rw [hIi, ← hh]; exact hasPage7 HA3.out _)
              cases hb : l3.getD (I + i) false with
              | true =>
                have HQ4 : Hid (∀ q, q < i + 1 → l3.getD (I + q) false = true) := Lib.hid (fun q h => by
                  rcases Nat.lt_succ_iff_lt_or_eq.1 h with h | h
                  · exact HQ3.out q h
                  · rw [h]; exact hb)
                rw [hb] at HH
                clear hb hh hg1 hIi
                go_wp2_with fail
                refine HH.out.mono ?_
                rintro e w5 ⟨rfl, ht5⟩
                have A5 := Lib.hid (HA3.out.still ht5)
                have T5 := Lib.hid (HT3.out.trans (ht5.mono (fun _ _ h => h.elim)))
                clear ht5
                go_wp2_with fail
                go_roundw
                case rel => exact ⟨i + 1, l3, hlt, by simp, HIN3.out, HQ4.out, A5.out, T5.out⟩
                case measure => (simp [intOf]; try omega)
              | false =>
                rw [hb] at HH hg1
                have HG : Hid (∀ W, Al W p g l3 → Calls Tryd.prog 21 #[.pointer (some ⟨p, 0, none⟩), .int .i64 ((I : Int) + (i : Int)), .int .i64 1] W fun r w' => r = .returned (.int .i64 0) ∧ Al w' p g (l3.set (I + i) true) ∧ Turn (· = g) W w') := Lib.hid (fun W hW => by
                  have := give7 hW ((I + i : Nat) : Int) 1 (by omega) (by decide)
                  rw [hg1] at this
                  rw [hIi]; exact this)
                have IN4 : Hid (In7 l (l3.set (I + i) true) I K) := Lib.hid (by
                  have := in7_give HIN3.out (x := I + i) (by omega) HIK.out
                  rw [hg1] at this; exact this)
                have HQ4 : Hid (∀ q, q < i + 1 → (l3.set (I + i) true).getD (I + q) false = true) := Lib.hid (fun q h => by
                  rw [getD_set _ _ _ _ hln]
                  rcases Nat.lt_succ_iff_lt_or_eq.1 h with h | h
                  · rw [if_neg (by omega)]; exact HQ3.out q h
                  · rw [if_pos (by omega)])
                generalize l3.set (I + i) true = l4 at *
                clear hb hh hg1 hIi hln
                go_wp2_with fail
                refine HH.out.mono ?_
                rintro e w5 ⟨rfl, ht5⟩
                have A5 := Lib.hid (HA3.out.still ht5)
                have T5 := Lib.hid (HT3.out.trans (ht5.mono (fun _ _ h => h.elim)))
                clear ht5
                go_wp2_with fail
                refine (HG.out _ A5.out).mono ?_
                rintro e w6 ⟨rfl, ha6, ht6⟩
                have A6 := Lib.hid ha6
                have T6 := Lib.hid (T5.out.trans ht6)
                clear ha6 ht6
                go_wp2_with fail
                go_roundw
                case rel => exact ⟨i + 1, l4, hlt, by simp, IN4.out, HQ4.out, A6.out, T6.out⟩
                case measure => (simp [intOf]; try omega)
            · obtain rfl : i = K := by omega
              have hll : l3 = l := flags_ext HIN3.out.1 (fun q hq => by
                by_cases hin : I ≤ q ∧ q < I + i
                · have h1 := HQ3.out (q - I) (by omega)
                  rw [show I + (q - I) = q from by omega] at h1
                  rw [h1, HALL.out q hin.1 (by omega)]
                · exact HIN3.out.2 q hin)
              have A4 : Hid (Al wr p g l) := by rw [← hll]; exact HA3
              have FR := FIN.out wr A4.out HT3.out
              have hin2 : ¬ ((i : Int) < (i : Int)) := by omega
              clear hll
              generalize (rows7 l).length = N at *
              go_wp2_with fail
              refine FR.out.mono ?_
              rintro e w4 ⟨B, c9, rfl, ht4, ha4, hw4, hs4⟩
              have HS := Lib.hid hs4
              have T4 := Lib.hid hw4
              have A5 := Lib.hid ha4
              clear ht4 ha4 hw4 hs4
              go_wp2_with fail
              refine HS.out.mono ?_
              rintro e w6 ⟨rfl, ht6⟩
              have T6 := Lib.hid (T4.out.trans ht6)
              have HLL := Lib.hid (HL7.out w6 (A5.out.still ht6).tb)
              clear ht6
              go_wp2_with fail
              refine HLL.out.mono ?_
              rintro e w7 ⟨rfl, ht7⟩
              go_wp2_with fail
              go_ret
              exact ⟨rfl, (T6.out.trans ht7).below (Nat.le_refl _) (fun _ h => h.elim)⟩
end Go.Proofs.YtjffdekonjejgaaDoor
