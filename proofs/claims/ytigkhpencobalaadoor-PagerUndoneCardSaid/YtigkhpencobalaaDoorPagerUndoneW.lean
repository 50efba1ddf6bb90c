/- PagerUndone: its walk. -/
import Derived.Test.YtigkhpencobalaaDoorPrR
namespace Go.Proofs.YtigkhpencobalaaDoor
open Go.RowKit
set_option linter.unusedVariables false
set_option linter.unusedSimpArgs false
set_option maxRecDepth 100000

theorem Rk.still {S : Nat → Prop} {w w' : World} {v : Value} {L : List Int} (h : Rk S w v L) (ht : Turn (fun _ => False) w w') : Rk S w' v L := h.step (Stp.quiet ht)
set_option maxHeartbeats 4000000 in
theorem pagerUndone_walk (v1 v2 : Value) (qs1 qs2 : List Acv) (w : World) (h1 : Acts w.heap.size w v1 qs1) (h2 : Acts w.heap.size w v2 qs2) (hT : Tb w) :
    Calls Tryd.prog 5 #[v1, v2] w fun r w' => r = .returned (.bool true) ∧ Below w.heap.size w w' := by
  have HBG := Lib.hid (begun9 v1 qs1 w h1 hT)
  have HF1 := Lib.hid (fun (W : World) (ht : Turn (fun _ => False) w W) => few9_any w.heap.size v1 qs1 W (h1.below (ht.below (Nat.le_refl _) (fun k hk => hk.elim)) (Nat.le_refl _)))
  have HF2 := Lib.hid (fun (W : World) (ht : Turn (fun _ => False) w W) => few9_any w.heap.size v2 qs2 W (h2.below (ht.below (Nat.le_refl _) (fun k hk => hk.elim)) (Nat.le_refl _)))
  have HL := Lib.hid (fun (W : World) (ht : Turn (fun _ => False) w W) => lives9 W (hT.turn ht (fun h => h)))
  have hin := In4.run 3 (List.replicate 8 0) (fresh 70) (in4_none 8) (qs1.take 100)
  have hln := run9_len 3 (List.replicate 8 0) (fresh 70) (qs1.take 100)
  generalize run9 3 (List.replicate 8 0) (fresh 70) (qs1.take 100) = R0 at *
  obtain ⟨st0, D0⟩ := R0
  simp only at hin hln HBG
  have HPD : Hid (D0.pend.length ≤ 800) := Lib.hid (by
    have h3 : (fresh 70).pend.length = 0 := rfl
    have h4 : (qs1.take 100).length ≤ 100 := by rw [List.length_take]; omega
    omega)
  have HIN := Lib.hid hin
  have HS1 : Hid (∀ j, (settle9 st0).getD j 0 = 0 ∨ (settle9 st0).getD j 0 = 1) := Lib.hid (fun j => settle9_at hin j)
  obtain ⟨A2, c2, rfl, hlen2, hrow2⟩ := h2
  have HA2 := Lib.hid hrow2
  clear h1 hT hin hln hrow2
  obtain ⟨n2, hn2⟩ : ∃ n, qs2.length = n := ⟨_, rfl⟩
  have HN2 := Lib.hid hn2
  rw [hn2] at hlen2 HF2 ⊢
  clear hn2
  have HFE : Hid (few9 qs2 = true → n2 ≤ 100) := Lib.hid (fun h => by unfold few9 at h; have := HN2.out; simp at h; omega)
  cases hf1 : few9 qs1 with
  | false =>
    rw [hf1] at HF1
    clear hf1
    go_enter Tryd.func5, Tryd.ntmps5
    go_wp2_with fail
    refine HBG.out.mono ?_
    rintro e w1 ⟨p, pd, S1, rfl, hM⟩
    have M1 := Lib.hid hM
    clear hM
    go_wp2_with fail
    refine (HF1.out _ M1.out.tn).mono ?_
    rintro e w2 ⟨rfl, rfl⟩
    go_wp2_with fail
    refine (HL.out _ M1.out.tn).mono ?_
    rintro e w3 ⟨rfl, ht⟩
    have T3 := Lib.hid (M1.out.tn.trans ht)
    clear ht
    go_wp2_with fail
    go_ret
    exact ⟨rfl, T3.out.below (Nat.le_refl _) (fun k hk => hk.elim)⟩
  | true =>
    rw [hf1] at HF1
    clear hf1
    cases hf2 : few9 qs2 with
    | false =>
      rw [hf2] at HF2
      clear hf2
      go_enter Tryd.func5, Tryd.ntmps5
      go_wp2_with fail
      refine HBG.out.mono ?_
      rintro e w1 ⟨p, pd, S1, rfl, hM⟩
      have M1 := Lib.hid hM
      clear hM
      go_wp2_with fail
      refine (HF1.out _ M1.out.tn).mono ?_
      rintro e w2 ⟨rfl, rfl⟩
      go_wp2_with fail
      refine (HF2.out _ M1.out.tn).mono ?_
      rintro e w2 ⟨rfl, rfl⟩
      go_wp2_with fail
      refine (HL.out _ M1.out.tn).mono ?_
      rintro e w3 ⟨rfl, ht⟩
      have T3 := Lib.hid (M1.out.tn.trans ht)
      clear ht
      go_wp2_with fail
      go_ret
      exact ⟨rfl, T3.out.below (Nat.le_refl _) (fun k hk => hk.elim)⟩
    | true =>
      have hn2 := HFE.out hf2
      rw [hf2] at HF2
      clear hf2 HFE
      go_enter Tryd.func5, Tryd.ntmps5
      go_wp2_with fail
      refine HBG.out.mono ?_
      rintro e w1 ⟨p, pd, S1, rfl, hM⟩
      have M1 := Lib.hid hM
      clear hM
      go_wp2_with fail
      refine (HF1.out _ M1.out.tn).mono ?_
      rintro e w2 ⟨rfl, rfl⟩
      go_wp2_with fail
      refine (HF2.out _ M1.out.tn).mono ?_
      rintro e w2 ⟨rfl, rfl⟩
      go_wp2_with fail
      refine (settle9_q M1.out.q).mono ?_
      rintro e w3 ⟨rfl, S3, hq, hs⟩
      have M3 := Lib.hid (M1.out.go hq hs)
      clear hq hs M1
      generalize settle9 st0 = s1 at *
      have HK2 : Hid (pk9 2 s1 = []) := Lib.hid (pk9_none (fun j _ e => by rcases HS1.out j with h | h <;> (rw [e] at h; cases h)))
      have HK3 : Hid (pk9 3 s1 = []) := Lib.hid (pk9_none (fun j _ e => by rcases HS1.out j with h | h <;> (rw [e] at h; cases h)))
      go_wp2_with fail
      refine (pages9_q M3.out.q).mono ?_
      rintro e w4 ⟨x1, x2, x3, rfl, r1, r2, r3, hq, ht⟩
      rw [HK2.out] at r2
      rw [HK3.out] at r3
      obtain ⟨AW, cW, rfl, hW⟩ := r1
      obtain ⟨nW, hnW⟩ : ∃ n, (pk9 1 s1).length = n := ⟨_, rfl⟩
      have HNW := Lib.hid hnW
      rw [hnW]
      obtain ⟨A5, c5, rfl, _⟩ := r2.irn 0 rfl
      obtain ⟨A6, c6, rfl, _⟩ := r3.irn 0 rfl
      have M4 := Lib.hid (M3.out.still ht)
      have RW : Hid (Rk S3 w4 (.slice AW nW cW) (pk9 1 s1)) := Lib.hid ⟨AW, cW, by rw [HNW.out], hW⟩
      have hnW8 := pkTo_le 1 s1 s1.length
      have HW8 : Hid (nW ≤ 1000000) := Lib.hid (by
        obtain ⟨_, _, _, _, hP, _⟩ := M3.out.q
        have h5 := hP.le
        have h6 : (pk9 1 s1).length ≤ s1.length := hnW8
        omega)
      clear r2 r3 hq ht hW hnW hnW8 M3
      have HFR := Lib.hid (free9_q M4.out.q)
      obtain ⟨F, hF⟩ : ∃ F, free7 (bits9 s1) = F := ⟨_, rfl⟩
      have HFF := Lib.hid hF
      rw [hF] at HFR
      have hFe : ((F : Int) == (F : Int)) = true := by simp
      clear hF
      go_wp2_with fail
      refine HFR.out.mono ?_
      rintro e w5 ⟨rfl, rfl⟩
      clear HFR
      go_wp2_with fail
      go_loopw [11] (fun v11 wr => ∃ (j : Nat) (Sj : Nat → Prop) (stj : List Nat) (Dj : Dsk), j ≤ n2 ∧ v11 = .int .i64 j ∧ Mk9 w Sj wr p pd 3 stj Dj ∧ Hid (Sin s1 stj) ∧ Hid (Dj.pend.length ≤ 800 + 8 * j) ∧ Rk Sj wr (.slice AW nW cW) (pk9 1 s1)) (fun v11 _ => n2 - (intOf v11).toNat)
      case atStart => exact ⟨0, S3, s1, D0, Nat.zero_le _, rfl, M4.out, Lib.hid (Sin.refl HS1.out), HPD, RW.out⟩
      case round =>
        obtain ⟨j, Sj, stj, Dj, hj, rfl, hM, HSN, HPJ, hR⟩ := hrel
        have MM := Lib.hid hM
        have RR := Lib.hid hR
        clear hM hR
        by_cases hlt : j < n2
        · have hl1 : (j : Int) < (n2 : Int) := by omega
          have hl0 : (0 : Int) ≤ (j : Int) := by omega
          have hq := wrap_of ((j : Int) + 1) (by omega) (by omega)
          have hjL : j < qs2.length := by rw [HN2.out]; exact hlt
          obtain ⟨a, ha⟩ : ∃ a, qs2[j]? = some a := ⟨_, List.getElem?_eq_getElem hjL⟩
          obtain ⟨b, o, rfl, hb, hcs⟩ := HA2.out (by rw [HN2.out]; omega)
          obtain ⟨⟨k0, k1, k2, k3⟩, hiv, _, _⟩ := hcs j a ha
          have hcell : ∀ q v, w.cell? ⟨b, q, none⟩ = some v → wr.cell? ⟨b, q, none⟩ = some v := fun q v hv => (World.cell?_of_block (w := w) (a := ⟨b, q, none⟩) (MM.out.tn.block b hb (fun h => h))).trans hv
          have c0 := hcell _ _ k0
          have c1 := hcell _ _ k1
          have c2' := hcell _ _ k2
          have c3 := hcell _ _ k3
          have HIV := Lib.hid ((hiv.below (MM.out.tn.below (Nat.le_refl _) (fun k hk => hk.elim)) (Nat.le_refl _)).iv (S := Sj) MM.out.tn.size MM.out.new)
          have HPN : Hid (Dj.pend.length + 8 < 1000000000) := Lib.hid (by have := HPJ.out; omega)
          have HPL := Lib.hid (play9_any MM.out.q a HIV.out hiv.len HPN.out)
          have HP2 := Lib.hid (len_pl9 3 stj Dj a).2
          clear hcs hcell k0 k1 k2 k3 ha hjL hiv
          by_cases hk3 : a.k = 3
          · clear HPL HP2
            go_wp2_with fail
            go_roundw
            case rel => exact ⟨j + 1, Sj, stj, Dj, by omega, by simp [hq], MM.out, HSN, Lib.hid (by have := HPJ.out; omega), RR.out⟩
            case measure => simp [intOf, hq]; omega
          · have y1 : (a.k != 3) = true := bne_iff_ne.2 hk3
            by_cases hk5 : a.k = 5
            · clear HPL HP2
              go_wp2_with fail
              go_roundw
              case rel => exact ⟨j + 1, Sj, stj, Dj, by omega, by simp [hq], MM.out, HSN, Lib.hid (by have := HPJ.out; omega), RR.out⟩
              case measure => simp [intOf, hq]; omega
            · have y2 : (a.k != 5) = true := bne_iff_ne.2 hk5
              have HSN2 := Lib.hid (HSN.out.pl HS1.out 3 Dj a hk3 hk5)
              go_wp2_with fail
              refine HPL.out.mono ?_
              rintro e w6 ⟨rfl, S6, hq6, hs6⟩
              have M6 := Lib.hid (MM.out.go hq6 hs6)
              have R6 := Lib.hid (RR.out.step hs6)
              clear hq6 hs6
              go_wp2_with fail
              go_roundw
              case rel => exact ⟨j + 1, S6, _, _, by omega, by simp [hq], M6.out, HSN2, Lib.hid (by have := HPJ.out; have := HP2.out; omega), R6.out⟩
              case measure => simp [intOf, hq]; omega
        · have hl1 : ¬ (j : Int) < (n2 : Int) := by omega
          have HUD := Lib.hid (undo9_q MM.out.q)
          rw [HSN.out.undo] at HUD
          go_wp2_with fail
          refine HUD.out.mono ?_
          rintro e w6 ⟨rfl, S6, hq6, hs6⟩
          have M6 := Lib.hid (MM.out.go hq6 hs6)
          have R6 := Lib.hid (RR.out.step hs6)
          clear hq6 hs6 HUD
          go_wp2_with fail
          refine (pages9_q M6.out.q).mono ?_
          rintro e w7 ⟨x1, x2, x3, rfl, r1, r2, r3, hq7, ht⟩
          rw [HK2.out] at r2
          rw [HK3.out] at r3
          have I1 := r1.irn nW HNW.out
          obtain ⟨AN, cN, rfl, hIN⟩ := I1
          obtain ⟨A8, c8, rfl, _⟩ := r2.irn 0 rfl
          obtain ⟨A9, c9, rfl, _⟩ := r3.irn 0 rfl
          obtain ⟨A0, c0, he0, hI0⟩ := (R6.out.still ht).irn nW HNW.out
          injection he0 with e1 e2 e3
          subst e1 e3
          have M7 := Lib.hid (M6.out.still ht)
          have HSV := Lib.hid (sameV9 AN cN AW cW (pk9 1 s1) nW HNW.out w7 hIN hI0 HW8.out)
          clear r1 r2 r3 hq7 ht hIN hI0 e2
          go_wp2_with fail
          refine HSV.out.mono ?_
          rintro e w8 ⟨_, rfl, rfl, ht⟩
          have M8 := Lib.hid (M7.out.still ht)
          have HFR := Lib.hid (free9_q M8.out.q)
          rw [HFF.out] at HFR
          clear ht HSV
          go_wp2_with fail
          refine HFR.out.mono ?_
          rintro e w9 ⟨rfl, rfl⟩
          go_wp2_with fail
          refine (HL.out _ M8.out.tn).mono ?_
          rintro e w10 ⟨rfl, ht⟩
          have T9 := Lib.hid (M8.out.tn.trans ht)
          clear ht
          go_wp2_with fail
          go_ret
          exact ⟨rfl, T9.out.below (Nat.le_refl _) (fun k hk => hk.elim)⟩
end Go.Proofs.YtigkhpencobalaaDoor
