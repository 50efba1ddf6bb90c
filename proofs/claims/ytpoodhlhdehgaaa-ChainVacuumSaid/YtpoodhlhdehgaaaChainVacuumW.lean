/- The walk of ambrylaw13.ChainVacuum. (mkVcW.py) -/
import Derived.Test.YtpoodhlhdehgaaaVcL
namespace Go.Proofs.Ytpoodhlhdehgaaa
open Go.RowKit
set_option linter.unusedVariables false
set_option linter.unusedSimpArgs false
set_option maxRecDepth 100000

set_option maxHeartbeats 4000000 in
theorem chainVacuum_walk (v : Value) (L : List Vn) (mark less t : Int) (W : World) (h : Vr W v L) (hw : ∀ x ∈ L, (Lit.int .i64 x.t).wf = true) (hcv : Cv v) (h1 : (Lit.int .i64 mark).wf = true) (h2 : (Lit.int .i64 less).wf = true) (h3 : (Lit.int .i64 t).wf = true) :
    Calls Try.prog 5 #[v, .int .i64 mark, .int .i64 less, .int .i64 t] W fun e w' => e = .returned (.bool true) ∧ Below W.heap.size W w' := by
  have HL : Hid (∀ X, Turn (fun _ => False) W X → Calls Try.prog 8 #[] X fun e w' => e = .returned (.bool true) ∧ Turn (fun _ => False) X w') := Lib.hid (fun X _ => lives13 X)
  have T0 := Lib.hid (Turn.refl (fun _ => False) W)
  clear h1 h2 h3
  by_cases hn : L.length ≤ 1000
  · have HC := Lib.hid (fun X (hX : Turn (fun _ => False) W X) => check13 L v X (h.still hX))
    have HA := Lib.hid (fun X (hX : Turn (fun _ => False) W X) => at_13 L v t X (h.still hX) (by omega))
    have HV := Lib.hid (fun X (hX : Turn (fun _ => False) W X) => vacuum13 L v mark X (h.still hX) hcv (by omega))
    obtain ⟨A, c, rfl⟩ := h.len
    obtain ⟨n, hln⟩ : ∃ n, L.length = n := ⟨_, rfl⟩
    clear h hw hcv
    have hn1 : ¬ (1000 : Int) < (L.length : Int) := by omega
    cases hch : chn L with
    | false =>
      rw [hch] at HC
      clear hch hln
      generalize L.length = n at *
      go_enter Try.func5, Try.ntmps5
      go_wp2_with fail
      refine (HC.out _ T0.out).mono ?_
      rintro e w1 ⟨rfl, ht⟩
      have T1 := Lib.hid (T0.out.trans ht)
      clear ht
      go_wp2_with fail
      refine (HL.out _ T1.out).mono ?_
      rintro e w2 ⟨rfl, ht⟩
      have T2 := Lib.hid (T1.out.trans ht)
      clear ht
      go_wp2_with fail
      go_ret
      exact ⟨rfl, T2.out.below (Nat.le_refl _) (fun _ h => h.elim)⟩
    | true =>
      rw [hch] at HC
      have hD := (chn_iff L).1 hch
      have hM : Dn (vacf L mark) := hD.sub (vacf_sub L mark)
      have hMc : chn (vacf L mark) = true := (chn_iff _).2 hM
      have hMl : (vacf L mark).length ≤ n := by rw [← hln]; exact (vacf_sub L mark).length_le
      have HSE : Hid (mark ≤ t → at13 L t = at13 (vacf L mark) t) := Lib.hid (fun hge => by rw [at13_of hD, at13_of hM, fnd_vac mark t hD hge])
      have HVV : Hid (less ≤ mark → vac13 (vacf L mark) less = vacf L mark) := Lib.hid (fun hle => by unfold vac13; rw [hMc, if_pos rfl, vacf_vac L mark less hle])
      have hv0 : vac13 L mark = vacf L mark := by unfold vac13; rw [hch, if_pos rfl]
      rw [hv0] at HV
      rw [hln] at hn hn1 HC HA HV ⊢
      clear hch hD hM hv0 hln
      obtain ⟨M, hMM⟩ : ∃ M, vacf L mark = M := ⟨_, rfl⟩
      rw [hMM] at HV HSE HVV hMc hMl
      clear hMM
      have HAM := Lib.hid (fun u X (hu : Vr X u M) => at_13 M u t X hu (by omega))
      have HVM := Lib.hid (fun u X (hu : Vr X u M) (hc : Cv u) => vacuum13 M u less X hu hc (by omega))
      have HCM := Lib.hid (fun u X (hu : Vr X u M) => (show Calls Try.prog 11 #[u] X fun e w' => e = .returned (.int .i64 0) ∧ Turn (fun _ => False) X w' from by have := check13 M u X hu; rw [hMc] at this; exact this))
      have HSM := Lib.hid (fun u u2 X (hu : Vr X u M) (hu2 : Vr X u2 M) => refSame13 M u u2 X hu hu2)
      obtain ⟨m, hm⟩ : ∃ m, M.length = m := ⟨_, rfl⟩
      have HML := Lib.hid hm
      rw [hm] at hMl
      have hmn : (m : Int) ≤ (n : Int) := by omega
      clear hMc hm
      by_cases hge : mark ≤ t
      · have HRT := Lib.hid (HSE.out hge)
        rw [HRT.out] at HA
        by_cases hle : less ≤ mark
        · have HVR := Lib.hid (HVV.out hle)
          rw [HVR.out] at HVM
          clear HSE HVV HVR HRT
          generalize (at13 M t).1 = S1 at *
          generalize (at13 M t).2 = B1 at *
          have e1 : (S1.toList == S1.toList) = true := by simp
          have e2 : (B1 == B1) = true := by simp
          go_enter Try.func5, Try.ntmps5
          go_wp2_with fail
          refine (HC.out _ T0.out).mono ?_
          rintro e w1 ⟨rfl, ht⟩
          have T1 := Lib.hid (T0.out.trans ht)
          clear ht
          go_wp2_with fail
          refine (HV.out _ T1.out).mono ?_
          rintro e w2 ⟨v2, rfl, hv2, hc2, ht⟩
          have T2 := Lib.hid (T1.out.trans ht)
          have V2 := Lib.hid hv2
          have C2 := Lib.hid hc2
          obtain ⟨A2, c2, e2⟩ := hv2.len
          rw [HML.out] at e2
          subst e2
          have HA2 := Lib.hid (fun X (hX : Turn (fun _ => False) w2 X) => HAM.out _ X (V2.out.still hX))
          have HV2 := Lib.hid (fun X (hX : Turn (fun _ => False) w2 X) => HVM.out _ X (V2.out.still hX) C2.out)
          have HC2 := Lib.hid (fun X (hX : Turn (fun _ => False) w2 X) => HCM.out _ X (V2.out.still hX))
          have HSM2 := Lib.hid (fun X u (hX : Turn (fun _ => False) w2 X) (hu : Vr X u M) => HSM.out u _ X hu (V2.out.still hX))
          have K2 := Lib.hid (Turn.refl (fun _ => False) w2)
          clear hv2 hc2
          clear ht
          go_wp2_with fail
          refine (HA.out _ T2.out).mono ?_
          rintro e w3 ⟨rfl, ht⟩
          have T3 := Lib.hid (T2.out.trans ht)
          have K3 := Lib.hid (K2.out.trans ht)
          clear ht
          go_wp2_with fail
          refine (HA2.out _ K3.out).mono ?_
          rintro e w4 ⟨rfl, ht⟩
          have T4 := Lib.hid (T3.out.trans ht)
          have K4 := Lib.hid (K3.out.trans ht)
          clear ht
          go_wp2_with fail
          refine (HV2.out _ K4.out).mono ?_
          rintro e w5 ⟨v9, rfl, hv9, hc9, ht⟩
          have T5 := Lib.hid (T4.out.trans ht)
          have K5 := Lib.hid (K4.out.trans ht)
          have V9 := Lib.hid hv9
          obtain ⟨A9, c9, e9⟩ := hv9.len
          subst e9
          clear hv9 hc9
          clear ht
          go_wp2_with fail
          refine (HSM2.out _ _ K5.out V9.out).mono ?_
          rintro e w6 ⟨rfl, ht⟩
          have T6 := Lib.hid (T5.out.trans ht)
          have K6 := Lib.hid (K5.out.trans ht)
          clear ht
          go_wp2_with fail
          refine (HC2.out _ K6.out).mono ?_
          rintro e w7 ⟨rfl, ht⟩
          have T7 := Lib.hid (T6.out.trans ht)
          have K7 := Lib.hid (K6.out.trans ht)
          clear ht
          go_wp2_with fail
          refine (HL.out _ T7.out).mono ?_
          rintro e w8 ⟨rfl, ht⟩
          have T8 := Lib.hid (T7.out.trans ht)
          clear ht
          go_wp2_with fail
          go_ret
          exact ⟨rfl, T8.out.below (Nat.le_refl _) (fun _ h => h.elim)⟩
        · clear HSE HVV HRT
          generalize (at13 M t).1 = S1 at *
          generalize (at13 M t).2 = B1 at *
          have e1 : (S1.toList == S1.toList) = true := by simp
          have e2 : (B1 == B1) = true := by simp
          go_enter Try.func5, Try.ntmps5
          go_wp2_with fail
          refine (HC.out _ T0.out).mono ?_
          rintro e w1 ⟨rfl, ht⟩
          have T1 := Lib.hid (T0.out.trans ht)
          clear ht
          go_wp2_with fail
          refine (HV.out _ T1.out).mono ?_
          rintro e w2 ⟨v2, rfl, hv2, hc2, ht⟩
          have T2 := Lib.hid (T1.out.trans ht)
          have V2 := Lib.hid hv2
          have C2 := Lib.hid hc2
          obtain ⟨A2, c2, e2⟩ := hv2.len
          rw [HML.out] at e2
          subst e2
          have HA2 := Lib.hid (fun X (hX : Turn (fun _ => False) w2 X) => HAM.out _ X (V2.out.still hX))
          have HV2 := Lib.hid (fun X (hX : Turn (fun _ => False) w2 X) => HVM.out _ X (V2.out.still hX) C2.out)
          have HC2 := Lib.hid (fun X (hX : Turn (fun _ => False) w2 X) => HCM.out _ X (V2.out.still hX))
          have HSM2 := Lib.hid (fun X u (hX : Turn (fun _ => False) w2 X) (hu : Vr X u M) => HSM.out u _ X hu (V2.out.still hX))
          have K2 := Lib.hid (Turn.refl (fun _ => False) w2)
          clear hv2 hc2
          clear ht
          go_wp2_with fail
          refine (HA.out _ T2.out).mono ?_
          rintro e w3 ⟨rfl, ht⟩
          have T3 := Lib.hid (T2.out.trans ht)
          have K3 := Lib.hid (K2.out.trans ht)
          clear ht
          go_wp2_with fail
          refine (HA2.out _ K3.out).mono ?_
          rintro e w4 ⟨rfl, ht⟩
          have T4 := Lib.hid (T3.out.trans ht)
          have K4 := Lib.hid (K3.out.trans ht)
          clear ht
          go_wp2_with fail
          refine (HC2.out _ K4.out).mono ?_
          rintro e w5 ⟨rfl, ht⟩
          have T5 := Lib.hid (T4.out.trans ht)
          have K5 := Lib.hid (K4.out.trans ht)
          clear ht
          go_wp2_with fail
          refine (HL.out _ T5.out).mono ?_
          rintro e w6 ⟨rfl, ht⟩
          have T6 := Lib.hid (T5.out.trans ht)
          clear ht
          go_wp2_with fail
          go_ret
          exact ⟨rfl, T6.out.below (Nat.le_refl _) (fun _ h => h.elim)⟩
      · by_cases hle : less ≤ mark
        · have HVR := Lib.hid (HVV.out hle)
          rw [HVR.out] at HVM
          clear HSE HVV HVR
          go_enter Try.func5, Try.ntmps5
          go_wp2_with fail
          refine (HC.out _ T0.out).mono ?_
          rintro e w1 ⟨rfl, ht⟩
          have T1 := Lib.hid (T0.out.trans ht)
          clear ht
          go_wp2_with fail
          refine (HV.out _ T1.out).mono ?_
          rintro e w2 ⟨v2, rfl, hv2, hc2, ht⟩
          have T2 := Lib.hid (T1.out.trans ht)
          have V2 := Lib.hid hv2
          have C2 := Lib.hid hc2
          obtain ⟨A2, c2, e2⟩ := hv2.len
          rw [HML.out] at e2
          subst e2
          have HA2 := Lib.hid (fun X (hX : Turn (fun _ => False) w2 X) => HAM.out _ X (V2.out.still hX))
          have HV2 := Lib.hid (fun X (hX : Turn (fun _ => False) w2 X) => HVM.out _ X (V2.out.still hX) C2.out)
          have HC2 := Lib.hid (fun X (hX : Turn (fun _ => False) w2 X) => HCM.out _ X (V2.out.still hX))
          have HSM2 := Lib.hid (fun X u (hX : Turn (fun _ => False) w2 X) (hu : Vr X u M) => HSM.out u _ X hu (V2.out.still hX))
          have K2 := Lib.hid (Turn.refl (fun _ => False) w2)
          clear hv2 hc2
          clear ht
          go_wp2_with fail
          refine (HV2.out _ K2.out).mono ?_
          rintro e w3 ⟨v9, rfl, hv9, hc9, ht⟩
          have T3 := Lib.hid (T2.out.trans ht)
          have K3 := Lib.hid (K2.out.trans ht)
          have V9 := Lib.hid hv9
          obtain ⟨A9, c9, e9⟩ := hv9.len
          subst e9
          clear hv9 hc9
          clear ht
          go_wp2_with fail
          refine (HSM2.out _ _ K3.out V9.out).mono ?_
          rintro e w4 ⟨rfl, ht⟩
          have T4 := Lib.hid (T3.out.trans ht)
          have K4 := Lib.hid (K3.out.trans ht)
          clear ht
          go_wp2_with fail
          refine (HC2.out _ K4.out).mono ?_
          rintro e w5 ⟨rfl, ht⟩
          have T5 := Lib.hid (T4.out.trans ht)
          have K5 := Lib.hid (K4.out.trans ht)
          clear ht
          go_wp2_with fail
          refine (HL.out _ T5.out).mono ?_
          rintro e w6 ⟨rfl, ht⟩
          have T6 := Lib.hid (T5.out.trans ht)
          clear ht
          go_wp2_with fail
          go_ret
          exact ⟨rfl, T6.out.below (Nat.le_refl _) (fun _ h => h.elim)⟩
        · clear HSE HVV
          go_enter Try.func5, Try.ntmps5
          go_wp2_with fail
          refine (HC.out _ T0.out).mono ?_
          rintro e w1 ⟨rfl, ht⟩
          have T1 := Lib.hid (T0.out.trans ht)
          clear ht
          go_wp2_with fail
          refine (HV.out _ T1.out).mono ?_
          rintro e w2 ⟨v2, rfl, hv2, hc2, ht⟩
          have T2 := Lib.hid (T1.out.trans ht)
          have V2 := Lib.hid hv2
          have C2 := Lib.hid hc2
          obtain ⟨A2, c2, e2⟩ := hv2.len
          rw [HML.out] at e2
          subst e2
          have HA2 := Lib.hid (fun X (hX : Turn (fun _ => False) w2 X) => HAM.out _ X (V2.out.still hX))
          have HV2 := Lib.hid (fun X (hX : Turn (fun _ => False) w2 X) => HVM.out _ X (V2.out.still hX) C2.out)
          have HC2 := Lib.hid (fun X (hX : Turn (fun _ => False) w2 X) => HCM.out _ X (V2.out.still hX))
          have HSM2 := Lib.hid (fun X u (hX : Turn (fun _ => False) w2 X) (hu : Vr X u M) => HSM.out u _ X hu (V2.out.still hX))
          have K2 := Lib.hid (Turn.refl (fun _ => False) w2)
          clear hv2 hc2
          clear ht
          go_wp2_with fail
          refine (HC2.out _ K2.out).mono ?_
          rintro e w3 ⟨rfl, ht⟩
          have T3 := Lib.hid (T2.out.trans ht)
          have K3 := Lib.hid (K2.out.trans ht)
          clear ht
          go_wp2_with fail
          refine (HL.out _ T3.out).mono ?_
          rintro e w4 ⟨rfl, ht⟩
          have T4 := Lib.hid (T3.out.trans ht)
          clear ht
          go_wp2_with fail
          go_ret
          exact ⟨rfl, T4.out.below (Nat.le_refl _) (fun _ h => h.elim)⟩
  · obtain ⟨A, c, rfl⟩ := h.len
    have h1 : (1000 : Int) < (L.length : Int) := by omega
    clear h hw hcv
    generalize L.length = n at *
    go_enter Try.func5, Try.ntmps5
    go_wp2_with fail
    refine (HL.out _ T0.out).mono ?_
    rintro e w1 ⟨rfl, ht⟩
    have T1 := Lib.hid (T0.out.trans ht)
    clear ht
    go_wp2_with fail
    go_ret
    exact ⟨rfl, T1.out.below (Nat.le_refl _) (fun _ h => h.elim)⟩
end Go.Proofs.Ytpoodhlhdehgaaa
