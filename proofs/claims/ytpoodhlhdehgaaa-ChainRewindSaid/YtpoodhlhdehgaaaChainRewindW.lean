/- The walk of ambrylaw13.ChainRewind. (mkVcW.py) -/
import Derived.Test.YtpoodhlhdehgaaaVcL
namespace Go.Proofs.Ytpoodhlhdehgaaa
open Go.RowKit
set_option linter.unusedVariables false
set_option linter.unusedSimpArgs false
set_option maxRecDepth 100000

set_option maxHeartbeats 4000000 in
theorem chainRewind_walk (v : Value) (L : List Vn) (to t : Int) (W : World) (h : Vr W v L) (hw : ∀ x ∈ L, (Lit.int .i64 x.t).wf = true) (hcv : Cv v) (h1 : (Lit.int .i64 to).wf = true) (h2 : (Lit.int .i64 t).wf = true) :
    Calls Try.prog 7 #[v, .int .i64 to, .int .i64 t] W fun e w' => e = .returned (.bool true) ∧ Below W.heap.size W w' := by
  have HL : Hid (∀ X, Turn (fun _ => False) W X → Calls Try.prog 8 #[] X fun e w' => e = .returned (.bool true) ∧ Turn (fun _ => False) X w') := Lib.hid (fun X _ => lives13 X)
  have T0 := Lib.hid (Turn.refl (fun _ => False) W)
  clear h1 h2
  by_cases hn : L.length ≤ 1000
  · have HC := Lib.hid (fun X (hX : Turn (fun _ => False) W X) => check13 L v X (h.still hX))
    have HA0 := Lib.hid (fun X (hX : Turn (fun _ => False) W X) => at_13 L v (min t to) X (h.still hX) (by omega))
    have HV := Lib.hid (fun X (hX : Turn (fun _ => False) W X) => rewind13 L v to X (h.still hX) hcv (by omega))
    obtain ⟨A, c, rfl⟩ := h.len
    obtain ⟨n, hln⟩ : ∃ n, L.length = n := ⟨_, rfl⟩
    clear h hw hcv
    have hn1 : ¬ (1000 : Int) < (L.length : Int) := by omega
    cases hch : chn L with
    | false =>
      rw [hch] at HC
      clear hch hln HA0
      generalize L.length = n at *
      go_enter Try.func7, Try.ntmps7
      go_wp2_with fail
      refine (HC.out _ T0.out).mono ?_
      rintro e w1 ⟨rfl, ht⟩
      have T1 := Lib.hid (T0.out.trans ht)
      clear ht
      go_wp2_with fail
      refine (HL.out _ T1.out).mono ?_
      rintro e w2 ⟨rfl, ht⟩
      have T2 := Lib.hid (T1.out.trans ht)
      clear ht
      go_wp2_with fail
      go_ret
      exact ⟨rfl, T2.out.below (Nat.le_refl _) (fun _ h => h.elim)⟩
    | true =>
      rw [hch] at HC
      have hD := (chn_iff L).1 hch
      obtain ⟨M, hMM⟩ : ∃ M, L.filter (fun x => decide (x.t ≤ to)) = M := ⟨_, rfl⟩
      have hr0 : rew13 L to = M := by unfold rew13; rw [hch, if_pos rfl, hMM]
      have hM : Dn M := by rw [← hMM]; exact hD.sub List.filter_sublist
      have hMl : M.length ≤ n := by rw [← hln, ← hMM]; exact List.length_filter_le _ _
      have hat : at13 L (min t to) = at13 M t := by rw [at13_of hD, at13_of hM, ← hMM, filter_ge to t hD]
      have hsn : snc M to = false := by rw [← hr0]; exact snc_rew L to
      have hMc : chn M = true := (chn_iff _).2 hM
      rw [hr0] at HV
      have HA : Hid (∀ X, Turn (fun _ => False) W X → Calls Try.prog 9 #[.slice A L.length c, .int .i64 (min t to)] X fun e w' => e = .returned (.tuple #[.string (at13 M t).1, .bool (at13 M t).2]) ∧ Turn (fun _ => False) X w') := Lib.hid (fun X hX => by have := HA0.out X hX; rw [hat] at this; exact this)
      have HMI : Hid ((t ≤ to → min t to = t) ∧ (to < t → min t to = to)) := Lib.hid ⟨fun _ => by omega, fun _ => by omega⟩
      rw [hln] at hn hn1 HC HA HV ⊢
      clear hch hD hM hln HA0 hat hr0 hMM
      have HAM := Lib.hid (fun u X (hu : Vr X u M) => at_13 M u t X hu (by omega))
      have HSM := Lib.hid (fun u X (hu : Vr X u M) => (show Calls Try.prog 13 #[u, .int .i64 to] X fun e w' => e = .returned (.bool false) ∧ Turn (fun _ => False) X w' from by have := since13 M u to X hu (by omega); rw [hsn] at this; exact this))
      have HCM := Lib.hid (fun u X (hu : Vr X u M) => (show Calls Try.prog 11 #[u] X fun e w' => e = .returned (.int .i64 0) ∧ Turn (fun _ => False) X w' from by have := check13 M u X hu; rw [hMc] at this; exact this))
      obtain ⟨m, hm⟩ : ∃ m, M.length = m := ⟨_, rfl⟩
      have HML := Lib.hid hm
      clear hMc hm hMl hsn
      obtain ⟨S1, hS1⟩ : ∃ s, (at13 M t).1 = s := ⟨_, rfl⟩
      obtain ⟨B1, hB1⟩ : ∃ s, (at13 M t).2 = s := ⟨_, rfl⟩
      rw [hS1, hB1] at HAM HA
      clear hS1 hB1
      have e1 : (S1.toList == S1.toList) = true := by simp
      have e2 : (B1 == B1) = true := by simp
      by_cases hle : t ≤ to
      · have hgt : ¬ to < t := by omega
        rw [HMI.out.1 hle] at HA
        clear HMI
        go_enter Try.func7, Try.ntmps7
        go_wp2_with fail
        refine (HC.out _ T0.out).mono ?_
        rintro e w1 ⟨rfl, ht⟩
        have T1 := Lib.hid (T0.out.trans ht)
        clear ht
        go_wp2_with fail
        refine (HV.out _ T1.out).mono ?_
        rintro e w2 ⟨v2, rfl, hv2, hc2, ht⟩
        have T2 := Lib.hid (T1.out.trans ht)
        have V2 := Lib.hid hv2
        obtain ⟨A2, c2, e2⟩ := hv2.len
        rw [HML.out] at e2
        subst e2
        have HA2 := Lib.hid (fun X (hX : Turn (fun _ => False) w2 X) => HAM.out _ X (V2.out.still hX))
        have HS2 := Lib.hid (fun X (hX : Turn (fun _ => False) w2 X) => HSM.out _ X (V2.out.still hX))
        have HC2 := Lib.hid (fun X (hX : Turn (fun _ => False) w2 X) => HCM.out _ X (V2.out.still hX))
        have K2 := Lib.hid (Turn.refl (fun _ => False) w2)
        clear hv2 hc2
        clear ht
        go_wp2_with fail
        refine (HA.out _ T2.out).mono ?_
        rintro e w3 ⟨rfl, ht⟩
        have T3 := Lib.hid (T2.out.trans ht)
        have K3 := Lib.hid (K2.out.trans ht)
        clear ht
        go_wp2_with fail
        refine (HA2.out _ K3.out).mono ?_
        rintro e w4 ⟨rfl, ht⟩
        have T4 := Lib.hid (T3.out.trans ht)
        have K4 := Lib.hid (K3.out.trans ht)
        clear ht
        go_wp2_with fail
        refine (HS2.out _ K4.out).mono ?_
        rintro e w5 ⟨rfl, ht⟩
        have T5 := Lib.hid (T4.out.trans ht)
        have K5 := Lib.hid (K4.out.trans ht)
        clear ht
        go_wp2_with fail
        refine (HC2.out _ K5.out).mono ?_
        rintro e w6 ⟨rfl, ht⟩
        have T6 := Lib.hid (T5.out.trans ht)
        have K6 := Lib.hid (K5.out.trans ht)
        clear ht
        go_wp2_with fail
        refine (HL.out _ T6.out).mono ?_
        rintro e w7 ⟨rfl, ht⟩
        have T7 := Lib.hid (T6.out.trans ht)
        clear ht
        go_wp2_with fail
        go_ret
        exact ⟨rfl, T7.out.below (Nat.le_refl _) (fun _ h => h.elim)⟩
      · have hgt : to < t := by omega
        rw [HMI.out.2 hgt] at HA
        clear HMI
        go_enter Try.func7, Try.ntmps7
        go_wp2_with fail
        refine (HC.out _ T0.out).mono ?_
        rintro e w1 ⟨rfl, ht⟩
        have T1 := Lib.hid (T0.out.trans ht)
        clear ht
        go_wp2_with fail
        refine (HV.out _ T1.out).mono ?_
        rintro e w2 ⟨v2, rfl, hv2, hc2, ht⟩
        have T2 := Lib.hid (T1.out.trans ht)
        have V2 := Lib.hid hv2
        obtain ⟨A2, c2, e2⟩ := hv2.len
        rw [HML.out] at e2
        subst e2
        have HA2 := Lib.hid (fun X (hX : Turn (fun _ => False) w2 X) => HAM.out _ X (V2.out.still hX))
        have HS2 := Lib.hid (fun X (hX : Turn (fun _ => False) w2 X) => HSM.out _ X (V2.out.still hX))
        have HC2 := Lib.hid (fun X (hX : Turn (fun _ => False) w2 X) => HCM.out _ X (V2.out.still hX))
        have K2 := Lib.hid (Turn.refl (fun _ => False) w2)
        clear hv2 hc2
        clear ht
        go_wp2_with fail
        refine (HA.out _ T2.out).mono ?_
        rintro e w3 ⟨rfl, ht⟩
        have T3 := Lib.hid (T2.out.trans ht)
        have K3 := Lib.hid (K2.out.trans ht)
        clear ht
        go_wp2_with fail
        refine (HA2.out _ K3.out).mono ?_
        rintro e w4 ⟨rfl, ht⟩
        have T4 := Lib.hid (T3.out.trans ht)
        have K4 := Lib.hid (K3.out.trans ht)
        clear ht
        go_wp2_with fail
        refine (HA.out _ T4.out).mono ?_
        rintro e w5 ⟨rfl, ht⟩
        have T5 := Lib.hid (T4.out.trans ht)
        have K5 := Lib.hid (K4.out.trans ht)
        clear ht
        go_wp2_with fail
        refine (HS2.out _ K5.out).mono ?_
        rintro e w6 ⟨rfl, ht⟩
        have T6 := Lib.hid (T5.out.trans ht)
        have K6 := Lib.hid (K5.out.trans ht)
        clear ht
        go_wp2_with fail
        refine (HC2.out _ K6.out).mono ?_
        rintro e w7 ⟨rfl, ht⟩
        have T7 := Lib.hid (T6.out.trans ht)
        have K7 := Lib.hid (K6.out.trans ht)
        clear ht
        go_wp2_with fail
        refine (HL.out _ T7.out).mono ?_
        rintro e w8 ⟨rfl, ht⟩
        have T8 := Lib.hid (T7.out.trans ht)
        clear ht
        go_wp2_with fail
        go_ret
        exact ⟨rfl, T8.out.below (Nat.le_refl _) (fun _ h => h.elim)⟩
  · obtain ⟨A, c, rfl⟩ := h.len
    have h1 : (1000 : Int) < (L.length : Int) := by omega
    clear h hw hcv
    generalize L.length = n at *
    go_enter Try.func7, Try.ntmps7
    go_wp2_with fail
    refine (HL.out _ T0.out).mono ?_
    rintro e w1 ⟨rfl, ht⟩
    have T1 := Lib.hid (T0.out.trans ht)
    clear ht
    go_wp2_with fail
    go_ret
    exact ⟨rfl, T1.out.below (Nat.le_refl _) (fun _ h => h.elim)⟩
end Go.Proofs.Ytpoodhlhdehgaaa
