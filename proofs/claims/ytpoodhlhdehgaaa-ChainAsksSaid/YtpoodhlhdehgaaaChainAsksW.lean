/- The walk of ambrylaw13.ChainAsks. (mkVcW.py) -/
import Derived.Test.YtpoodhlhdehgaaaVcL
namespace Go.Proofs.Ytpoodhlhdehgaaa
open Go.RowKit
set_option linter.unusedVariables false
set_option linter.unusedSimpArgs false
set_option maxRecDepth 100000

set_option maxHeartbeats 4000000 in
theorem chainAsks_walk (v : Value) (L : List Vn) (t : Int) (W : World) (h : Vr W v L) (hw : ∀ x ∈ L, (Lit.int .i64 x.t).wf = true) (hcv : Cv v) (ht : (Lit.int .i64 t).wf = true) :
    Calls Try.prog 3 #[v, .int .i64 t] W fun e w' => e = .returned (.bool true) ∧ Below W.heap.size W w' := by
  have HL : Hid (∀ X, Turn (fun _ => False) W X → Calls Try.prog 8 #[] X fun e w' => e = .returned (.bool true) ∧ Turn (fun _ => False) X w') := Lib.hid (fun X _ => lives13 X)
  have T0 := Lib.hid (Turn.refl (fun _ => False) W)
  by_cases hn : L.length ≤ 1000
  · have HA := Lib.hid (fun X (hX : Turn (fun _ => False) W X) => at_13 L v t X (h.still hX) (by omega))
    have HRA := Lib.hid (fun X (hX : Turn (fun _ => False) W X) => refAt13 L v t X (h.still hX))
    have HC := Lib.hid (fun X (hX : Turn (fun _ => False) W X) => check13 L v X (h.still hX))
    have HRC := Lib.hid (fun X (hX : Turn (fun _ => False) W X) => refCheck13 L v X (h.still hX))
    have HS := Lib.hid (fun X (hX : Turn (fun _ => False) W X) => since13 L v t X (h.still hX) (by omega))
    have HRS := Lib.hid (fun X (hX : Turn (fun _ => False) W X) => refSince13 L v t X (h.still hX))
    obtain ⟨A, c, rfl⟩ := h.len
    clear h hw hcv
    have h1 : ¬ (1000 : Int) < (L.length : Int) := by omega
    generalize L.length = n at *
    generalize (at13 L t).1 = S1 at *
    generalize (at13 L t).2 = B1 at *
    generalize snc L t = B2 at *
    generalize (if chn L = true then (0 : Int) else 4) = R at *
    have e1 : (S1.toList == S1.toList) = true := by simp
    have e2 : (B1 == B1) = true := by simp
    have e3 : (B2 == B2) = true := by simp
    have e4 : (R == R) = true := by simp
    go_enter Try.func3, Try.ntmps3
    go_wp2_with fail
    refine (HA.out _ T0.out).mono ?_
    rintro e w1 ⟨rfl, ht⟩
    have T1 := Lib.hid (T0.out.trans ht)
    clear ht
    go_wp2_with fail
    refine (HRA.out _ T1.out).mono ?_
    rintro e w2 ⟨rfl, ht⟩
    have T2 := Lib.hid (T1.out.trans ht)
    clear ht
    go_wp2_with fail
    refine (HC.out _ T2.out).mono ?_
    rintro e w3 ⟨rfl, ht⟩
    have T3 := Lib.hid (T2.out.trans ht)
    clear ht
    go_wp2_with fail
    refine (HRC.out _ T3.out).mono ?_
    rintro e w4 ⟨rfl, ht⟩
    have T4 := Lib.hid (T3.out.trans ht)
    clear ht
    go_wp2_with fail
    refine (HS.out _ T4.out).mono ?_
    rintro e w5 ⟨rfl, ht⟩
    have T5 := Lib.hid (T4.out.trans ht)
    clear ht
    go_wp2_with fail
    refine (HRS.out _ T5.out).mono ?_
    rintro e w6 ⟨rfl, ht⟩
    have T6 := Lib.hid (T5.out.trans ht)
    clear ht
    go_wp2_with fail
    refine (HL.out _ T6.out).mono ?_
    rintro e w7 ⟨rfl, ht⟩
    have T7 := Lib.hid (T6.out.trans ht)
    clear ht
    go_wp2_with fail
    go_ret
    exact ⟨rfl, T7.out.below (Nat.le_refl _) (fun _ h => h.elim)⟩
  · obtain ⟨A, c, rfl⟩ := h.len
    have h1 : (1000 : Int) < (L.length : Int) := by omega
    clear h hw hcv
    generalize L.length = n at *
    go_enter Try.func3, Try.ntmps3
    go_wp2_with fail
    refine (HL.out _ T0.out).mono ?_
    rintro e w1 ⟨rfl, ht⟩
    have T1 := Lib.hid (T0.out.trans ht)
    clear ht
    go_wp2_with fail
    go_ret
    exact ⟨rfl, T1.out.below (Nat.le_refl _) (fun _ h => h.elim)⟩
end Go.Proofs.Ytpoodhlhdehgaaa
