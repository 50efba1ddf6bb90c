/- BatchDiffers: its walk. -/
import Derived.Test.YtobddfpdijmgiaaBtN
import Derived.Test.YtobddfpdijmgiaaBtH
namespace Go.Proofs.Ytobddfpdijmgiaa
open Go.RowKit Go.Shelf
set_option linter.unusedVariables false
set_option linter.unusedSimpArgs false
set_option maxRecDepth 100000
attribute [local go_sem] Oper.semAt_some

set_option maxHeartbeats 8000000 in
theorem batchDiffers_of (X Y : List Pq2) (A0 : Option Addr) (n0 c0 : Nat) (A1 : Option Addr) (n1 c1 : Nat) (w : World) (hA : Pc w (.slice A0 n0 c0) X) (hB : Pc w (.slice A1 n1 c1) Y) (hzx : ∀ x ∈ X, x.k.size ≤ 140737488351232) (hzy : ∀ x ∈ Y, x.k.size ≤ 140737488351232) :
    Calls Try.prog 10 #[.slice A0 n0 c0, .slice A1 n1 c1] w fun r w' => r = .returned (.bool true) ∧ Turn (fun _ => False) w w' := by
  have HN0 : Hid (n0 = X.length) := Lib.hid (by obtain ⟨_, _, e, _, _⟩ := id hA.1; injection e)
  have HN1 : Hid (n1 = Y.length) := Lib.hid (by obtain ⟨_, _, e, _, _⟩ := id hB.1; injection e)
  have hl0 : n0 ≤ 9223372036854775807 := by obtain ⟨_, _, e, h, _⟩ := id hA.1; injection e with _ e _; omega
  have hl1 : n1 ≤ 9223372036854775807 := by obtain ⟨_, _, e, h, _⟩ := id hB.1; injection e with _ e _; omega
  have HA := Lib.hid hA
  have HB := Lib.hid hB
  have HZX := Lib.hid hzx
  have HZY := Lib.hid hzy
  clear hA hB hzx hzy
  by_cases h0 : 1000 < n0
  · have g0 : (1000 : Int) < (n0 : Int) := by omega
    go_enter Try.func10, Try.ntmps10
    go_wp2_with (go_at_call 30; refine (lives_15 _).mono ?_; rintro e w9 ⟨rfl, t9⟩)
    go_ret
    exact ⟨rfl, t9⟩
  · have g0 : ¬ (1000 : Int) < (n0 : Int) := by omega
    by_cases h1 : 1000 < n1
    · have g1 : (1000 : Int) < (n1 : Int) := by omega
      go_enter Try.func10, Try.ntmps10
      go_wp2_with (go_at_call 30; refine (lives_15 _).mono ?_; rintro e w9 ⟨rfl, t9⟩)
      go_ret
      exact ⟨rfl, t9⟩
    · have g1 : ¬ (1000 : Int) < (n1 : Int) := by omega
      have HL0 : Hid (X.length ≤ 2000) := Lib.hid (by rw [← HN0.out]; omega)
      have HL1 : Hid (Y.length ≤ 2000) := Lib.hid (by rw [← HN1.out]; omega)
      have HDL : Hid ((dfr X Y).length ≤ 4000) := Lib.hid (by
        have h := dif_len _ X Y (Nat.le_refl _)
        have := HL0.out
        have := HL1.out
        unfold dfr
        split
        · omega
        · simp)
      have HPA := Lib.hid (fun W (hW : Turn (fun _ => False) w W) => differ_15 X Y _ _ W (HA.out.still hW) (HB.out.still hW).1 HL0.out HL1.out)
      have HPB := Lib.hid (fun W (hW : Turn (fun _ => False) w W) => refDiffer_15 X Y _ _ W (HA.out.still hW).1 (HB.out.still hW).1 HL0.out HL1.out HZX.out HZY.out)
      go_enter Try.func10, Try.ntmps10
      go_wp2_with (first
        | (go_at_call 47; refine (HPA.out _ (Turn.refl _ _)).mono ?_; rintro e w1 ⟨A2, n2, c2, rfl, hc2, ht1⟩; have C2 := Lib.hid (hc2.cx (by have := HDL.out; omega)); have T1 := Lib.hid ht1; clear hc2 ht1)
        | (go_at_call 48; refine (HPB.out _ T1.out).mono ?_; rintro e w2 ⟨A3, n3, c3, rfl, hc3, ht2⟩; have C3 := Lib.hid (hc3.cx (by have := HDL.out; omega)); have T2 := Lib.hid (T1.out.trans ht2); have C4 := Lib.hid (C2.out.still ht2); clear hc3 ht2)
        | (go_at_call 46; refine (refSameC_15 _ _ _ _ C4.out C3.out).mono ?_; rintro e w3 ⟨rfl, ht3⟩; have T3 := Lib.hid (T2.out.trans ht3); clear ht3)
        | (go_at_call 30; refine (lives_15 _).mono ?_; rintro e w9 ⟨rfl, t9⟩))
      go_ret
      exact ⟨rfl, T3.out.trans t9⟩
theorem batchDiffers_walk (v0 : Value) (X : List Pq2) (v1 : Value) (Y : List Pq2) (w : World) (hA : Pc w v0 X) (hzx : ∀ x ∈ X, x.k.size ≤ 140737488351232) (hB : Pc w v1 Y) (hzy : ∀ x ∈ Y, x.k.size ≤ 140737488351232) :
    Calls Try.prog 10 #[v0, v1] w fun r w' => r = .returned (.bool true) ∧ Below w.heap.size w w' := by
  obtain ⟨A0, c0, rfl, _⟩ := id hA.1
  obtain ⟨A1, c1, rfl, _⟩ := id hB.1
  exact (batchDiffers_of X Y A0 _ c0 A1 _ c1 w hA hB hzx hzy).mono fun e w' ⟨he, ht⟩ => ⟨he, ht.below (Nat.le_refl _) (fun _ h => h.elim)⟩
end Go.Proofs.Ytobddfpdijmgiaa
