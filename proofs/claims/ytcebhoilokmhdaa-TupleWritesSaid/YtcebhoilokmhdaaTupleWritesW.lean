/- The walk of ambrylaw02.TupleWrites. -/
import Derived.Test.YtcebhoilokmhdaaTupRefD
namespace Go.Proofs.Ytcebhoilokmhdaa
open Go.RowKit
set_option linter.unusedVariables false

set_option maxRecDepth 100000 in
set_option maxHeartbeats 2000000 in
theorem tupleWrites_walk (va : Value) (a : List Pt) (w : World) (ha : Parts w w.heap.size va a) :
    Calls Try.prog 9 #[va] w fun e w' => e = .returned (.bool true) ∧ Below w.heap.size w w' := by
  have HPA := Lib.hid ha
  obtain ⟨A, capA, rfl, hra⟩ := ha
  clear hra
  by_cases hla : (1000 : Int) < a.length
  · go_enter Try.func9, Try.ntmps9
    go_wp2_with (go_at_call 34; refine (lives2_any _).mono ?_; rintro e w4 ⟨rfl, hl⟩)
    go_ret
    exact ⟨rfl, hl⟩
  obtain ⟨S, hS⟩ : ∃ S, encS a = S := ⟨_, rfl⟩
  obtain ⟨c, hc⟩ : ∃ c, chk a = c := ⟨_, rfl⟩
  have hsz : S.size ≤ 1000 := by
    rw [← hS]
    by_cases h : chk a = 0
    · rw [encS_size h]; have := (chk_ok h).2; omega
    · rw [encS_no h]; simp
  have hsum : ¬ (9223372036854775807 : Int) < (S.size : Int) + 1 := by omega
  have HS := Lib.hid hS
  have HC := Lib.hid hc
  clear hS hc
  go_enter Try.func9, Try.ntmps9
  go_wp2_with (first
    | (go_at_call 35; refine (encode_any _ a _ HPA.out S c HC.out HS.out).mono ?_; rintro e w1 ⟨rfl, hb1⟩)
    | (go_at_call 36; refine (refEncode_any _ a _ (HPA.out.at_ hb1) S c HC.out HS.out).mono ?_; rintro e w2 ⟨rfl, hb2⟩; have hb12 := bthen hb1 hb1.size hb2; clear hb2)
    | (go_at_call 37; refine (check_any _ a _ (HPA.out.at_ hb12)).mono ?_; rintro e w3 ⟨rfl, hb3⟩; rw [HC.out]; have hb13 := bthen hb12 hb12.size hb3; clear hb3)
    | (go_at_call 38; refine (refCheck_any _ a _ (HPA.out.at_ hb13)).mono ?_; rintro e w4 ⟨rfl, hb4⟩; rw [HC.out]; have hb14 := bthen hb13 hb13.size hb4; clear hb4)
    | (go_at_call 39; refine (behind_any S _ hsz rfl _).mono ?_; rintro e w' ⟨rfl, rfl⟩)
    | (go_at_call 34; refine (lives2_any _).mono ?_; rintro e w5 ⟨rfl, hl⟩))
  go_ret
  exact ⟨rfl, bthen hb14 hb14.size hl⟩
end Go.Proofs.Ytcebhoilokmhdaa
