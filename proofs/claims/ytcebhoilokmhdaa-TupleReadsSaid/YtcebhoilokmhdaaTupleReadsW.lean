/- The walk of ambrylaw02.TupleReads. -/
import Derived.Test.YtcebhoilokmhdaaTupRefG
namespace Go.Proofs.Ytcebhoilokmhdaa
open Go.RowKit
set_option linter.unusedVariables false

theorem parts_nil (w : World) (B : Nat) : Parts w B (.slice none 0 0) [] := ⟨none, 0, rfl, (fun h => by simp at h), by simp, by simp, by simp⟩
set_option maxRecDepth 100000 in
set_option maxHeartbeats 1000000 in
theorem tupleReads_walk (S : ByteArray) (w : World) (hsz : S.size ≤ 140737488351232) :
    Calls Try.prog 10 #[.string S] w fun e w' => e = .returned (.bool true) ∧ Below w.heap.size w w' := by
  by_cases hs : (S.size : Int) ≤ 128
  · cases hd : dec S.data.toList with
    | none =>
      have HD := Lib.hid hd
      clear hd
      go_enter Try.func10, Try.ntmps10
      go_wp2_with (first
        | (go_at_call 40; refine (decode_none S hs HD.out _).mono ?_; rintro e w1 ⟨rfl, hb1⟩)
        | (go_at_call 41; refine (refDecode_none S hs HD.out _).mono ?_; rintro e w2 ⟨rfl, hb2⟩; have hb12 := bthen hb1 hb1.size hb2; clear hb2)
        | (go_at_call 42; refine (same_any _ _ [] [] _ (parts_nil _ _) (parts_nil _ _) true (by simp)).mono ?_; rintro e w3 ⟨rfl, hb3⟩; have hb13 := bthen hb12 hb12.size hb3; clear hb3)
        | (go_at_call 34; refine (lives2_any _).mono ?_; rintro e w4 ⟨rfl, hl⟩))
      go_ret
      exact ⟨rfl, bthen hb13 hb13.size hl⟩
    | some ps =>
      have HD := Lib.hid hd
      clear hd
      go_enter Try.func10, Try.ntmps10
      go_wp2_with (first
        | (go_at_call 40; refine (decode_some S hs ps HD.out _).mono ?_; rintro e w1 ⟨A1, c1, rfl, hp1, hb1⟩; have HP1 := Lib.hid hp1; clear hp1)
        | (go_at_call 41; refine (refDecode_some S hs ps HD.out _).mono ?_; rintro e w2 ⟨A2, c2, rfl, hp2, hb2⟩; have HP2 := Lib.hid hp2; have HP3 := Lib.hid (HP1.out.at_ hb2); have hb12 := bthen hb1 hb1.size hb2; clear hb2 hp2)
        | (go_at_call 42; refine (same_any _ _ ps ps _ HP3.out HP2.out true (by simp)).mono ?_; rintro e w3 ⟨rfl, hb3⟩; have hb13 := bthen hb12 hb12.size hb3; clear hb3)
        | (go_at_call 34; refine (lives2_any _).mono ?_; rintro e w4 ⟨rfl, hl⟩))
      go_ret
      exact ⟨rfl, bthen hb13 hb13.size hl⟩
  · have hs' : (128 : Int) < S.size := by omega
    clear hs
    go_enter Try.func10, Try.ntmps10
    go_wp2_with (first
      | (go_at_call 40; refine (decode_big S hs' _).mono ?_; rintro e w1 ⟨rfl, hb1⟩)
      | (go_at_call 41; refine (refDecode_big S hs' _).mono ?_; rintro e w2 ⟨rfl, hb2⟩; have hb12 := bthen hb1 hb1.size hb2; clear hb2)
      | (go_at_call 42; refine (same_any _ _ [] [] _ (parts_nil _ _) (parts_nil _ _) true (by simp)).mono ?_; rintro e w3 ⟨rfl, hb3⟩; have hb13 := bthen hb12 hb12.size hb3; clear hb3)
      | (go_at_call 34; refine (lives2_any _).mono ?_; rintro e w4 ⟨rfl, hl⟩))
    go_ret
    exact ⟨rfl, bthen hb13 hb13.size hl⟩
end Go.Proofs.Ytcebhoilokmhdaa
