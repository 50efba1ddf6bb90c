/- AllocNil: its walk. -/
import Derived.Test.YtjffdekonjejgaaDoorAlS
namespace Go.Proofs.YtjffdekonjejgaaDoor
open Go.RowKit
set_option linter.unusedVariables false
set_option maxRecDepth 100000

set_option maxHeartbeats 2000000 in
theorem allocNil_of (v : Value) (i k : Int) (w : World) (hN : Noa w v) (hT : Tb w) (b : Bool) (W : World)
    (hW : b = false ∧ v = .pointer none ∧ w = W ∨ b = true ∧ v = .pointer (some ⟨W.heap.size, 0, none⟩) ∧ w = W.alloc (.cells #[.int .i64 0, .slice none 0 0] 55)) :
    Calls Tryd.prog 7 #[.int .i64 i, .int .i64 k, .bool b] W fun r w' => r = .returned (.bool true) ∧ Turn (fun _ => False) w w' := by
  have HT := Lib.hid hT
  have HN := Lib.hid hN
  have HTK := Lib.hid (take7_no hN k)
  have HC := Lib.hid (fun w h => claim7_no (w := w) (v := v) h i)
  have HG := Lib.hid (fun w h => give7_no (w := w) (v := v) h i k)
  have HH := Lib.hid (fun w h => hasPage7_no (w := w) (v := v) h i)
  have HF := Lib.hid (fun w h => freeCount7_no (w := w) (v := v) h)
  have HR := Lib.hid (fun w h => rowsList7_no (w := w) (v := v) h)
  have HCP := Lib.hid (fun w h => copy7_no (w := w) (v := v) h)
  have HL := Lib.hid (fun w h => lives7 w h)
  clear hN hT
  rcases hW with ⟨rfl, rfl, rfl⟩ | ⟨rfl, rfl, rfl⟩
  all_goals
    go_enter Tryd.func7, Tryd.ntmps7
    go_wp2_with fail
    refine HTK.out.mono ?_
    rintro e w1 ⟨rfl, ht1⟩
    have HT1 := Lib.hid (HT.out.turn ht1 (fun h => h))
    have HN1 := Lib.hid (HN.out.turn ht1)
    have H1 := Lib.hid ht1
    clear ht1
    go_wp2_with (first
      | (go_at_call 22; refine (HC.out _ HN1.out).mono ?_; rintro e w' ⟨rfl, rfl⟩)
      | (go_at_call 21; refine (HG.out _ HN1.out).mono ?_; rintro e w' ⟨rfl, rfl⟩)
      | (go_at_call 17; refine (HH.out _ HN1.out).mono ?_; rintro e w' ⟨rfl, rfl⟩)
      | (go_at_call 12; refine (HF.out _ HN1.out).mono ?_; rintro e w' ⟨rfl, rfl⟩)
      | (go_at_call 15; refine (HR.out _ HN1.out).mono ?_; rintro e w' ⟨rfl, rfl⟩)
      | (go_at_call 19; refine (HCP.out _ HN1.out).mono ?_; rintro e w' ⟨rfl, rfl⟩)
      | (go_at_call 10; refine (HL.out _ HT1.out).mono ?_; rintro e w9 ⟨rfl, ht9⟩))
    go_ret
    exact ⟨rfl, H1.out.trans ht9⟩
theorem allocNil_walk (i k : Int) (b : Bool) (w : World) (hi : -9223372036854775808 ≤ i ∧ i ≤ 9223372036854775807) (hk : -9223372036854775808 ≤ k ∧ k ≤ 9223372036854775807) (hT : Tb w) :
    Calls Tryd.prog 7 #[.int .i64 i, .int .i64 k, .bool b] w fun r w' => r = .returned (.bool true) ∧ Below w.heap.size w w' := by
  cases b with
  | false => exact (allocNil_of (.pointer none) i k w (.inl rfl) hT false w (.inl ⟨rfl, rfl, rfl⟩)).mono fun e w' ⟨he, ht⟩ => ⟨he, ht.below (Nat.le_refl _) (fun _ h => h.elim)⟩
  | true =>
    have t1 : Turn (fun _ => False) w (w.alloc (.cells #[.int .i64 0, .slice none 0 0] 55)) := (Turn.refl _ w).alloc _
    exact (allocNil_of (.pointer (some ⟨w.heap.size, 0, none⟩)) i k _ (.inr ⟨_, rfl, (Blk.new w 55 [.int .i64 0, .slice none 0 0]).cell 0⟩) (hT.turn t1 (fun h => h)) true w (.inr ⟨rfl, rfl, rfl⟩)).mono fun e w' ⟨he, ht⟩ => ⟨he, (t1.trans ht).below (Nat.le_refl _) (fun _ h => h.elim)⟩
end Go.Proofs.YtjffdekonjejgaaDoor
