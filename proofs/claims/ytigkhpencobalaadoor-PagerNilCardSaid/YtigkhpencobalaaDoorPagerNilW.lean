/- PagerNil: its walk. -/
import Derived.Test.YtigkhpencobalaaDoorPrL
namespace Go.Proofs.YtigkhpencobalaaDoor
open Go.RowKit
set_option linter.unusedVariables false
set_option maxRecDepth 100000

set_option maxHeartbeats 2000000 in
theorem pagerNil_of (v vb vl : Value) (i : Int) (w : World) (hN : Nop w v) (hT : Tb w) (b : Bool) (W : World)
    (hW : b = false ∧ v = .pointer none ∧ w = W ∨ b = true ∧ v = .pointer (some ⟨W.heap.size, 0, none⟩) ∧ w = W.alloc (.cells #[.pointer none, .int .i64 0, .pointer none, .slice none 0 0] 80)) :
    Calls Tryd.prog 7 #[.int .i64 i, vb, vl, .bool b] W fun r w' => r = .returned (.bool true) ∧ Turn (fun _ => False) w w' := by
  have HNW := Lib.hid (new9_nod (w := w) (v := .pointer none) (.inl rfl) 0 1)
  have HWR := Lib.hid (write9_no hN vb)
  have HRD := Lib.hid (read9_no hN i)
  have HPG := Lib.hid (pages9_no hN)
  have HRW := Lib.hid (rewrite9_no hN i vb)
  have HRL := Lib.hid (release9_no hN i)
  have HST := Lib.hid (settle9_no hN)
  have HUN := Lib.hid (undo9_no hN)
  have HKP := Lib.hid (keep9_no hN vl)
  have HFR := Lib.hid (free9_no hN)
  have HL := Lib.hid (lives9 w hT)
  clear hN hT
  rcases hW with ⟨rfl, rfl, rfl⟩ | ⟨rfl, rfl, rfl⟩
  all_goals
    go_enter Tryd.func7, Tryd.ntmps7
    go_wp2_with (first
      | (go_at_call 12; refine HNW.out.mono ?_; rintro e w' ⟨rfl, rfl⟩)
      | (go_at_call 31; refine HWR.out.mono ?_; rintro e w' ⟨rfl, rfl⟩)
      | (go_at_call 25; refine HRD.out.mono ?_; rintro e w' ⟨rfl, rfl⟩)
      | (go_at_call 36; refine HPG.out.mono ?_; rintro e w' ⟨rfl, rfl⟩)
      | (go_at_call 15; refine HRW.out.mono ?_; rintro e w' ⟨rfl, rfl⟩)
      | (go_at_call 17; refine HRL.out.mono ?_; rintro e w' ⟨rfl, rfl⟩)
      | (go_at_call 19; refine HST.out.mono ?_; rintro e w' ⟨rfl, rfl⟩)
      | (go_at_call 21; refine HUN.out.mono ?_; rintro e w' ⟨rfl, rfl⟩)
      | (go_at_call 23; refine HKP.out.mono ?_; rintro e w' ⟨rfl, rfl⟩)
      | (go_at_call 38; refine HFR.out.mono ?_; rintro e w' ⟨rfl, rfl⟩)
      | (go_at_call 9; refine HL.out.mono ?_; rintro e w9 ⟨rfl, ht9⟩))
    go_ret
    exact ⟨rfl, ht9⟩
theorem pagerNil_walk (i : Int) (vb vl : Value) (b : Bool) (w : World) (hi : -9223372036854775808 ≤ i ∧ i ≤ 9223372036854775807) (hT : Tb w) :
    Calls Tryd.prog 7 #[.int .i64 i, vb, vl, .bool b] w fun r w' => r = .returned (.bool true) ∧ Below w.heap.size w w' := by
  cases b with
  | false => exact (pagerNil_of (.pointer none) vb vl i w (.inl rfl) hT false w (.inl ⟨rfl, rfl, rfl⟩)).mono fun e w' ⟨he, ht⟩ => ⟨he, ht.below (Nat.le_refl _) (fun _ h => h.elim)⟩
  | true =>
    have t1 : Turn (fun _ => False) w (w.alloc (.cells #[.pointer none, .int .i64 0, .pointer none, .slice none 0 0] 80)) := (Turn.refl _ w).alloc _
    exact (pagerNil_of (.pointer (some ⟨w.heap.size, 0, none⟩)) vb vl i _ (.inr ⟨_, rfl, (Blk.new w 80 [.pointer none, .int .i64 0, .pointer none, .slice none 0 0]).cell 0⟩) (hT.turn t1 (fun h => h)) true w (.inr ⟨rfl, rfl, rfl⟩)).mono fun e w' ⟨he, ht⟩ => ⟨he, (t1.trans ht).below (Nat.le_refl _) (fun _ h => h.elim)⟩
end Go.Proofs.YtigkhpencobalaaDoor
