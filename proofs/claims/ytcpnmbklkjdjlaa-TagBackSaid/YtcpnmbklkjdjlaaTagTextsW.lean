/- The walk of ambrylaw03.TagTexts. -/
import Derived.Test.YtcpnmbklkjdjlaaTagP
import Derived.Test.YtcpnmbklkjdjlaaFrameT
namespace Go.Proofs.Ytcpnmbklkjdjlaa
open Go.RowKit
set_option linter.unusedVariables false

theorem ba_self (S : ByteArray) : S = ⟨S.data.toList.toArray⟩ := by cases S; simp

set_option maxRecDepth 100000 in
set_option maxHeartbeats 2000000 in
theorem tagTexts_walk (t : Int × Int) (S : ByteArray) (w : World) (hb : S.size ≤ 140737488351232) :
    Calls Try.prog 6 #[tv t, .string S] w fun e w' => e = .returned (.bool true) ∧ Below w.heap.size w w' := by
  have HT := Lib.hid (text_any t)
  have HRT := Lib.hid (refText_any t)
  have HP := Lib.hid (parse_any S.data.toList S (ba_self S))
  have HRP := Lib.hid (refParse_any S.data.toList S (ba_self S))
  generalize txt t = X at *
  generalize ck t = K at *
  generalize pt S.data.toList = p at *
  generalize pe S.data.toList = E at *
  obtain ⟨t1, t2⟩ := t
  obtain ⟨p1, p2⟩ := p
  unfold tv at *
  go_enter Try.func6, Try.ntmps6
  go_wp2_with fail
  refine (HT.out _).mono ?_
  rintro e w1 ⟨rfl, hb1⟩
  obtain ⟨hc1, hf1⟩ := bcell hb1
  have B1 := Lib.hid (((Below.refl w.heap.size w).alloc (Nat.le_refl _) (.cells #[.int .i64 t1, .int .i64 t2] 28)).trans (hb1.mono (by simp)))
  go_wp2_with fail
  refine (HRT.out _).mono ?_
  rintro e w2 ⟨rfl, hb2⟩
  have B2 := Lib.hid (B1.out.trans (hb2.mono B1.out.size))
  go_wp2_with fail
  refine (HP.out _).mono ?_
  rintro e w3 ⟨rfl, hb3⟩
  have B3 := Lib.hid (B2.out.trans (hb3.mono B2.out.size))
  go_wp2_with fail
  refine (HRP.out _).mono ?_
  rintro e w4 ⟨rfl, hb4⟩
  obtain ⟨hc4, hf4⟩ := bcell hb4
  have B4 := Lib.hid ((B3.out.alloc B3.out.size (.cells #[.int .i64 p1, .int .i64 p2] 28)).trans (hb4.mono (by have := B3.out.size; simp; omega)))
  have hz4 := hb4.size
  simp at hz4
  have hz4' : w3.heap.size < w4.heap.size := by omega
  go_wp2_with fail
  refine (lives3_any _).mono ?_
  rintro e w5 ⟨rfl, hl⟩
  go_wp2_with fail
  go_ret
  exact ⟨rfl, (B4.out.alloc B4.out.size _).trans (hl.mono (by have := B4.out.size; simp; omega))⟩
end Go.Proofs.Ytcpnmbklkjdjlaa
