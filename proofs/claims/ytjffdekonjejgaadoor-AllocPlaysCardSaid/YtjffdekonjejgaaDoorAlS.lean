/- Layer 7: the chapter's example. -/
import Derived.Test.YtjffdekonjejgaaDoorAlR
namespace Go.Proofs.YtjffdekonjejgaaDoor
open Go.RowKit
set_option linter.unusedVariables false
set_option maxRecDepth 100000

theorem ex7a : tak7 (List.replicate 6 true) 2 = ([false, false, true, true, true, true], 0, 0) := by decide
theorem ex7b : tak7 [false, false, true, true, true, true] 3 = ([false, false, false, false, false, true], 2, 0) := by decide
theorem ex7c : giv7 [false, false, false, false, false, true] 0 2 = ([true, true, false, false, false, true], 0) := by decide
theorem ex7d : tak7 [true, true, false, false, false, true] 1 = ([false, true, false, false, false, true], 0, 0) := by decide
theorem ex7e : tak7 [false, true, false, false, false, true] 2 = ([false, true, false, false, false, true], 0, 10) := by decide
theorem ex7f : giv7 [false, true, false, false, false, true] 1 1 = ([false, true, false, false, false, true], 7) := by decide
theorem ex7g : rows7 [false, true, false, false, false, true] = [(1, 1), (5, 1)] := by decide
theorem ex7h : free7 [false, true, false, false, false, true] = 2 := by decide
set_option maxHeartbeats 2000000 in
theorem lives7 (w : World) (hT : Tb w) : Calls Tryd.prog 10 #[] w fun r w' => r = .returned (.bool true) ∧ Turn (fun _ => False) w w' := by
  have HN := Lib.hid (new7_ok 6 (by decide) (by decide) w hT)
  clear hT
  go_enter Tryd.func10, Tryd.ntmps10
  go_wp2_with (go_at_call 8; refine HN.out.mono ?_; rintro e w1 ⟨p, g, rfl, ha1, hp, hg, ht1⟩)
  have T1 := Lib.hid ht1
  have H1 := Lib.hid (take7 ha1 2 (by decide))
  rw [ex7a] at H1
  clear ha1 ht1
  go_wp2_with fail
  refine H1.out.mono ?_
  rintro e w2 ⟨rfl, ha2, ht2⟩
  have T2 := Lib.hid (T1.out.trans_new ht2 (fun k hk h => by omega))
  have H2 := Lib.hid (take7 ha2 3 (by decide))
  rw [ex7b] at H2
  clear ha2 ht2
  go_wp2_with fail
  refine H2.out.mono ?_
  rintro e w3 ⟨rfl, ha3, ht3⟩
  have T3 := Lib.hid (T2.out.trans_new ht3 (fun k hk h => by omega))
  have H3 := Lib.hid (give7 ha3 0 2 (by decide) (by decide))
  rw [ex7c] at H3
  clear ha3 ht3
  go_wp2_with fail
  refine H3.out.mono ?_
  rintro e w4 ⟨rfl, ha4, ht4⟩
  have T4 := Lib.hid (T3.out.trans_new ht4 (fun k hk h => by omega))
  have H4 := Lib.hid (take7 ha4 1 (by decide))
  rw [ex7d] at H4
  clear ha4 ht4
  go_wp2_with fail
  refine H4.out.mono ?_
  rintro e w5 ⟨rfl, ha5, ht5⟩
  have T5 := Lib.hid (T4.out.trans_new ht5 (fun k hk h => by omega))
  have H5 := Lib.hid (take7 ha5 2 (by decide))
  rw [ex7e] at H5
  clear ha5 ht5
  go_wp2_with fail
  refine H5.out.mono ?_
  rintro e w6 ⟨rfl, ha6, ht6⟩
  have T6 := Lib.hid (T5.out.trans_new ht6 (fun k hk h => by omega))
  have A6 := Lib.hid ha6
  have H6 := Lib.hid (rowsList7 ha6)
  rw [ex7g] at H6
  clear ha6 ht6
  go_wp2_with fail
  refine H6.out.mono ?_
  rintro e w7 ⟨v, rfl, ho7, ht7⟩
  obtain ⟨A, c, rfl⟩ := own_slice7 ho7
  have T7 := Lib.hid (T6.out.trans ht7)
  have A7 := Lib.hid (A6.out.still ht7)
  have P7 := Lib.hid (pr_own (xs := [(1, 1), (5, 1)]) ho7)
  clear ho7 ht7
  have TA : Hid (Turn (fun _ => False) w7 (w7.alloc (.cells #[.int .i64 1, .int .i64 1, .int .i64 5, .int .i64 1] 52))) := Lib.hid ((Turn.refl _ _).alloc _)
  have PL : Hid (Pr (w7.alloc (.cells #[.int .i64 1, .int .i64 1, .int .i64 5, .int .i64 1] 52)) (.slice (some ⟨w7.heap.size, 0, none⟩) 2 2) [(1, 1), (5, 1)]) := Lib.hid (pr_blk (t := 52) (rest := []) (xs := [(1, 1), (5, 1)]) (Blk.new w7 52 [.int .i64 1, .int .i64 1, .int .i64 5, .int .i64 1]))
  have HS := Lib.hid (same7 [(1, 1), (5, 1)] [(1, 1), (5, 1)] _ _ _ (P7.out.still TA.out) PL.out (by decide) (by decide))
  go_wp2_with fail
  refine HS.out.mono ?_
  rintro e w8 ⟨rfl, ht8⟩
  have T8 := Lib.hid ((T7.out.trans TA.out).trans ht8)
  have A8 := Lib.hid ((A7.out.still TA.out).still ht8)
  have H8 := Lib.hid (give7 A8.out 1 1 (by decide) (by decide))
  rw [ex7f] at H8
  clear ht8
  go_wp2_with fail
  refine H8.out.mono ?_
  rintro e w9 ⟨rfl, ha9, ht9⟩
  have T9 := Lib.hid (T8.out.trans_new ht9 (fun k hk h => by omega))
  have H9 := Lib.hid (freeCount7 ha9)
  rw [ex7h] at H9
  clear ha9 ht9
  go_wp2_with fail
  refine H9.out.mono ?_
  rintro e w10 ⟨rfl, rfl⟩
  go_wp2_with fail
  go_ret
  exact ⟨rfl, T9.out⟩
end Go.Proofs.YtjffdekonjejgaaDoor
