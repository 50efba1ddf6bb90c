/- The walk of ambrylaw03.TagJoined. -/
import Derived.Test.YtcpnmbklkjdjlaaTagSumsW
import Derived.Test.YtcpnmbklkjdjlaaFrameT
namespace Go.Proofs.Ytcpnmbklkjdjlaa
open Go.RowKit
set_option linter.unusedVariables false

set_option maxRecDepth 100000 in
set_option maxHeartbeats 2000000 in
theorem tagJoined_walk (a b : Int × Int) (n : Int) (w : World) (hw : (Lit.int .i64 n).wf = true) :
    Calls Try.prog 5 #[tv a, tv b, .int .i64 n] w fun e w' => e = .returned (.bool true) ∧ Below w.heap.size w w' := by
  have hn := (wf_i64 hw).2
  clear hw
  have HJ := Lib.hid (join_any a b n hn)
  have HRJ := Lib.hid (refJoin_any a b n hn)
  have HC := Lib.hid (check_new a)
  have HRC := Lib.hid (refCheck_any a)
  generalize jv a b n = J at *
  generalize je a b n = E at *
  generalize ck a = K at *
  obtain ⟨a1, a2⟩ := a
  obtain ⟨b1, b2⟩ := b
  obtain ⟨j1, j2⟩ := J
  unfold tv at *
  go_enter Try.func5, Try.ntmps5
  go_wp2_with (first
    | (go_at_call 16; refine (HJ.out _).mono ?_; rintro e w1 ⟨rfl, hb1⟩; obtain ⟨hc1, hf1⟩ := bcell hb1; have hs1 := hb1.size; (try simp at hs1); have hs1a : w.heap.size < w1.heap.size := (by omega); have hs1b : w.heap.size + 1 < w1.heap.size := (by omega); have hB1 : Hid (Below w.heap.size w w1) := (((Below.refl _ _).alloc (Nat.le_refl _) _).alloc (by simp) _).trans (hb1.mono (by simp; omega)))
    | (go_at_call 17; refine (HRJ.out _).mono ?_; rintro e w2 ⟨rfl, hb2⟩; obtain ⟨hc2, hf2⟩ := bcell hb2; have hs2 := hb2.size; (try simp at hs2); have hs2a : w1.heap.size < w2.heap.size := (by omega); have hs2b : w.heap.size < w2.heap.size := (by omega); have hB2 : Hid (Below w.heap.size w w2) := (hB1.out.alloc hB1.out.size _).trans (hb2.mono (by have := hB1.out.size; simp; omega)); have hX : Hid (Below w.heap.size w ((w2.alloc (.cells #[.int .i64 j1, .int .i64 j2] 28)).drew)) := (hB2.out.alloc hB2.out.size _).drew))
  go_region_with (first
    | (go_at_call 18; refine (HC.out _).mono ?_; rintro e w3 ⟨rfl, rfl⟩)
    | (go_at_call 19; refine (HRC.out _).mono ?_; rintro e w4 ⟨rfl, hb4⟩; obtain ⟨hc4, hf4⟩ := bcell hb4; have hs4 := hb4.size; (try simp at hs4); have hs4a : w.heap.size < w4.heap.size := (by omega); have hs4b : w1.heap.size < w4.heap.size := (by omega); have hs4c : w2.heap.size < w4.heap.size := (by omega); have hB4 : Hid (Below w.heap.size w w4) := (by first | exact hX.out.trans (hb4.mono hX.out.size) | exact (hX.out.alloc hX.out.size _).trans (hb4.mono (by have := hX.out.size; simp at this ⊢; omega))))
    | (go_at_call 13; refine (lives3_any _).mono ?_; rintro e w5 ⟨rfl, hl⟩; have hl2 := hl.size))
  all_goals go_wp2_with fail
  all_goals go_ret
  all_goals refine ⟨rfl, ?_⟩
  all_goals first
    | exact hB4.out.trans (hl.mono hB4.out.size)
    | exact (hB4.out.alloc hB4.out.size _).trans (hl.mono (by have := hB4.out.size; simp; omega))
end Go.Proofs.Ytcpnmbklkjdjlaa
