/- The walk of ambrylaw06.RingNil. -/
import Derived.Test.YtjffdekonjejgabRnK
namespace Go.Proofs.Ytjffdekonjejgab
open Go.RowKit
set_option linter.unusedVariables false

set_option maxRecDepth 100000 in
set_option maxHeartbeats 4000000 in
theorem ringNil_walk (s0 : ByteArray) (a1 : Int) (a2 : Bool) (w : World) :
    Calls Try.prog 5 #[.string s0, .int .i64 a1, .bool a2] w fun e w' => e = .returned (.bool true) ∧ Below w.heap.size w w' := by
  cases a2
  · have NB : Hid (∀ W, Below w.heap.size w W → Nor W (.pointer none)) := Lib.hid (fun W _ => .inl rfl)
    go_enter Try.func5, Try.ntmps5
    go_wp2_with (first
      | (go_at_call 8; refine (open_nil 0 2 0 0 _).mono ?_; rintro e w1 ⟨rfl, t1⟩; have N1 := Lib.hid (NB.out w1 t1); have T1 := Lib.hid t1; clear t1)
      | (go_at_call 9; refine (ringAppend_nor N1.out _).mono ?_; rintro e w' ⟨rfl, rfl⟩)
      | (go_at_call 10; refine (ringSync_nor N1.out).mono ?_; rintro e w' ⟨rfl, rfl⟩)
      | (go_at_call 17; refine (ringTruncate_nor N1.out _).mono ?_; rintro e w' ⟨rfl, rfl⟩)
      | (go_at_call 12; refine (ringRecords_nor N1.out).mono ?_; rintro e w' ⟨rfl, rfl⟩)
      | (go_at_call 18; refine (ringStart_nor N1.out).mono ?_; rintro e w' ⟨rfl, rfl⟩)
      | (go_at_call 15; refine (ringNext_nor N1.out).mono ?_; rintro e w' ⟨rfl, rfl⟩)
      | (go_at_call 14; refine (ringEpoch_nor N1.out).mono ?_; rintro e w' ⟨rfl, rfl⟩)
      | (go_at_call 16; refine (ringRoom_nor N1.out).mono ?_; rintro e w' ⟨rfl, rfl⟩)
      | (go_at_call 7; refine (lives6_any _).mono ?_; rintro e w7 ⟨rfl, t7⟩))
    go_ret
    exact ⟨rfl, T1.out.trans (t7.mono T1.out.size)⟩
  · have hb := Blk.new w 45 [.pointer none, .int .i64 0, .int .i64 0, .int .i64 0, .int .i64 0, .int .i64 0, .slice none 0 0]
    have NB : Hid (∀ W, Below (w.alloc (.cells #[.pointer none, .int .i64 0, .int .i64 0, .int .i64 0, .int .i64 0, .int .i64 0, .slice none 0 0] 45)).heap.size (w.alloc (.cells #[.pointer none, .int .i64 0, .int .i64 0, .int .i64 0, .int .i64 0, .int .i64 0, .slice none 0 0] 45)) W → Nor W (.pointer (some ⟨w.heap.size, 0, none⟩))) := Lib.hid (fun W h => .inr ⟨_, rfl, (hb.below h (by rw [World.size_alloc]; exact Nat.lt_succ_self _)).cell 0⟩)
    have hA : Hid (Below w.heap.size w (w.alloc (.cells #[.pointer none, .int .i64 0, .int .i64 0, .int .i64 0, .int .i64 0, .int .i64 0, .slice none 0 0] 45))) := Lib.hid ((Below.refl _ _).alloc (Nat.le_refl _) _)
    clear hb
    go_enter Try.func5, Try.ntmps5
    go_wp2_with (first
      | (go_at_call 8; refine (open_nil 0 2 0 0 _).mono ?_; rintro e w1 ⟨rfl, t1⟩; have N1 := Lib.hid (NB.out w1 t1); have T1 := Lib.hid t1; clear t1)
      | (go_at_call 9; refine (ringAppend_nor N1.out _).mono ?_; rintro e w' ⟨rfl, rfl⟩)
      | (go_at_call 10; refine (ringSync_nor N1.out).mono ?_; rintro e w' ⟨rfl, rfl⟩)
      | (go_at_call 17; refine (ringTruncate_nor N1.out _).mono ?_; rintro e w' ⟨rfl, rfl⟩)
      | (go_at_call 12; refine (ringRecords_nor N1.out).mono ?_; rintro e w' ⟨rfl, rfl⟩)
      | (go_at_call 18; refine (ringStart_nor N1.out).mono ?_; rintro e w' ⟨rfl, rfl⟩)
      | (go_at_call 15; refine (ringNext_nor N1.out).mono ?_; rintro e w' ⟨rfl, rfl⟩)
      | (go_at_call 14; refine (ringEpoch_nor N1.out).mono ?_; rintro e w' ⟨rfl, rfl⟩)
      | (go_at_call 16; refine (ringRoom_nor N1.out).mono ?_; rintro e w' ⟨rfl, rfl⟩)
      | (go_at_call 7; refine (lives6_any _).mono ?_; rintro e w7 ⟨rfl, t7⟩))
    go_ret
    have T2 := hA.out.trans (T1.out.mono hA.out.size)
    exact ⟨rfl, T2.trans (t7.mono T2.size)⟩
end Go.Proofs.Ytjffdekonjejgab
