/- The walk of ambrylaw04.BlockNil. -/
import Derived.Test.YtdpjjdkfjecihaaBlkL
namespace Go.Proofs.Ytdpjjdkfjecihaa
open Go.RowKit Go.Maps
set_option linter.unusedVariables false

set_option maxRecDepth 100000 in
set_option maxHeartbeats 4000000 in
theorem blockNil_walk (a0 : Int) (v1 : Value) (l1 : List UInt8) (v2 : Value) (z2 : List Int) (a3 : Bool) (w : World) :
    Calls Try.prog 7 #[.int .i64 a0, v1, v2, .bool a3] w fun e w' => e = .returned (.bool true) ∧ Below w.heap.size w w' := by
  cases a3
  · have hn : Nod w (.pointer none) := .inl rfl
    have h1 := Lib.hid (read_nod hn a0)
    have h2 := Lib.hid (write_nod hn a0 v1)
    have h3 := Lib.hid (flush_nod hn)
    have h4 := Lib.hid (arm_nod hn a0)
    have h5 := Lib.hid (crash_nod hn v2)
    have h6 := Lib.hid (size_nod hn)
    have h7 := Lib.hid (pending_nod hn)
    have h8 := Lib.hid (dead_nod hn)
    have h9 := Lib.hid (copy_nod hn)
    clear hn
    go_enter Try.func7, Try.ntmps7
    go_wp2_with (first
      | (go_at_call 16; refine h1.out.mono ?_; rintro e w' ⟨rfl, rfl⟩)
      | (go_at_call 20; refine h2.out.mono ?_; rintro e w' ⟨rfl, rfl⟩)
      | (go_at_call 21; refine h3.out.mono ?_; rintro e w' ⟨rfl, rfl⟩)
      | (go_at_call 22; refine h4.out.mono ?_; rintro e w' ⟨rfl, rfl⟩)
      | (go_at_call 19; refine h5.out.mono ?_; rintro e w' ⟨rfl, rfl⟩)
      | (go_at_call 15; refine h6.out.mono ?_; rintro e w' ⟨rfl, rfl⟩)
      | (go_at_call 13; refine h7.out.mono ?_; rintro e w' ⟨rfl, rfl⟩)
      | (go_at_call 14; refine h8.out.mono ?_; rintro e w' ⟨rfl, rfl⟩)
      | (go_at_call 23; refine h9.out.mono ?_; rintro e w' ⟨rfl, rfl⟩)
      | (go_at_call 11; refine (lives4_any _).mono ?_; rintro e w7 ⟨rfl, t7⟩))
    go_ret
    exact ⟨rfl, t7⟩
  · have hb := Blk.new w 61 [.slice none 0 0, .slice none 0 0, .map none, .int .i64 0, .bool false]
    have hn : Nod (w.alloc (.cells #[.slice none 0 0, .slice none 0 0, .map none, .int .i64 0, .bool false] 61)) (.pointer (some ⟨w.heap.size, 0, none⟩)) := .inr ⟨_, _, _, rfl, hb.cell 0⟩
    have h1 := Lib.hid (read_nod hn a0)
    have h2 := Lib.hid (write_nod hn a0 v1)
    have h3 := Lib.hid (flush_nod hn)
    have h4 := Lib.hid (arm_nod hn a0)
    have h5 := Lib.hid (crash_nod hn v2)
    have h6 := Lib.hid (size_nod hn)
    have h7 := Lib.hid (pending_nod hn)
    have h8 := Lib.hid (dead_nod hn)
    have h9 := Lib.hid (copy_nod hn)
    have hA : Hid (Below w.heap.size w (w.alloc (.cells #[.slice none 0 0, .slice none 0 0, .map none, .int .i64 0, .bool false] 61))) := Lib.hid ((Below.refl _ _).alloc (Nat.le_refl _) _)
    clear hn hb
    go_enter Try.func7, Try.ntmps7
    go_wp2_with (first
      | (go_at_call 16; refine h1.out.mono ?_; rintro e w' ⟨rfl, rfl⟩)
      | (go_at_call 20; refine h2.out.mono ?_; rintro e w' ⟨rfl, rfl⟩)
      | (go_at_call 21; refine h3.out.mono ?_; rintro e w' ⟨rfl, rfl⟩)
      | (go_at_call 22; refine h4.out.mono ?_; rintro e w' ⟨rfl, rfl⟩)
      | (go_at_call 19; refine h5.out.mono ?_; rintro e w' ⟨rfl, rfl⟩)
      | (go_at_call 15; refine h6.out.mono ?_; rintro e w' ⟨rfl, rfl⟩)
      | (go_at_call 13; refine h7.out.mono ?_; rintro e w' ⟨rfl, rfl⟩)
      | (go_at_call 14; refine h8.out.mono ?_; rintro e w' ⟨rfl, rfl⟩)
      | (go_at_call 23; refine h9.out.mono ?_; rintro e w' ⟨rfl, rfl⟩)
      | (go_at_call 11; refine (lives4_any _).mono ?_; rintro e w7 ⟨rfl, t7⟩))
    go_ret
    exact ⟨rfl, hA.out.trans (t7.mono (by simp))⟩
end Go.Proofs.Ytdpjjdkfjecihaa
