/- Layer 8: Read of bytes that are no page's, on both sides. -/
import Derived.Test.YtcmghbglnkfbaaaPgR
import Derived.Test.YtcmghbglnkfbaaaPgM
namespace Go.Proofs.Ytcmghbglnkfbaaa
open Go.RowKit
set_option linter.unusedVariables false
set_option linter.unusedSimpArgs false
set_option maxRecDepth 100000

theorem refRead_len (S : ByteArray) (hS : S.size ≠ 1024) (w : World) :
    Calls Try.prog 6 #[.string S] w fun e w' => e = .returned (.tuple #[.agg #[.bool false, .slice none 0 0, .slice none 0 0, .slice none 0 0], .int .i64 4]) ∧ Turn (fun _ => False) w w' := by
  have h1 : ((S.size : Int) == 1024) = false := by simp; omega
  have T0 := ((Turn.refl (fun _ => False) w).alloc (.cells #[.bool false, .slice none 0 0, .slice none 0 0, .slice none 0 0] 26))
  have B0 := Blk.new w 26 [.bool false, .slice none 0 0, .slice none 0 0, .slice none 0 0]
  have e0 := B0.cell 0
  have e1 := B0.cell 1
  have e2 := B0.cell 2
  have e3 := B0.cell 3
  simp only [List.getElem?_cons_zero, List.getElem?_cons_succ] at e0 e1 e2 e3
  have HT := Lib.hid T0
  clear T0 B0
  go_enter Try.func6, Try.ntmps6
  go_wp2_with fail
  exact bodyPost_ret (v := .tuple #[.agg #[.bool false, .slice none 0 0, .slice none 0 0, .slice none 0 0], .int .i64 4]) (by simp [results, Try.results6, go_sem, e0, e1, e2, e3]) rfl ⟨rfl, HT.out⟩
theorem read_len (A : Option Addr) (n c : Nat) (hn : n ≠ 1024) (w : World) :
    Calls Try.prog 5 #[.slice A n c] w fun e w' => e = .returned (.tuple #[.agg #[.bool false, .slice none 0 0, .slice none 0 0, .slice none 0 0], .int .i64 4]) ∧ Turn (fun _ => False) w w' := by
  have h1 : ((n : Int) == 1024) = false := by simp; omega
  have T0 := ((Turn.refl (fun _ => False) w).alloc (.cells #[.bool false, .slice none 0 0, .slice none 0 0, .slice none 0 0] 26))
  have B0 := Blk.new w 26 [.bool false, .slice none 0 0, .slice none 0 0, .slice none 0 0]
  have e0 := B0.cell 0
  have e1 := B0.cell 1
  have e2 := B0.cell 2
  have e3 := B0.cell 3
  simp only [List.getElem?_cons_zero, List.getElem?_cons_succ] at e0 e1 e2 e3
  have HT := Lib.hid T0
  clear T0 B0
  go_enter Try.func5, Try.ntmps5
  go_wp2_with fail
  exact bodyPost_ret (v := .tuple #[.agg #[.bool false, .slice none 0 0, .slice none 0 0, .slice none 0 0], .int .i64 4]) (by simp [results, Try.results5, go_sem, e0, e1, e2, e3]) rfl ⟨rfl, HT.out⟩
end Go.Proofs.Ytcmghbglnkfbaaa
