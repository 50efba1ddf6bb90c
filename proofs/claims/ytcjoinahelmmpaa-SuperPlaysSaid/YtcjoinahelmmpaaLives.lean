/- ambrylaw01.lives answers true: the program tells the document's examples. -/
import Derived.Test.YtcjoinahelmmpaaPutB
import Derived.Test.YtcjoinahelmmpaaGetE
import Derived.Lib.SlBytesConst
namespace Go.Proofs.Ytcjoinahelmmpaa
open Go.RowKit
set_option linter.unusedVariables false

theorem Rdr.lt {w : World} {p at_ er : Nat} {l : List UInt8} (h : Rdr w p l at_ er) : p < w.heap.size := by
  obtain ⟨_, _, _, hb, _⟩ := h; exact hb.lt
theorem Rdr.below {w w' : World} {B p at_ er : Nat} {l : List UInt8} (h : Rdr w p l at_ er) (hb : Below B w w') (hp : p < B) : Rdr w' p l at_ er := by
  obtain ⟨A, cap, hc, hk, hA, h1, h2⟩ := h
  exact ⟨A, cap, hc, hk.below hb hp, hA.below (hb.mono (Nat.le_of_lt hp)), h1, h2⟩

theorem f2_258 : ([] : List UInt8) ++ fld 2 258 = [1, 2] := by decide
theorem f8_m2 : ([] : List UInt8) ++ fld 8 (-2) = [255, 255, 255, 255, 255, 255, 255, 254] := by decide
theorem txt_ab : ([] : List UInt8) ++ txt (⟨#[97, 98]⟩ : ByteArray).data.toList = [0, 0, 0, 2, 97, 98] := by decide
theorem rt_ex : rt_ 1 [0, 0, 0, 2, 97, 98] 0 0 = ([], 0, 5) := by decide

theorem ex_slice (w : World) : Sl (w.alloc (.cells #[.int .u8 0, .int .u8 0, .int .u8 0, .int .u8 2, .int .u8 97, .int .u8 98] 5 (6, 7))) (w.heap.size + 1) (.slice (some ⟨w.heap.size, 0, none⟩) 6 6) [0, 0, 0, 2, 97, 98] := by
  refine ⟨_, 6, rfl, fun _ => ⟨_, rfl, rfl, by simp, fun j c hj => ?_⟩, by simp [maxLen], (fun h => by cases h), by decide⟩
  rw [show (⟨w.heap.size, 0, none⟩ : Addr).add j = ⟨w.heap.size, j, none⟩ from by unfold Addr.add; split <;> simp_all, World.cell?_alloc_mark]
  match j, hj with
  | 0, hj | 1, hj | 2, hj | 3, hj | 4, hj | 5, hj => cases hj; rfl

end Go.Proofs.Ytcjoinahelmmpaa
