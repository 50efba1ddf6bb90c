/- Layer 7: an alloc behind calls. -/
import Derived.Test.YtmedljnbcpdoeaaDoorAlS
import Derived.Test.YtmedljnbcpdoeaaDoorFrameG
namespace Go.Proofs.YtmedljnbcpdoeaaDoor
open Go.RowKit
set_option linter.unusedVariables false
set_option maxRecDepth 100000

theorem len_tak7 (l : List Bool) (k : Int) : (tak7 l k).1.length = l.length := by
  unfold tak7
  split
  · rfl
  · split
    · rw [len_flip]
    · rfl
theorem len_clm7 (l : List Bool) (k : Int) : (clm7 l k).1.length = l.length := by
  unfold clm7
  split
  · rfl
  · split
    · rw [len_flip]
    · rfl
theorem len_giv7 (l : List Bool) (i k : Int) : (giv7 l i k).1.length = l.length := by
  unfold giv7
  split
  · rfl
  · split
    · rfl
    · split
      · rfl
      · rw [len_flip]
end Go.Proofs.YtmedljnbcpdoeaaDoor
