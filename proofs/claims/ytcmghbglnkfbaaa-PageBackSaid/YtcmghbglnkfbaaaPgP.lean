/- Layer 8: Concat of rows of texts; changed. -/
import Derived.Test.YtcmghbglnkfbaaaPgO
namespace Go.Proofs.Ytcmghbglnkfbaaa
open Go.RowKit
set_option linter.unusedVariables false
set_option maxRecDepth 100000

def catR (R : Nat → List ByteArray) : Nat → List ByteArray
  | 0 => []
  | j + 1 => catR R j ++ R j
theorem catR_mono (R : Nat → List ByteArray) {i j : Nat} (h : i ≤ j) : (catR R i).length ≤ (catR R j).length := by
  induction j with
  | zero => obtain rfl : i = 0 := by omega
            exact Nat.le_refl _
  | succ j ih =>
    rcases Nat.lt_or_ge i (j + 1) with h1 | h1
    · have := ih (by omega)
      rw [catR, List.length_append]; omega
    · obtain rfl : i = j + 1 := by omega
      exact Nat.le_refl _
end Go.Proofs.Ytcmghbglnkfbaaa
