/- Layer 7: the chapter's example. -/
import Derived.Test.YtmedljnbcpdoeaaDoorAlR
namespace Go.Proofs.YtmedljnbcpdoeaaDoor
open Go.RowKit
set_option linter.unusedVariables false
set_option maxRecDepth 100000

theorem ex7a : tak7 (List.replicate 6 true) 2 = ([false, false, true, true, true, true], 0, 0) := by decide
theorem ex7b : tak7 [false, false, true, true, true, true] 3 = ([false, false, false, false, false, true], 2, 0) := by decide
theorem ex7c : giv7 [false, false, false, false, false, true] 0 2 = ([true, true, false, false, false, true], 0) := by decide
theorem ex7d : tak7 [true, true, false, false, false, true] 1 = ([false, true, false, false, false, true], 0, 0) := by decide
theorem ex7e : tak7 [false, true, false, false, false, true] 2 = ([false, true, false, false, false, true], 0, 10) := by decide
theorem ex7f : giv7 [false, true, false, false, false, true] 1 1 = ([false, true, false, false, false, true], 7) := by decide
theorem ex7g : rows7 [false, true, false, false, false, true] = [(1, 1), (5, 1)] := by decide
theorem ex7h : free7 [false, true, false, false, false, true] = 2 := by decide
end Go.Proofs.YtmedljnbcpdoeaaDoor
