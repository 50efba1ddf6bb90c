/- Layer 5: Check, flagsOf; the document's Right and Check. -/
import Derived.Test.YtcjoinahelmmpaaSltA
namespace Go.Proofs.Ytcjoinahelmmpaa
open Go.RowKit
set_option linter.unusedVariables false

theorem key5 (s : St) : (s.e < 0 ∧ r5 s = false) ∨ (0 ≤ s.e ∧ 2147483647 < s.e ∧ r5 s = false) ∨ ((0 ≤ s.e ∧ s.e ≤ 2147483647) ∧ s.q < 0 ∧ r5 s = false) ∨ ((0 ≤ s.e ∧ s.e ≤ 2147483647) ∧ 0 ≤ s.q ∧ 1152921504606846976 < s.q ∧ r5 s = false)
    ∨ ((0 ≤ s.e ∧ s.e ≤ 2147483647) ∧ (0 ≤ s.q ∧ s.q ≤ 1152921504606846976) ∧ (108 : Int) < (s.d.size : Int) ∧ r5 s = false) ∨ ((0 ≤ s.e ∧ s.e ≤ 2147483647) ∧ (0 ≤ s.q ∧ s.q ≤ 1152921504606846976) ∧ (s.d.size : Int) ≤ 108 ∧ r5 s = true) := by
  unfold r5
  simp only [decide_eq_false_iff_not, decide_eq_true_eq]
  omega
end Go.Proofs.Ytcjoinahelmmpaa
