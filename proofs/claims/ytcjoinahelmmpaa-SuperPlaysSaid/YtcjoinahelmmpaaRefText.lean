/- The document's answer's reader: Text. -/
import Derived.Test.YtcjoinahelmmpaaRefReader
namespace Go.Proofs.Ytcjoinahelmmpaa
open Go.RowKit
set_option linter.unusedVariables false

theorem wrap64_nat (n : Nat) (h : n < 4294967296) : wrap64 (n : Int) = n := by unfold wrap64; omega
theorem num4_lt (l : List UInt8) (at_ : Nat) : num 4 l at_ < 4294967296 := by have := num_lt 4 l at_; simpa using this

end Go.Proofs.Ytcjoinahelmmpaa
