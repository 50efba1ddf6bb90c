/- The document's answer's reader (ambryref01.Reader): its calls. -/
import Derived.Test.YtcjoinahelmmpaaVal
import Derived.Test.YtcjoinahelmmpaaApp2
import Derived.StillTailTactics
namespace Go.Proofs.Ytcjoinahelmmpaa
open Go.RowKit
set_option linter.unusedVariables false

/-- The document's reader of l: at a place, with an error. -/
def rv (S : ByteArray) (at_ er : Nat) : Value := .agg #[.string S, .int .i64 at_, .int .i64 er]

theorem wrap64_0 : wrap64 ((0 : Nat) : Int) = 0 := by simp [wrap64]

end Go.Proofs.Ytcjoinahelmmpaa
