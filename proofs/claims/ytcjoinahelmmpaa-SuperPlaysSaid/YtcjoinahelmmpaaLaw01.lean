/- Layer 1: the statements' own helpers: put, get, and the document's answer for a number's field and a text. -/
import Derived.Test.YtcjoinahelmmpaaLives
namespace Go.Proofs.Ytcjoinahelmmpaa
open Go.RowKit
set_option linter.unusedVariables false

/-- What get answers for a number of width k. -/
def gv (k v : Nat) : Int := if k = 3 then wrap64 v else v
theorem gv_3 (v : Nat) : gv 3 v = wrap64 v := if_pos rfl
theorem gv_lt {k : Nat} (h : k ≠ 3) (v : Nat) : gv k v = v := if_neg h

end Go.Proofs.Ytcjoinahelmmpaa
