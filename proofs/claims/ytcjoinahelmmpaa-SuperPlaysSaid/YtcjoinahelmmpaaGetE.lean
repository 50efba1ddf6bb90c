/- The contracts of package field's readers, fifth part: Text. -/
import Derived.Test.YtcjoinahelmmpaaGetD
namespace Go.Proofs.Ytcjoinahelmmpaa
open Go.RowKit
set_option linter.unusedVariables false

theorem empty_arr : (ByteArray.empty : ByteArray) = ⟨([] : List UInt8).toArray⟩ := rfl

end Go.Proofs.Ytcjoinahelmmpaa
