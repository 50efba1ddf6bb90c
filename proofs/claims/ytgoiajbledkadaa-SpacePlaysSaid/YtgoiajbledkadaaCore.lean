/- A number as a field by the document (ambryref01), as a contract. -/
import Derived.Test.YtgoiajbledkadaaKern
namespace Go.Proofs.Ytgoiajbledkadaa
open Go.RowKit
set_option linter.unusedVariables false

end Go.Proofs.Ytgoiajbledkadaa
