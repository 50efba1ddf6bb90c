/- Layer 13: the statements' own versions: an example, and versions with room behind. -/
import Derived.Test.YtjkfgbmlhglnfaaVcF
namespace Go.Proofs.Ytjkfgbmlhglnfaa
open Go.RowKit
set_option linter.unusedVariables false
set_option linter.unusedSimpArgs false
set_option maxRecDepth 100000

def ex13 : List Vn := [⟨7, ⟨#[]⟩, true⟩, ⟨5, ⟨#[98]⟩, false⟩, ⟨2, ⟨#[97]⟩, false⟩]
end Go.Proofs.Ytjkfgbmlhglnfaa
