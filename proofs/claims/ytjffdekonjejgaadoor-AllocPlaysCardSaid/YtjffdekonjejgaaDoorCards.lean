/-
  DERIVED. GIVEN WITH THE SEED: THE CARDS: each row of YtjffdekonjejgaaDoorRows.lean that lists a variable, with what it lists TIED to the program's text (the seventh form; the later family's looks); each row that meets fmt, with fmt's text TOLD by the authors' own Lean function (tested against real Go, not proved from fmt's source: count such statements apart). THE CARD IS WHAT COUNTS. Prove the row's statement (the work); the ties are given (YtjffdekonjejgaaDoorTie.lean); close each card by the builder's one call (the guide's Derived/Test/ToyasCard.lean, 'card_holds'). Laid BY PROGRAM, IN A SANDBOX (cutbox-door.mjs). By AI agents, Wed Nov 11 2026. No macro, syntax, notation, axiom, sorry.
-/
import Derived.Test.YtjffdekonjejgaaDoorRows
import GoSem.ClaimSeven
namespace Go.Proofs.YtjffdekonjejgaaDoor
namespace Rows

/-- THE TIED CARD OF 'ambrylaw07.AllocPlays'. -/
def allocPlaysCard : Claim7 := { stood := { row := allocPlaysRow, standIns := [], harness := (true, "6939113255bcfc394330aafe14b2b271246faaf7efce5bb00eeadd54f512a893"), looks := false }, kinds := [], alts := [], laidByText := true, laidKinds := [.data], laidTests := true, laidLooks := .later }
def AllocPlaysCardSaid : Prop := Claim7.holds Tryd.pinned (.plain (OpenSpec.ofChange allocPlaysSpec)) allocPlaysCard

/-- THE TIED CARD OF 'ambrylaw07.AllocApart'. -/
def allocApartCard : Claim7 := { stood := { row := allocApartRow, standIns := [], harness := (true, "6939113255bcfc394330aafe14b2b271246faaf7efce5bb00eeadd54f512a893"), looks := false }, kinds := [], alts := [], laidByText := true, laidKinds := [.data], laidTests := true, laidLooks := .later }
def AllocApartCardSaid : Prop := Claim7.holds Tryd.pinned (.plain (OpenSpec.ofChange allocApartSpec)) allocApartCard

/-- THE TIED CARD OF 'ambrylaw07.AllocBack'. -/
def allocBackCard : Claim7 := { stood := { row := allocBackRow, standIns := [], harness := (true, "6939113255bcfc394330aafe14b2b271246faaf7efce5bb00eeadd54f512a893"), looks := false }, kinds := [], alts := [], laidByText := true, laidKinds := [.data], laidTests := true, laidLooks := .later }
def AllocBackCardSaid : Prop := Claim7.holds Tryd.pinned (.plain (OpenSpec.ofChange allocBackSpec)) allocBackCard

/-- THE TIED CARD OF 'ambrylaw07.AllocFirst'. -/
def allocFirstCard : Claim7 := { stood := { row := allocFirstRow, standIns := [], harness := (true, "6939113255bcfc394330aafe14b2b271246faaf7efce5bb00eeadd54f512a893"), looks := false }, kinds := [], alts := [], laidByText := true, laidKinds := [.data], laidTests := true, laidLooks := .later }
def AllocFirstCardSaid : Prop := Claim7.holds Tryd.pinned (.plain (OpenSpec.ofChange allocFirstSpec)) allocFirstCard

/-- THE TIED CARD OF 'ambrylaw07.AllocNil'. -/
def allocNilCard : Claim7 := { stood := { row := allocNilRow, standIns := [], harness := (true, "6939113255bcfc394330aafe14b2b271246faaf7efce5bb00eeadd54f512a893"), looks := false }, kinds := [], alts := [], laidByText := true, laidKinds := [.data], laidTests := true, laidLooks := .later }
def AllocNilCardSaid : Prop := Claim7.holds Tryd.pinned (.plain (OpenSpec.ofChange allocNilSpec)) allocNilCard

/-- THE SECOND FORM's CARD OF 'ambrylaw07.AllocPlays'. -/
def allocPlaysUptoCard : Claim7 := { stood := { row := allocPlaysUptoRow, standIns := [], harness := (true, "6939113255bcfc394330aafe14b2b271246faaf7efce5bb00eeadd54f512a893"), looks := false }, kinds := [], alts := [], laidByText := true, laidKinds := [.data], laidTests := true, laidLooks := .later }
def AllocPlaysUptoCardSaid : Prop := Claim7.holds Tryd.pinned (.plain (OpenSpec.upto allocPlaysSpec)) allocPlaysUptoCard

/-- THE SECOND FORM's CARD OF 'ambrylaw07.AllocApart'. -/
def allocApartUptoCard : Claim7 := { stood := { row := allocApartUptoRow, standIns := [], harness := (true, "6939113255bcfc394330aafe14b2b271246faaf7efce5bb00eeadd54f512a893"), looks := false }, kinds := [], alts := [], laidByText := true, laidKinds := [.data], laidTests := true, laidLooks := .later }
def AllocApartUptoCardSaid : Prop := Claim7.holds Tryd.pinned (.plain (OpenSpec.upto allocApartSpec)) allocApartUptoCard

/-- THE SECOND FORM's CARD OF 'ambrylaw07.AllocBack'. -/
def allocBackUptoCard : Claim7 := { stood := { row := allocBackUptoRow, standIns := [], harness := (true, "6939113255bcfc394330aafe14b2b271246faaf7efce5bb00eeadd54f512a893"), looks := false }, kinds := [], alts := [], laidByText := true, laidKinds := [.data], laidTests := true, laidLooks := .later }
def AllocBackUptoCardSaid : Prop := Claim7.holds Tryd.pinned (.plain (OpenSpec.upto allocBackSpec)) allocBackUptoCard

/-- THE SECOND FORM's CARD OF 'ambrylaw07.AllocFirst'. -/
def allocFirstUptoCard : Claim7 := { stood := { row := allocFirstUptoRow, standIns := [], harness := (true, "6939113255bcfc394330aafe14b2b271246faaf7efce5bb00eeadd54f512a893"), looks := false }, kinds := [], alts := [], laidByText := true, laidKinds := [.data], laidTests := true, laidLooks := .later }
def AllocFirstUptoCardSaid : Prop := Claim7.holds Tryd.pinned (.plain (OpenSpec.upto allocFirstSpec)) allocFirstUptoCard

/-- THE SECOND FORM's CARD OF 'ambrylaw07.AllocNil'. -/
def allocNilUptoCard : Claim7 := { stood := { row := allocNilUptoRow, standIns := [], harness := (true, "6939113255bcfc394330aafe14b2b271246faaf7efce5bb00eeadd54f512a893"), looks := false }, kinds := [], alts := [], laidByText := true, laidKinds := [.data], laidTests := true, laidLooks := .later }
def AllocNilUptoCardSaid : Prop := Claim7.holds Tryd.pinned (.plain (OpenSpec.upto allocNilSpec)) allocNilUptoCard
end Rows
end Go.Proofs.YtjffdekonjejgaaDoor
