/-
  DERIVED. GIVEN WITH THE SEED: THE CARDS: each row of YtinnpbabkbppmaaDoorRows.lean that lists a variable, with what it lists TIED to the program's text (the seventh form; the later family's looks); each row that meets fmt, with fmt's text TOLD by the authors' own Lean function (tested against real Go, not proved from fmt's source: count such statements apart). THE CARD IS WHAT COUNTS. Prove the row's statement (the work); the ties are given (YtinnpbabkbppmaaDoorTie.lean); close each card by the builder's one call (the guide's Derived/Test/ToyasCard.lean, 'card_holds'). Laid BY PROGRAM, IN A SANDBOX (cutbox-door.mjs). By AI agents, Wed Nov 11 2026. No macro, syntax, notation, axiom, sorry.
-/
import Derived.Test.YtinnpbabkbppmaaDoorRows
import GoSem.ClaimSeven
namespace Go.Proofs.YtinnpbabkbppmaaDoor
namespace Rows

/-- THE TIED CARD OF 'ambrylaw09.PagerPlays'. -/
def pagerPlaysCard : Claim7 := { stood := { row := pagerPlaysRow, standIns := [], harness := (true, "496f4b2226de4957c1c57a576faa786a2517419b97cbdf5945d07066a60c40c8"), looks := false }, kinds := [], alts := [], laidByText := true, laidKinds := [.data], laidTests := true, laidLooks := .later }
def PagerPlaysCardSaid : Prop := Claim7.holds Tryd.pinned (.plain (OpenSpec.ofChange pagerPlaysSpec)) pagerPlaysCard

/-- THE TIED CARD OF 'ambrylaw09.PagerCounts'. -/
def pagerCountsCard : Claim7 := { stood := { row := pagerCountsRow, standIns := [], harness := (true, "496f4b2226de4957c1c57a576faa786a2517419b97cbdf5945d07066a60c40c8"), looks := false }, kinds := [], alts := [], laidByText := true, laidKinds := [.data], laidTests := true, laidLooks := .later }
def PagerCountsCardSaid : Prop := Claim7.holds Tryd.pinned (.plain (OpenSpec.ofChange pagerCountsSpec)) pagerCountsCard

/-- THE SECOND FORM's CARD OF 'ambrylaw09.PagerPlays'. -/
def pagerPlaysUptoCard : Claim7 := { stood := { row := pagerPlaysUptoRow, standIns := [], harness := (true, "496f4b2226de4957c1c57a576faa786a2517419b97cbdf5945d07066a60c40c8"), looks := false }, kinds := [], alts := [], laidByText := true, laidKinds := [.data], laidTests := true, laidLooks := .later }
def PagerPlaysUptoCardSaid : Prop := Claim7.holds Tryd.pinned (.plain (OpenSpec.upto pagerPlaysSpec)) pagerPlaysUptoCard

/-- THE SECOND FORM's CARD OF 'ambrylaw09.PagerCounts'. -/
def pagerCountsUptoCard : Claim7 := { stood := { row := pagerCountsUptoRow, standIns := [], harness := (true, "496f4b2226de4957c1c57a576faa786a2517419b97cbdf5945d07066a60c40c8"), looks := false }, kinds := [], alts := [], laidByText := true, laidKinds := [.data], laidTests := true, laidLooks := .later }
def PagerCountsUptoCardSaid : Prop := Claim7.holds Tryd.pinned (.plain (OpenSpec.upto pagerCountsSpec)) pagerCountsUptoCard
end Rows
end Go.Proofs.YtinnpbabkbppmaaDoor
