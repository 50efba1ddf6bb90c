/-
  DERIVED. GIVEN WITH THE SEED: THE CARDS: each row of YtigkhpencobalaaDoorRows.lean that lists a variable, with what it lists TIED to the program's text (the seventh form; the later family's looks); each row that meets fmt, with fmt's text TOLD by the authors' own Lean function (tested against real Go, not proved from fmt's source: count such statements apart). THE CARD IS WHAT COUNTS. Prove the row's statement (the work); the ties are given (YtigkhpencobalaaDoorTie.lean); close each card by the builder's one call (the guide's Derived/Test/ToyasCard.lean, 'card_holds'). Laid BY PROGRAM, IN A SANDBOX (cutbox-door.mjs). By AI agents, Wed Nov 11 2026. No macro, syntax, notation, axiom, sorry.
-/
import Derived.Test.YtigkhpencobalaaDoorRows
import GoSem.ClaimSeven
namespace Go.Proofs.YtigkhpencobalaaDoor
namespace Rows

/-- THE TIED CARD OF 'ambrylaw09.PagerPlays'. -/
def pagerPlaysCard : Claim7 := { stood := { row := pagerPlaysRow, standIns := [], harness := (true, "f08a7d2e09ac6531ef5b8b5b5963e2f20beb5e730c147d768c19ab75515a8e09"), looks := false }, kinds := [], alts := [], laidByText := true, laidKinds := [.data], laidTests := true, laidLooks := .later }
def PagerPlaysCardSaid : Prop := Claim7.holds Tryd.pinned (.plain (OpenSpec.ofChange pagerPlaysSpec)) pagerPlaysCard

/-- THE TIED CARD OF 'ambrylaw09.PagerStays'. -/
def pagerStaysCard : Claim7 := { stood := { row := pagerStaysRow, standIns := [], harness := (true, "f08a7d2e09ac6531ef5b8b5b5963e2f20beb5e730c147d768c19ab75515a8e09"), looks := false }, kinds := [], alts := [], laidByText := true, laidKinds := [.data], laidTests := true, laidLooks := .later }
def PagerStaysCardSaid : Prop := Claim7.holds Tryd.pinned (.plain (OpenSpec.ofChange pagerStaysSpec)) pagerStaysCard

/-- THE TIED CARD OF 'ambrylaw09.PagerUndone'. -/
def pagerUndoneCard : Claim7 := { stood := { row := pagerUndoneRow, standIns := [], harness := (true, "f08a7d2e09ac6531ef5b8b5b5963e2f20beb5e730c147d768c19ab75515a8e09"), looks := false }, kinds := [], alts := [], laidByText := true, laidKinds := [.data], laidTests := true, laidLooks := .later }
def PagerUndoneCardSaid : Prop := Claim7.holds Tryd.pinned (.plain (OpenSpec.ofChange pagerUndoneSpec)) pagerUndoneCard

/-- THE TIED CARD OF 'ambrylaw09.PagerCounts'. -/
def pagerCountsCard : Claim7 := { stood := { row := pagerCountsRow, standIns := [], harness := (true, "f08a7d2e09ac6531ef5b8b5b5963e2f20beb5e730c147d768c19ab75515a8e09"), looks := false }, kinds := [], alts := [], laidByText := true, laidKinds := [.data], laidTests := true, laidLooks := .later }
def PagerCountsCardSaid : Prop := Claim7.holds Tryd.pinned (.plain (OpenSpec.ofChange pagerCountsSpec)) pagerCountsCard

/-- THE TIED CARD OF 'ambrylaw09.PagerNil'. -/
def pagerNilCard : Claim7 := { stood := { row := pagerNilRow, standIns := [], harness := (true, "f08a7d2e09ac6531ef5b8b5b5963e2f20beb5e730c147d768c19ab75515a8e09"), looks := false }, kinds := [], alts := [], laidByText := true, laidKinds := [.data], laidTests := true, laidLooks := .later }
def PagerNilCardSaid : Prop := Claim7.holds Tryd.pinned (.plain (OpenSpec.ofChange pagerNilSpec)) pagerNilCard

/-- THE SECOND FORM's CARD OF 'ambrylaw09.PagerPlays'. -/
def pagerPlaysUptoCard : Claim7 := { stood := { row := pagerPlaysUptoRow, standIns := [], harness := (true, "f08a7d2e09ac6531ef5b8b5b5963e2f20beb5e730c147d768c19ab75515a8e09"), looks := false }, kinds := [], alts := [], laidByText := true, laidKinds := [.data], laidTests := true, laidLooks := .later }
def PagerPlaysUptoCardSaid : Prop := Claim7.holds Tryd.pinned (.plain (OpenSpec.upto pagerPlaysSpec)) pagerPlaysUptoCard

/-- THE SECOND FORM's CARD OF 'ambrylaw09.PagerStays'. -/
def pagerStaysUptoCard : Claim7 := { stood := { row := pagerStaysUptoRow, standIns := [], harness := (true, "f08a7d2e09ac6531ef5b8b5b5963e2f20beb5e730c147d768c19ab75515a8e09"), looks := false }, kinds := [], alts := [], laidByText := true, laidKinds := [.data], laidTests := true, laidLooks := .later }
def PagerStaysUptoCardSaid : Prop := Claim7.holds Tryd.pinned (.plain (OpenSpec.upto pagerStaysSpec)) pagerStaysUptoCard

/-- THE SECOND FORM's CARD OF 'ambrylaw09.PagerUndone'. -/
def pagerUndoneUptoCard : Claim7 := { stood := { row := pagerUndoneUptoRow, standIns := [], harness := (true, "f08a7d2e09ac6531ef5b8b5b5963e2f20beb5e730c147d768c19ab75515a8e09"), looks := false }, kinds := [], alts := [], laidByText := true, laidKinds := [.data], laidTests := true, laidLooks := .later }
def PagerUndoneUptoCardSaid : Prop := Claim7.holds Tryd.pinned (.plain (OpenSpec.upto pagerUndoneSpec)) pagerUndoneUptoCard

/-- THE SECOND FORM's CARD OF 'ambrylaw09.PagerCounts'. -/
def pagerCountsUptoCard : Claim7 := { stood := { row := pagerCountsUptoRow, standIns := [], harness := (true, "f08a7d2e09ac6531ef5b8b5b5963e2f20beb5e730c147d768c19ab75515a8e09"), looks := false }, kinds := [], alts := [], laidByText := true, laidKinds := [.data], laidTests := true, laidLooks := .later }
def PagerCountsUptoCardSaid : Prop := Claim7.holds Tryd.pinned (.plain (OpenSpec.upto pagerCountsSpec)) pagerCountsUptoCard

/-- THE SECOND FORM's CARD OF 'ambrylaw09.PagerNil'. -/
def pagerNilUptoCard : Claim7 := { stood := { row := pagerNilUptoRow, standIns := [], harness := (true, "f08a7d2e09ac6531ef5b8b5b5963e2f20beb5e730c147d768c19ab75515a8e09"), looks := false }, kinds := [], alts := [], laidByText := true, laidKinds := [.data], laidTests := true, laidLooks := .later }
def PagerNilUptoCardSaid : Prop := Claim7.holds Tryd.pinned (.plain (OpenSpec.upto pagerNilSpec)) pagerNilUptoCard
end Rows
end Go.Proofs.YtigkhpencobalaaDoor
