/-
  DERIVED. GIVEN WITH THE SEED: THE CARDS: each row of YtapnekpilgbcaaaDoorRows.lean that lists a variable, with what it lists TIED to the program's text (the seventh form; the later family's looks); each row that meets fmt, with fmt's text TOLD by the authors' own Lean function (tested against real Go, not proved from fmt's source: count such statements apart). THE CARD IS WHAT COUNTS. Prove the row's statement (the work); the ties are given (YtapnekpilgbcaaaDoorTie.lean); close each card by the builder's one call (the guide's Derived/Test/ToyasCard.lean, 'card_holds'). Laid BY PROGRAM, IN A SANDBOX (cutbox-door.mjs). By AI agents, Wed Nov 11 2026. No macro, syntax, notation, axiom, sorry.
-/
import Derived.Test.YtapnekpilgbcaaaDoorRows
import GoSem.ClaimSeven
namespace Go.Proofs.YtapnekpilgbcaaaDoor
namespace Rows

/-- THE TIED CARD OF 'heliographlaw3.UnitTrails'. -/
def unitTrailsCard : Claim7 := { stood := { row := unitTrailsRow, standIns := [], harness := (true, "cc76aad4b0edaeb31128e155c8b09cbd5b941ec6d9e2824eaaaf563d94989c21"), looks := false }, kinds := [], alts := [], laidByText := true, laidKinds := [.data, .pinned], laidTests := true, laidLooks := .later }
def UnitTrailsCardSaid : Prop := Claim7.holds Tryd.pinned (.plain (OpenSpec.ofChange unitTrailsSpec)) unitTrailsCard

/-- THE TIED CARD OF 'heliographlaw3.UnitTells'. -/
def unitTellsCard : Claim7 := { stood := { row := unitTellsRow, standIns := [], harness := (true, "cc76aad4b0edaeb31128e155c8b09cbd5b941ec6d9e2824eaaaf563d94989c21"), looks := false }, kinds := [], alts := [], laidByText := true, laidKinds := [.data, .pinned], laidTests := true, laidLooks := .later }
def UnitTellsCardSaid : Prop := Claim7.holds Tryd.pinned (.plain (OpenSpec.ofChange unitTellsSpec)) unitTellsCard

/-- THE TIED CARD OF 'heliographlaw3.UnitBack'. -/
def unitBackCard : Claim7 := { stood := { row := unitBackRow, standIns := [], harness := (true, "cc76aad4b0edaeb31128e155c8b09cbd5b941ec6d9e2824eaaaf563d94989c21"), looks := false }, kinds := [], alts := [], laidByText := true, laidKinds := [.data, .pinned], laidTests := true, laidLooks := .later }
def UnitBackCardSaid : Prop := Claim7.holds Tryd.pinned (.plain (OpenSpec.ofChange unitBackSpec)) unitBackCard

/-- THE TIED CARD OF 'heliographlaw3.UnitMeets'. -/
def unitMeetsCard : Claim7 := { stood := { row := unitMeetsRow, standIns := [], harness := (true, "cc76aad4b0edaeb31128e155c8b09cbd5b941ec6d9e2824eaaaf563d94989c21"), looks := false }, kinds := [], alts := [], laidByText := true, laidKinds := [.data, .pinned], laidTests := true, laidLooks := .later }
def UnitMeetsCardSaid : Prop := Claim7.holds Tryd.pinned (.plain (OpenSpec.ofChange unitMeetsSpec)) unitMeetsCard

/-- THE SECOND FORM's CARD OF 'heliographlaw3.UnitTrails'. -/
def unitTrailsUptoCard : Claim7 := { stood := { row := unitTrailsUptoRow, standIns := [], harness := (true, "cc76aad4b0edaeb31128e155c8b09cbd5b941ec6d9e2824eaaaf563d94989c21"), looks := false }, kinds := [], alts := [], laidByText := true, laidKinds := [.data, .pinned], laidTests := true, laidLooks := .later }
def UnitTrailsUptoCardSaid : Prop := Claim7.holds Tryd.pinned (.plain (OpenSpec.upto unitTrailsSpec)) unitTrailsUptoCard

/-- THE SECOND FORM's CARD OF 'heliographlaw3.UnitTells'. -/
def unitTellsUptoCard : Claim7 := { stood := { row := unitTellsUptoRow, standIns := [], harness := (true, "cc76aad4b0edaeb31128e155c8b09cbd5b941ec6d9e2824eaaaf563d94989c21"), looks := false }, kinds := [], alts := [], laidByText := true, laidKinds := [.data, .pinned], laidTests := true, laidLooks := .later }
def UnitTellsUptoCardSaid : Prop := Claim7.holds Tryd.pinned (.plain (OpenSpec.upto unitTellsSpec)) unitTellsUptoCard

/-- THE SECOND FORM's CARD OF 'heliographlaw3.UnitBack'. -/
def unitBackUptoCard : Claim7 := { stood := { row := unitBackUptoRow, standIns := [], harness := (true, "cc76aad4b0edaeb31128e155c8b09cbd5b941ec6d9e2824eaaaf563d94989c21"), looks := false }, kinds := [], alts := [], laidByText := true, laidKinds := [.data, .pinned], laidTests := true, laidLooks := .later }
def UnitBackUptoCardSaid : Prop := Claim7.holds Tryd.pinned (.plain (OpenSpec.upto unitBackSpec)) unitBackUptoCard

/-- THE SECOND FORM's CARD OF 'heliographlaw3.UnitMeets'. -/
def unitMeetsUptoCard : Claim7 := { stood := { row := unitMeetsUptoRow, standIns := [], harness := (true, "cc76aad4b0edaeb31128e155c8b09cbd5b941ec6d9e2824eaaaf563d94989c21"), looks := false }, kinds := [], alts := [], laidByText := true, laidKinds := [.data, .pinned], laidTests := true, laidLooks := .later }
def UnitMeetsUptoCardSaid : Prop := Claim7.holds Tryd.pinned (.plain (OpenSpec.upto unitMeetsSpec)) unitMeetsUptoCard
end Rows
end Go.Proofs.YtapnekpilgbcaaaDoor
