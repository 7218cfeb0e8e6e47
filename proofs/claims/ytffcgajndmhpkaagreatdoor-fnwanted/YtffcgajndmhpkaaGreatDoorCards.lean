/-
  DERIVED. GIVEN WITH THE SEED: THE CARDS: each row of YtffcgajndmhpkaaGreatDoorRows.lean that lists a variable, with what it lists TIED to the program's text (the seventh form; the later family's looks); each row that meets fmt, with fmt's text TOLD by the authors' own Lean function (tested against real Go, not proved from fmt's source: count such statements apart). THE CARD IS WHAT COUNTS. Prove the row's statement (the work); the ties are given (YtffcgajndmhpkaaGreatDoorTie.lean); close each card by the builder's one call (the guide's Derived/Test/ToyasCard.lean, 'card_holds'). Laid BY PROGRAM, IN A SANDBOX (cutbox-door.mjs). By AI agents, Wed Nov 11 2026. No macro, syntax, notation, axiom, sorry.
-/
import Derived.Test.YtffcgajndmhpkaaGreatDoorRows
import GoSem.ClaimSeven
namespace Go.Proofs.YtffcgajndmhpkaaGreatDoor
namespace Rows

/-- THE TIED CARD OF 'laws.FnTicked'. -/
def fnTickedCard : Claim7 := { stood := { row := fnTickedRow, standIns := [], harness := (true, "626d3be9a7070331a205b817a13979c1371d85ec4c86334440f83fb2a7432c2f"), looks := true }, kinds := [], alts := [], laidByText := true, laidKinds := [.handle, .sentinel, .sentinel, .sentinel, .sentinel, .sentinel], laidTests := true, laidLooks := .later }
def FnTickedCardSaid : Prop := Claim7.holds Tryz.pinned (.plain (OpenSpec.ofChange fnTickedSpec)) fnTickedCard

/-- THE TIED CARD OF 'laws.FnWanted'. -/
def fnWantedCard : Claim7 := { stood := { row := fnWantedRow, standIns := [], harness := (true, "626d3be9a7070331a205b817a13979c1371d85ec4c86334440f83fb2a7432c2f"), looks := true }, kinds := [], alts := [], laidByText := true, laidKinds := [.handle, .sentinel, .sentinel, .sentinel, .sentinel, .sentinel], laidTests := true, laidLooks := .later }
def FnWantedCardSaid : Prop := Claim7.holds Tryz.pinned (.plain (OpenSpec.ofChange fnWantedSpec)) fnWantedCard

/-- THE TIED CARD OF 'laws.FnExactTicked'. -/
def fnExactTickedCard : Claim7 := { stood := { row := fnExactTickedRow, standIns := [], harness := (true, "626d3be9a7070331a205b817a13979c1371d85ec4c86334440f83fb2a7432c2f"), looks := true }, kinds := [], alts := [], laidByText := true, laidKinds := [.handle, .sentinel, .sentinel, .sentinel, .sentinel, .sentinel], laidTests := true, laidLooks := .later }
def FnExactTickedCardSaid : Prop := Claim7.holds Tryz.pinned (.plain (OpenSpec.ofChange fnExactTickedSpec)) fnExactTickedCard

/-- THE TIED CARD OF 'laws.FnExactGranted'. -/
def fnExactGrantedCard : Claim7 := { stood := { row := fnExactGrantedRow, standIns := [], harness := (true, "626d3be9a7070331a205b817a13979c1371d85ec4c86334440f83fb2a7432c2f"), looks := true }, kinds := [], alts := [], laidByText := true, laidKinds := [.handle, .sentinel, .sentinel, .sentinel, .sentinel, .sentinel], laidTests := true, laidLooks := .later }
def FnExactGrantedCardSaid : Prop := Claim7.holds Tryz.pinned (.plain (OpenSpec.ofChange fnExactGrantedSpec)) fnExactGrantedCard

/-- THE SECOND FORM's CARD OF 'laws.FnTicked'. -/
def fnTickedUptoCard : Claim7 := { stood := { row := fnTickedUptoRow, standIns := [], harness := (true, "626d3be9a7070331a205b817a13979c1371d85ec4c86334440f83fb2a7432c2f"), looks := true }, kinds := [], alts := [], laidByText := true, laidKinds := [.handle, .sentinel, .sentinel, .sentinel, .sentinel, .sentinel], laidTests := true, laidLooks := .later }
def FnTickedUptoCardSaid : Prop := Claim7.holds Tryz.pinned (.plain (OpenSpec.upto fnTickedSpec)) fnTickedUptoCard

/-- THE SECOND FORM's CARD OF 'laws.FnWanted'. -/
def fnWantedUptoCard : Claim7 := { stood := { row := fnWantedUptoRow, standIns := [], harness := (true, "626d3be9a7070331a205b817a13979c1371d85ec4c86334440f83fb2a7432c2f"), looks := true }, kinds := [], alts := [], laidByText := true, laidKinds := [.handle, .sentinel, .sentinel, .sentinel, .sentinel, .sentinel], laidTests := true, laidLooks := .later }
def FnWantedUptoCardSaid : Prop := Claim7.holds Tryz.pinned (.plain (OpenSpec.upto fnWantedSpec)) fnWantedUptoCard

/-- THE SECOND FORM's CARD OF 'laws.FnExactTicked'. -/
def fnExactTickedUptoCard : Claim7 := { stood := { row := fnExactTickedUptoRow, standIns := [], harness := (true, "626d3be9a7070331a205b817a13979c1371d85ec4c86334440f83fb2a7432c2f"), looks := true }, kinds := [], alts := [], laidByText := true, laidKinds := [.handle, .sentinel, .sentinel, .sentinel, .sentinel, .sentinel], laidTests := true, laidLooks := .later }
def FnExactTickedUptoCardSaid : Prop := Claim7.holds Tryz.pinned (.plain (OpenSpec.upto fnExactTickedSpec)) fnExactTickedUptoCard

/-- THE SECOND FORM's CARD OF 'laws.FnExactGranted'. -/
def fnExactGrantedUptoCard : Claim7 := { stood := { row := fnExactGrantedUptoRow, standIns := [], harness := (true, "626d3be9a7070331a205b817a13979c1371d85ec4c86334440f83fb2a7432c2f"), looks := true }, kinds := [], alts := [], laidByText := true, laidKinds := [.handle, .sentinel, .sentinel, .sentinel, .sentinel, .sentinel], laidTests := true, laidLooks := .later }
def FnExactGrantedUptoCardSaid : Prop := Claim7.holds Tryz.pinned (.plain (OpenSpec.upto fnExactGrantedSpec)) fnExactGrantedUptoCard
end Rows
end Go.Proofs.YtffcgajndmhpkaaGreatDoor
