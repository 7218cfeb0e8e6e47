/-
  DERIVED. GIVEN WITH THE SEED: THE CARDS: each row of YtnofnjddbflpmaaDoorRows.lean that lists a variable, with what it lists TIED to the program's text (the seventh form; the later family's looks); each row that meets fmt, with fmt's text TOLD by the authors' own Lean function (tested against real Go, not proved from fmt's source: count such statements apart). THE CARD IS WHAT COUNTS. Prove the row's statement (the work); the ties are given (YtnofnjddbflpmaaDoorTie.lean); close each card by the builder's one call (the guide's Derived/Test/ToyasCard.lean, 'card_holds'). Laid BY PROGRAM, IN A SANDBOX (cutbox-door.mjs). By AI agents, Wed Nov 11 2026. No macro, syntax, notation, axiom, sorry.
-/
import Derived.Test.YtnofnjddbflpmaaDoorRows
import GoSem.ClaimSeven
namespace Go.Proofs.YtnofnjddbflpmaaDoor
namespace Rows

/-- THE TIED CARD OF 'laws.FnHallText'. -/
def fnHallTextCard : Claim7 := { stood := { row := fnHallTextRow, standIns := [], harness := (true, "8388a39eb51f620e15567c11491943f1f4900237fc3d8486759abdddf600879b"), looks := true }, kinds := [], alts := [], laidByText := true, laidKinds := [.data, .data, .data, .data, .sentinel, .sentinel, .pinned], laidTests := true, laidLooks := .later }
def FnHallTextCardSaid : Prop := Claim7.holds Tryd.pinned (.plain (OpenSpec.ofChange fnHallTextSpec)) fnHallTextCard

/-- THE TIED CARD OF 'laws.FnExactReadHall'. -/
def fnExactReadHallCard : Claim7 := { stood := { row := fnExactReadHallRow, standIns := [], harness := (true, "8388a39eb51f620e15567c11491943f1f4900237fc3d8486759abdddf600879b"), looks := true }, kinds := [], alts := [], laidByText := true, laidKinds := [.data, .data, .data, .data, .sentinel, .sentinel, .pinned], laidTests := true, laidLooks := .later }
def FnExactReadHallCardSaid : Prop := Claim7.holds Tryd.pinned (.plain (OpenSpec.ofChange fnExactReadHallSpec)) fnExactReadHallCard

/-- THE TIED CARD OF 'laws.FnExactShowHall'. -/
def fnExactShowHallCard : Claim7 := { stood := { row := fnExactShowHallRow, standIns := [], harness := (true, "8388a39eb51f620e15567c11491943f1f4900237fc3d8486759abdddf600879b"), looks := true }, kinds := [], alts := [], laidByText := true, laidKinds := [.data, .data, .data], laidTests := true, laidLooks := .later }
def FnExactShowHallCardSaid : Prop := Claim7.holds Tryd.pinned (.plain (OpenSpec.ofChange fnExactShowHallSpec)) fnExactShowHallCard

/-- THE SECOND FORM's CARD OF 'laws.FnHallText'. -/
def fnHallTextUptoCard : Claim7 := { stood := { row := fnHallTextUptoRow, standIns := [], harness := (true, "8388a39eb51f620e15567c11491943f1f4900237fc3d8486759abdddf600879b"), looks := true }, kinds := [], alts := [], laidByText := true, laidKinds := [.data, .data, .data, .data, .sentinel, .sentinel, .pinned], laidTests := true, laidLooks := .later }
def FnHallTextUptoCardSaid : Prop := Claim7.holds Tryd.pinned (.plain (OpenSpec.upto fnHallTextSpec)) fnHallTextUptoCard

/-- THE SECOND FORM's CARD OF 'laws.FnExactReadHall'. -/
def fnExactReadHallUptoCard : Claim7 := { stood := { row := fnExactReadHallUptoRow, standIns := [], harness := (true, "8388a39eb51f620e15567c11491943f1f4900237fc3d8486759abdddf600879b"), looks := true }, kinds := [], alts := [], laidByText := true, laidKinds := [.data, .data, .data, .data, .sentinel, .sentinel, .pinned], laidTests := true, laidLooks := .later }
def FnExactReadHallUptoCardSaid : Prop := Claim7.holds Tryd.pinned (.plain (OpenSpec.upto fnExactReadHallSpec)) fnExactReadHallUptoCard

/-- THE SECOND FORM's CARD OF 'laws.FnExactShowHall'. -/
def fnExactShowHallUptoCard : Claim7 := { stood := { row := fnExactShowHallUptoRow, standIns := [], harness := (true, "8388a39eb51f620e15567c11491943f1f4900237fc3d8486759abdddf600879b"), looks := true }, kinds := [], alts := [], laidByText := true, laidKinds := [.data, .data, .data], laidTests := true, laidLooks := .later }
def FnExactShowHallUptoCardSaid : Prop := Claim7.holds Tryd.pinned (.plain (OpenSpec.upto fnExactShowHallSpec)) fnExactShowHallUptoCard
end Rows
end Go.Proofs.YtnofnjddbflpmaaDoor
