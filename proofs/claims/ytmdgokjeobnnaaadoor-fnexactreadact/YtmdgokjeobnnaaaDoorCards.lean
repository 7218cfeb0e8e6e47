/-
  DERIVED. GIVEN WITH THE SEED: THE CARDS: each row of YtmdgokjeobnnaaaDoorRows.lean that lists a variable, with what it lists TIED to the program's text (the seventh form; the later family's looks); each row that meets fmt, with fmt's text TOLD by the authors' own Lean function (tested against real Go, not proved from fmt's source: count such statements apart). THE CARD IS WHAT COUNTS. Prove the row's statement (the work); the ties are given (YtmdgokjeobnnaaaDoorTie.lean); close each card by the builder's one call (the guide's Derived/Test/ToyasCard.lean, 'card_holds'). Laid BY PROGRAM, IN A SANDBOX (cutbox-door.mjs). By AI agents, Wed Nov 11 2026. No macro, syntax, notation, axiom, sorry.
-/
import Derived.Test.YtmdgokjeobnnaaaDoorRows
import GoSem.ClaimSeven
namespace Go.Proofs.YtmdgokjeobnnaaaDoor
namespace Rows

/-- THE TIED CARD OF 'laws.FnExactShowAct'. -/
def fnExactShowActCard : Claim7 := { stood := { row := fnExactShowActRow, standIns := [], harness := (true, "db8c6ffacbcffd633daefad7031237f9f0b770bc5f3e2f04d98d34fdbf3ed2f4"), looks := true }, kinds := [], alts := [], laidByText := true, laidKinds := [.data, .data, .data], laidTests := true, laidLooks := .later }
def FnExactShowActCardSaid : Prop := Claim7.holds Tryd.pinned (.plain (OpenSpec.ofChange fnExactShowActSpec)) fnExactShowActCard

/-- THE TIED CARD OF 'laws.FnExactReadAct'. -/
def fnExactReadActCard : Claim7 := { stood := { row := fnExactReadActRow, standIns := [], harness := (true, "db8c6ffacbcffd633daefad7031237f9f0b770bc5f3e2f04d98d34fdbf3ed2f4"), looks := true }, kinds := [], alts := [], laidByText := true, laidKinds := [.data, .data, .data, .data, .sentinel, .sentinel, .pinned], laidTests := true, laidLooks := .later }
def FnExactReadActCardSaid : Prop := Claim7.holds Tryd.pinned (.plain (OpenSpec.ofChange fnExactReadActSpec)) fnExactReadActCard

/-- THE SECOND FORM's CARD OF 'laws.FnExactShowAct'. -/
def fnExactShowActUptoCard : Claim7 := { stood := { row := fnExactShowActUptoRow, standIns := [], harness := (true, "db8c6ffacbcffd633daefad7031237f9f0b770bc5f3e2f04d98d34fdbf3ed2f4"), looks := true }, kinds := [], alts := [], laidByText := true, laidKinds := [.data, .data, .data], laidTests := true, laidLooks := .later }
def FnExactShowActUptoCardSaid : Prop := Claim7.holds Tryd.pinned (.plain (OpenSpec.upto fnExactShowActSpec)) fnExactShowActUptoCard

/-- THE SECOND FORM's CARD OF 'laws.FnExactReadAct'. -/
def fnExactReadActUptoCard : Claim7 := { stood := { row := fnExactReadActUptoRow, standIns := [], harness := (true, "db8c6ffacbcffd633daefad7031237f9f0b770bc5f3e2f04d98d34fdbf3ed2f4"), looks := true }, kinds := [], alts := [], laidByText := true, laidKinds := [.data, .data, .data, .data, .sentinel, .sentinel, .pinned], laidTests := true, laidLooks := .later }
def FnExactReadActUptoCardSaid : Prop := Claim7.holds Tryd.pinned (.plain (OpenSpec.upto fnExactReadActSpec)) fnExactReadActUptoCard
end Rows
end Go.Proofs.YtmdgokjeobnnaaaDoor
