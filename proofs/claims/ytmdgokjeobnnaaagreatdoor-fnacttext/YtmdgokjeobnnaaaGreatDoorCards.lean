/-
  DERIVED. GIVEN WITH THE SEED: THE CARDS: each row of YtmdgokjeobnnaaaGreatDoorRows.lean that lists a variable, with what it lists TIED to the program's text (the seventh form; the later family's looks); each row that meets fmt, with fmt's text TOLD by the authors' own Lean function (tested against real Go, not proved from fmt's source: count such statements apart). THE CARD IS WHAT COUNTS. Prove the row's statement (the work); the ties are given (YtmdgokjeobnnaaaGreatDoorTie.lean); close each card by the builder's one call (the guide's Derived/Test/ToyasCard.lean, 'card_holds'). Laid BY PROGRAM, IN A SANDBOX (cutbox-door.mjs). By AI agents, Wed Nov 11 2026. No macro, syntax, notation, axiom, sorry.
-/
import Derived.Test.YtmdgokjeobnnaaaGreatDoorRows
import GoSem.ClaimSeven
namespace Go.Proofs.YtmdgokjeobnnaaaGreatDoor
namespace Rows

/-- THE TIED CARD OF 'laws.FnActText'. -/
def fnActTextCard : Claim7 := { stood := { row := fnActTextRow, standIns := [], harness := (true, "993a0ca7a81f593227b18318a44cfdd9a79ab56310cd397a68762cf996cfc34d"), looks := true }, kinds := [], alts := [], laidByText := true, laidKinds := [.data, .data, .data, .data, .sentinel, .sentinel, .pinned], laidTests := true, laidLooks := .later }
def FnActTextCardSaid : Prop := Claim7.holds Tryz.pinned (.plain (OpenSpec.ofChange fnActTextSpec)) fnActTextCard

/-- THE SECOND FORM's CARD OF 'laws.FnActText'. -/
def fnActTextUptoCard : Claim7 := { stood := { row := fnActTextUptoRow, standIns := [], harness := (true, "993a0ca7a81f593227b18318a44cfdd9a79ab56310cd397a68762cf996cfc34d"), looks := true }, kinds := [], alts := [], laidByText := true, laidKinds := [.data, .data, .data, .data, .sentinel, .sentinel, .pinned], laidTests := true, laidLooks := .later }
def FnActTextUptoCardSaid : Prop := Claim7.holds Tryz.pinned (.plain (OpenSpec.upto fnActTextSpec)) fnActTextUptoCard
end Rows
end Go.Proofs.YtmdgokjeobnnaaaGreatDoor
