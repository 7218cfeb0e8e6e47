/-
  DERIVED. GIVEN WITH THE SEED: THE CARDS: each row of YtgdpaigcmoifbaaGreatDoorRows.lean that lists a variable, with what it lists TIED to the program's text (the seventh form; the later family's looks); each row that meets fmt, with fmt's text TOLD by the authors' own Lean function (tested against real Go, not proved from fmt's source: count such statements apart). THE CARD IS WHAT COUNTS. Prove the row's statement (the work); the ties are given (YtgdpaigcmoifbaaGreatDoorTie.lean); close each card by the builder's one call (the guide's Derived/Test/ToyasCard.lean, 'card_holds'). Laid BY PROGRAM, IN A SANDBOX (cutbox-door.mjs). By AI agents, Wed Nov 11 2026. No macro, syntax, notation, axiom, sorry.
-/
import Derived.Test.YtgdpaigcmoifbaaGreatDoorRows
import GoSem.ClaimSeven
namespace Go.Proofs.YtgdpaigcmoifbaaGreatDoor
namespace Rows

/-- THE TIED CARD OF 'laws.FnExactRest'. -/
def fnExactRestCard : Claim7 := { stood := { row := fnExactRestRow, standIns := [], harness := (true, "f5eded7fd2ffa290f45a4be5e1b364cc40849fa443edd30340ad2fbd73b5c6b6"), looks := true }, kinds := [], alts := [], laidByText := true, laidKinds := [.handle, .sentinel, .sentinel, .sentinel, .sentinel, .sentinel], laidTests := true, laidLooks := .later }
def FnExactRestCardSaid : Prop := Claim7.holds Tryz.pinned (.plain (OpenSpec.ofChange fnExactRestSpec)) fnExactRestCard

/-- THE TIED CARD OF 'laws.FnExactLeave'. -/
def fnExactLeaveCard : Claim7 := { stood := { row := fnExactLeaveRow, standIns := [], harness := (true, "f5eded7fd2ffa290f45a4be5e1b364cc40849fa443edd30340ad2fbd73b5c6b6"), looks := true }, kinds := [], alts := [], laidByText := true, laidKinds := [.handle, .sentinel, .sentinel, .sentinel, .sentinel, .sentinel], laidTests := true, laidLooks := .later }
def FnExactLeaveCardSaid : Prop := Claim7.holds Tryz.pinned (.plain (OpenSpec.ofChange fnExactLeaveSpec)) fnExactLeaveCard

/-- THE TIED CARD OF 'laws.FnExactWake'. -/
def fnExactWakeCard : Claim7 := { stood := { row := fnExactWakeRow, standIns := [], harness := (true, "f5eded7fd2ffa290f45a4be5e1b364cc40849fa443edd30340ad2fbd73b5c6b6"), looks := true }, kinds := [], alts := [], laidByText := true, laidKinds := [.handle, .sentinel, .sentinel, .sentinel, .sentinel, .sentinel], laidTests := true, laidLooks := .later }
def FnExactWakeCardSaid : Prop := Claim7.holds Tryz.pinned (.plain (OpenSpec.ofChange fnExactWakeSpec)) fnExactWakeCard

/-- THE TIED CARD OF 'laws.FnExactCome'. -/
def fnExactComeCard : Claim7 := { stood := { row := fnExactComeRow, standIns := [], harness := (true, "f5eded7fd2ffa290f45a4be5e1b364cc40849fa443edd30340ad2fbd73b5c6b6"), looks := true }, kinds := [], alts := [], laidByText := true, laidKinds := [.handle, .sentinel, .sentinel, .sentinel, .sentinel, .sentinel], laidTests := true, laidLooks := .later }
def FnExactComeCardSaid : Prop := Claim7.holds Tryz.pinned (.plain (OpenSpec.ofChange fnExactComeSpec)) fnExactComeCard

/-- THE SECOND FORM's CARD OF 'laws.FnExactRest'. -/
def fnExactRestUptoCard : Claim7 := { stood := { row := fnExactRestUptoRow, standIns := [], harness := (true, "f5eded7fd2ffa290f45a4be5e1b364cc40849fa443edd30340ad2fbd73b5c6b6"), looks := true }, kinds := [], alts := [], laidByText := true, laidKinds := [.handle, .sentinel, .sentinel, .sentinel, .sentinel, .sentinel], laidTests := true, laidLooks := .later }
def FnExactRestUptoCardSaid : Prop := Claim7.holds Tryz.pinned (.plain (OpenSpec.upto fnExactRestSpec)) fnExactRestUptoCard

/-- THE SECOND FORM's CARD OF 'laws.FnExactLeave'. -/
def fnExactLeaveUptoCard : Claim7 := { stood := { row := fnExactLeaveUptoRow, standIns := [], harness := (true, "f5eded7fd2ffa290f45a4be5e1b364cc40849fa443edd30340ad2fbd73b5c6b6"), looks := true }, kinds := [], alts := [], laidByText := true, laidKinds := [.handle, .sentinel, .sentinel, .sentinel, .sentinel, .sentinel], laidTests := true, laidLooks := .later }
def FnExactLeaveUptoCardSaid : Prop := Claim7.holds Tryz.pinned (.plain (OpenSpec.upto fnExactLeaveSpec)) fnExactLeaveUptoCard

/-- THE SECOND FORM's CARD OF 'laws.FnExactWake'. -/
def fnExactWakeUptoCard : Claim7 := { stood := { row := fnExactWakeUptoRow, standIns := [], harness := (true, "f5eded7fd2ffa290f45a4be5e1b364cc40849fa443edd30340ad2fbd73b5c6b6"), looks := true }, kinds := [], alts := [], laidByText := true, laidKinds := [.handle, .sentinel, .sentinel, .sentinel, .sentinel, .sentinel], laidTests := true, laidLooks := .later }
def FnExactWakeUptoCardSaid : Prop := Claim7.holds Tryz.pinned (.plain (OpenSpec.upto fnExactWakeSpec)) fnExactWakeUptoCard

/-- THE SECOND FORM's CARD OF 'laws.FnExactCome'. -/
def fnExactComeUptoCard : Claim7 := { stood := { row := fnExactComeUptoRow, standIns := [], harness := (true, "f5eded7fd2ffa290f45a4be5e1b364cc40849fa443edd30340ad2fbd73b5c6b6"), looks := true }, kinds := [], alts := [], laidByText := true, laidKinds := [.handle, .sentinel, .sentinel, .sentinel, .sentinel, .sentinel], laidTests := true, laidLooks := .later }
def FnExactComeUptoCardSaid : Prop := Claim7.holds Tryz.pinned (.plain (OpenSpec.upto fnExactComeSpec)) fnExactComeUptoCard
end Rows
end Go.Proofs.YtgdpaigcmoifbaaGreatDoor
