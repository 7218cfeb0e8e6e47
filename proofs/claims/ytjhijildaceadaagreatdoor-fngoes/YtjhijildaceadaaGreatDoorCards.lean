/-
  DERIVED. GIVEN WITH THE SEED: THE CARDS: each row of YtjhijildaceadaaGreatDoorRows.lean that lists a variable, with what it lists TIED to the program's text (the seventh form; the later family's looks); each row that meets fmt, with fmt's text TOLD by the authors' own Lean function (tested against real Go, not proved from fmt's source: count such statements apart). THE CARD IS WHAT COUNTS. Prove the row's statement (the work); the ties are given (YtjhijildaceadaaGreatDoorTie.lean); close each card by the builder's one call (the guide's Derived/Test/ToyasCard.lean, 'card_holds'). Laid BY PROGRAM, IN A SANDBOX (cutbox-door.mjs). By AI agents, Wed Nov 11 2026. No macro, syntax, notation, axiom, sorry.
-/
import Derived.Test.YtjhijildaceadaaGreatDoorRows
import GoSem.ClaimSeven
namespace Go.Proofs.YtjhijildaceadaaGreatDoor
namespace Rows

/-- THE TIED CARD OF 'laws.FnChanged'. -/
def fnChangedCard : Claim7 := { stood := { row := fnChangedRow, standIns := [], harness := (true, "6c59155b349db4fd0d9fe46676c8be769105e54703f96798ca42980aeccc2aff"), looks := true }, kinds := [], alts := [], laidByText := true, laidKinds := [.handle, .sentinel, .sentinel, .sentinel, .sentinel, .sentinel], laidTests := true, laidLooks := .later }
def FnChangedCardSaid : Prop := Claim7.holds Tryz.pinned (.plain (OpenSpec.ofChange fnChangedSpec)) fnChangedCard

/-- THE TIED CARD OF 'laws.FnClosed'. -/
def fnClosedCard : Claim7 := { stood := { row := fnClosedRow, standIns := [], harness := (true, "6c59155b349db4fd0d9fe46676c8be769105e54703f96798ca42980aeccc2aff"), looks := true }, kinds := [], alts := [], laidByText := true, laidKinds := [.handle, .sentinel, .sentinel, .sentinel, .sentinel, .sentinel], laidTests := true, laidLooks := .later }
def FnClosedCardSaid : Prop := Claim7.holds Tryz.pinned (.plain (OpenSpec.ofChange fnClosedSpec)) fnClosedCard

/-- THE TIED CARD OF 'laws.FnCome'. -/
def fnComeCard : Claim7 := { stood := { row := fnComeRow, standIns := [], harness := (true, "6c59155b349db4fd0d9fe46676c8be769105e54703f96798ca42980aeccc2aff"), looks := true }, kinds := [], alts := [], laidByText := true, laidKinds := [.handle, .sentinel, .sentinel, .sentinel, .sentinel, .sentinel], laidTests := true, laidLooks := .later }
def FnComeCardSaid : Prop := Claim7.holds Tryz.pinned (.plain (OpenSpec.ofChange fnComeSpec)) fnComeCard

/-- THE TIED CARD OF 'laws.FnWake'. -/
def fnWakeCard : Claim7 := { stood := { row := fnWakeRow, standIns := [], harness := (true, "6c59155b349db4fd0d9fe46676c8be769105e54703f96798ca42980aeccc2aff"), looks := true }, kinds := [], alts := [], laidByText := true, laidKinds := [.handle, .sentinel, .sentinel, .sentinel, .sentinel, .sentinel], laidTests := true, laidLooks := .later }
def FnWakeCardSaid : Prop := Claim7.holds Tryz.pinned (.plain (OpenSpec.ofChange fnWakeSpec)) fnWakeCard

/-- THE TIED CARD OF 'laws.FnGoes'. -/
def fnGoesCard : Claim7 := { stood := { row := fnGoesRow, standIns := [], harness := (true, "6c59155b349db4fd0d9fe46676c8be769105e54703f96798ca42980aeccc2aff"), looks := true }, kinds := [], alts := [], laidByText := true, laidKinds := [.handle, .sentinel, .sentinel, .sentinel, .sentinel, .sentinel], laidTests := true, laidLooks := .later }
def FnGoesCardSaid : Prop := Claim7.holds Tryz.pinned (.plain (OpenSpec.ofChange fnGoesSpec)) fnGoesCard

/-- THE TIED CARD OF 'laws.FnExactRanked'. -/
def fnExactRankedCard : Claim7 := { stood := { row := fnExactRankedRow, standIns := [], harness := (true, "6c59155b349db4fd0d9fe46676c8be769105e54703f96798ca42980aeccc2aff"), looks := true }, kinds := [], alts := [], laidByText := true, laidKinds := [.handle, .sentinel, .sentinel, .sentinel, .sentinel, .sentinel], laidTests := true, laidLooks := .later }
def FnExactRankedCardSaid : Prop := Claim7.holds Tryz.pinned (.plain (OpenSpec.ofChange fnExactRankedSpec)) fnExactRankedCard

/-- THE TIED CARD OF 'laws.FnExactAllowed'. -/
def fnExactAllowedCard : Claim7 := { stood := { row := fnExactAllowedRow, standIns := [], harness := (true, "6c59155b349db4fd0d9fe46676c8be769105e54703f96798ca42980aeccc2aff"), looks := true }, kinds := [], alts := [], laidByText := true, laidKinds := [.handle, .sentinel, .sentinel, .sentinel, .sentinel, .sentinel], laidTests := true, laidLooks := .later }
def FnExactAllowedCardSaid : Prop := Claim7.holds Tryz.pinned (.plain (OpenSpec.ofChange fnExactAllowedSpec)) fnExactAllowedCard

/-- THE TIED CARD OF 'laws.FnExactLimited'. -/
def fnExactLimitedCard : Claim7 := { stood := { row := fnExactLimitedRow, standIns := [], harness := (true, "6c59155b349db4fd0d9fe46676c8be769105e54703f96798ca42980aeccc2aff"), looks := true }, kinds := [], alts := [], laidByText := true, laidKinds := [.handle, .sentinel, .sentinel, .sentinel, .sentinel, .sentinel], laidTests := true, laidLooks := .later }
def FnExactLimitedCardSaid : Prop := Claim7.holds Tryz.pinned (.plain (OpenSpec.ofChange fnExactLimitedSpec)) fnExactLimitedCard

/-- THE TIED CARD OF 'laws.FnExactClosed'. -/
def fnExactClosedCard : Claim7 := { stood := { row := fnExactClosedRow, standIns := [], harness := (true, "6c59155b349db4fd0d9fe46676c8be769105e54703f96798ca42980aeccc2aff"), looks := true }, kinds := [], alts := [], laidByText := true, laidKinds := [.handle, .sentinel, .sentinel, .sentinel, .sentinel, .sentinel], laidTests := true, laidLooks := .later }
def FnExactClosedCardSaid : Prop := Claim7.holds Tryz.pinned (.plain (OpenSpec.ofChange fnExactClosedSpec)) fnExactClosedCard

/-- THE TIED CARD OF 'laws.FnExactOpened'. -/
def fnExactOpenedCard : Claim7 := { stood := { row := fnExactOpenedRow, standIns := [], harness := (true, "6c59155b349db4fd0d9fe46676c8be769105e54703f96798ca42980aeccc2aff"), looks := true }, kinds := [], alts := [], laidByText := true, laidKinds := [.handle, .sentinel, .sentinel, .sentinel, .sentinel, .sentinel], laidTests := true, laidLooks := .later }
def FnExactOpenedCardSaid : Prop := Claim7.holds Tryz.pinned (.plain (OpenSpec.ofChange fnExactOpenedSpec)) fnExactOpenedCard

/-- THE SECOND FORM's CARD OF 'laws.FnChanged'. -/
def fnChangedUptoCard : Claim7 := { stood := { row := fnChangedUptoRow, standIns := [], harness := (true, "6c59155b349db4fd0d9fe46676c8be769105e54703f96798ca42980aeccc2aff"), looks := true }, kinds := [], alts := [], laidByText := true, laidKinds := [.handle, .sentinel, .sentinel, .sentinel, .sentinel, .sentinel], laidTests := true, laidLooks := .later }
def FnChangedUptoCardSaid : Prop := Claim7.holds Tryz.pinned (.plain (OpenSpec.upto fnChangedSpec)) fnChangedUptoCard

/-- THE SECOND FORM's CARD OF 'laws.FnClosed'. -/
def fnClosedUptoCard : Claim7 := { stood := { row := fnClosedUptoRow, standIns := [], harness := (true, "6c59155b349db4fd0d9fe46676c8be769105e54703f96798ca42980aeccc2aff"), looks := true }, kinds := [], alts := [], laidByText := true, laidKinds := [.handle, .sentinel, .sentinel, .sentinel, .sentinel, .sentinel], laidTests := true, laidLooks := .later }
def FnClosedUptoCardSaid : Prop := Claim7.holds Tryz.pinned (.plain (OpenSpec.upto fnClosedSpec)) fnClosedUptoCard

/-- THE SECOND FORM's CARD OF 'laws.FnCome'. -/
def fnComeUptoCard : Claim7 := { stood := { row := fnComeUptoRow, standIns := [], harness := (true, "6c59155b349db4fd0d9fe46676c8be769105e54703f96798ca42980aeccc2aff"), looks := true }, kinds := [], alts := [], laidByText := true, laidKinds := [.handle, .sentinel, .sentinel, .sentinel, .sentinel, .sentinel], laidTests := true, laidLooks := .later }
def FnComeUptoCardSaid : Prop := Claim7.holds Tryz.pinned (.plain (OpenSpec.upto fnComeSpec)) fnComeUptoCard

/-- THE SECOND FORM's CARD OF 'laws.FnWake'. -/
def fnWakeUptoCard : Claim7 := { stood := { row := fnWakeUptoRow, standIns := [], harness := (true, "6c59155b349db4fd0d9fe46676c8be769105e54703f96798ca42980aeccc2aff"), looks := true }, kinds := [], alts := [], laidByText := true, laidKinds := [.handle, .sentinel, .sentinel, .sentinel, .sentinel, .sentinel], laidTests := true, laidLooks := .later }
def FnWakeUptoCardSaid : Prop := Claim7.holds Tryz.pinned (.plain (OpenSpec.upto fnWakeSpec)) fnWakeUptoCard

/-- THE SECOND FORM's CARD OF 'laws.FnGoes'. -/
def fnGoesUptoCard : Claim7 := { stood := { row := fnGoesUptoRow, standIns := [], harness := (true, "6c59155b349db4fd0d9fe46676c8be769105e54703f96798ca42980aeccc2aff"), looks := true }, kinds := [], alts := [], laidByText := true, laidKinds := [.handle, .sentinel, .sentinel, .sentinel, .sentinel, .sentinel], laidTests := true, laidLooks := .later }
def FnGoesUptoCardSaid : Prop := Claim7.holds Tryz.pinned (.plain (OpenSpec.upto fnGoesSpec)) fnGoesUptoCard

/-- THE SECOND FORM's CARD OF 'laws.FnExactRanked'. -/
def fnExactRankedUptoCard : Claim7 := { stood := { row := fnExactRankedUptoRow, standIns := [], harness := (true, "6c59155b349db4fd0d9fe46676c8be769105e54703f96798ca42980aeccc2aff"), looks := true }, kinds := [], alts := [], laidByText := true, laidKinds := [.handle, .sentinel, .sentinel, .sentinel, .sentinel, .sentinel], laidTests := true, laidLooks := .later }
def FnExactRankedUptoCardSaid : Prop := Claim7.holds Tryz.pinned (.plain (OpenSpec.upto fnExactRankedSpec)) fnExactRankedUptoCard

/-- THE SECOND FORM's CARD OF 'laws.FnExactAllowed'. -/
def fnExactAllowedUptoCard : Claim7 := { stood := { row := fnExactAllowedUptoRow, standIns := [], harness := (true, "6c59155b349db4fd0d9fe46676c8be769105e54703f96798ca42980aeccc2aff"), looks := true }, kinds := [], alts := [], laidByText := true, laidKinds := [.handle, .sentinel, .sentinel, .sentinel, .sentinel, .sentinel], laidTests := true, laidLooks := .later }
def FnExactAllowedUptoCardSaid : Prop := Claim7.holds Tryz.pinned (.plain (OpenSpec.upto fnExactAllowedSpec)) fnExactAllowedUptoCard

/-- THE SECOND FORM's CARD OF 'laws.FnExactLimited'. -/
def fnExactLimitedUptoCard : Claim7 := { stood := { row := fnExactLimitedUptoRow, standIns := [], harness := (true, "6c59155b349db4fd0d9fe46676c8be769105e54703f96798ca42980aeccc2aff"), looks := true }, kinds := [], alts := [], laidByText := true, laidKinds := [.handle, .sentinel, .sentinel, .sentinel, .sentinel, .sentinel], laidTests := true, laidLooks := .later }
def FnExactLimitedUptoCardSaid : Prop := Claim7.holds Tryz.pinned (.plain (OpenSpec.upto fnExactLimitedSpec)) fnExactLimitedUptoCard

/-- THE SECOND FORM's CARD OF 'laws.FnExactClosed'. -/
def fnExactClosedUptoCard : Claim7 := { stood := { row := fnExactClosedUptoRow, standIns := [], harness := (true, "6c59155b349db4fd0d9fe46676c8be769105e54703f96798ca42980aeccc2aff"), looks := true }, kinds := [], alts := [], laidByText := true, laidKinds := [.handle, .sentinel, .sentinel, .sentinel, .sentinel, .sentinel], laidTests := true, laidLooks := .later }
def FnExactClosedUptoCardSaid : Prop := Claim7.holds Tryz.pinned (.plain (OpenSpec.upto fnExactClosedSpec)) fnExactClosedUptoCard

/-- THE SECOND FORM's CARD OF 'laws.FnExactOpened'. -/
def fnExactOpenedUptoCard : Claim7 := { stood := { row := fnExactOpenedUptoRow, standIns := [], harness := (true, "6c59155b349db4fd0d9fe46676c8be769105e54703f96798ca42980aeccc2aff"), looks := true }, kinds := [], alts := [], laidByText := true, laidKinds := [.handle, .sentinel, .sentinel, .sentinel, .sentinel, .sentinel], laidTests := true, laidLooks := .later }
def FnExactOpenedUptoCardSaid : Prop := Claim7.holds Tryz.pinned (.plain (OpenSpec.upto fnExactOpenedSpec)) fnExactOpenedUptoCard
end Rows
end Go.Proofs.YtjhijildaceadaaGreatDoor
