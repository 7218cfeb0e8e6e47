/-
  DERIVED. GIVEN WITH THE SEED: THE CARDS: each row of YtamgfpdahadnfaaGreatDoorRows.lean that lists a variable, with what it lists TIED to the program's text (the seventh form; the later family's looks); each row that meets fmt, with fmt's text TOLD by the authors' own Lean function (tested against real Go, not proved from fmt's source: count such statements apart). THE CARD IS WHAT COUNTS. Prove the row's statement (the work); the ties are given (YtamgfpdahadnfaaGreatDoorTie.lean); close each card by the builder's one call (the guide's Derived/Test/ToyasCard.lean, 'card_holds'). Laid BY PROGRAM, IN A SANDBOX (cutbox-door.mjs). By AI agents, Wed Nov 11 2026. No macro, syntax, notation, axiom, sorry.
-/
import Derived.Test.YtamgfpdahadnfaaGreatDoorRows
import GoSem.ClaimSeven
namespace Go.Proofs.YtamgfpdahadnfaaGreatDoor
namespace Rows

/-- THE TIED CARD OF 'laws.FnCome'. -/
def fnComeCard : Claim7 := { stood := { row := fnComeRow, standIns := [], harness := (true, "2497011163f39bcfcc7d2aec09398a703f526d3afba5bc583a669a9c70e20489"), looks := true }, kinds := [], alts := [], laidByText := true, laidKinds := [.handle, .sentinel, .sentinel, .sentinel, .sentinel, .sentinel], laidTests := true, laidLooks := .later }
def FnComeCardSaid : Prop := Claim7.holds Tryz.pinned (.plain (OpenSpec.ofChange fnComeSpec)) fnComeCard

/-- THE TIED CARD OF 'laws.FnWake'. -/
def fnWakeCard : Claim7 := { stood := { row := fnWakeRow, standIns := [], harness := (true, "2497011163f39bcfcc7d2aec09398a703f526d3afba5bc583a669a9c70e20489"), looks := true }, kinds := [], alts := [], laidByText := true, laidKinds := [.handle, .sentinel, .sentinel, .sentinel, .sentinel, .sentinel], laidTests := true, laidLooks := .later }
def FnWakeCardSaid : Prop := Claim7.holds Tryz.pinned (.plain (OpenSpec.ofChange fnWakeSpec)) fnWakeCard

/-- THE TIED CARD OF 'laws.FnChanged'. -/
def fnChangedCard : Claim7 := { stood := { row := fnChangedRow, standIns := [], harness := (true, "2497011163f39bcfcc7d2aec09398a703f526d3afba5bc583a669a9c70e20489"), looks := true }, kinds := [], alts := [], laidByText := true, laidKinds := [.handle, .sentinel, .sentinel, .sentinel, .sentinel, .sentinel], laidTests := true, laidLooks := .later }
def FnChangedCardSaid : Prop := Claim7.holds Tryz.pinned (.plain (OpenSpec.ofChange fnChangedSpec)) fnChangedCard

/-- THE TIED CARD OF 'laws.FnClosed'. -/
def fnClosedCard : Claim7 := { stood := { row := fnClosedRow, standIns := [], harness := (true, "2497011163f39bcfcc7d2aec09398a703f526d3afba5bc583a669a9c70e20489"), looks := true }, kinds := [], alts := [], laidByText := true, laidKinds := [.handle, .sentinel, .sentinel, .sentinel, .sentinel, .sentinel], laidTests := true, laidLooks := .later }
def FnClosedCardSaid : Prop := Claim7.holds Tryz.pinned (.plain (OpenSpec.ofChange fnClosedSpec)) fnClosedCard

/-- THE SECOND FORM's CARD OF 'laws.FnCome'. -/
def fnComeUptoCard : Claim7 := { stood := { row := fnComeUptoRow, standIns := [], harness := (true, "2497011163f39bcfcc7d2aec09398a703f526d3afba5bc583a669a9c70e20489"), looks := true }, kinds := [], alts := [], laidByText := true, laidKinds := [.handle, .sentinel, .sentinel, .sentinel, .sentinel, .sentinel], laidTests := true, laidLooks := .later }
def FnComeUptoCardSaid : Prop := Claim7.holds Tryz.pinned (.plain (OpenSpec.upto fnComeSpec)) fnComeUptoCard

/-- THE SECOND FORM's CARD OF 'laws.FnWake'. -/
def fnWakeUptoCard : Claim7 := { stood := { row := fnWakeUptoRow, standIns := [], harness := (true, "2497011163f39bcfcc7d2aec09398a703f526d3afba5bc583a669a9c70e20489"), looks := true }, kinds := [], alts := [], laidByText := true, laidKinds := [.handle, .sentinel, .sentinel, .sentinel, .sentinel, .sentinel], laidTests := true, laidLooks := .later }
def FnWakeUptoCardSaid : Prop := Claim7.holds Tryz.pinned (.plain (OpenSpec.upto fnWakeSpec)) fnWakeUptoCard

/-- THE SECOND FORM's CARD OF 'laws.FnChanged'. -/
def fnChangedUptoCard : Claim7 := { stood := { row := fnChangedUptoRow, standIns := [], harness := (true, "2497011163f39bcfcc7d2aec09398a703f526d3afba5bc583a669a9c70e20489"), looks := true }, kinds := [], alts := [], laidByText := true, laidKinds := [.handle, .sentinel, .sentinel, .sentinel, .sentinel, .sentinel], laidTests := true, laidLooks := .later }
def FnChangedUptoCardSaid : Prop := Claim7.holds Tryz.pinned (.plain (OpenSpec.upto fnChangedSpec)) fnChangedUptoCard

/-- THE SECOND FORM's CARD OF 'laws.FnClosed'. -/
def fnClosedUptoCard : Claim7 := { stood := { row := fnClosedUptoRow, standIns := [], harness := (true, "2497011163f39bcfcc7d2aec09398a703f526d3afba5bc583a669a9c70e20489"), looks := true }, kinds := [], alts := [], laidByText := true, laidKinds := [.handle, .sentinel, .sentinel, .sentinel, .sentinel, .sentinel], laidTests := true, laidLooks := .later }
def FnClosedUptoCardSaid : Prop := Claim7.holds Tryz.pinned (.plain (OpenSpec.upto fnClosedSpec)) fnClosedUptoCard
end Rows
end Go.Proofs.YtamgfpdahadnfaaGreatDoor
