/-
  NARROWER THAN 'FOR EVERY INPUT', by the rows' own cells (each row's printed sentence says how): FnChanged: ifaces, laid · FnClosed: ifaces, laid · FnCome: ifaces, laid · FnWake: ifaces, laid · FnGoes: ifaces, laid · FnExactRanked: ifaces, laid · FnExactAllowed: ifaces, laid · FnExactLimited: ifaces, laid · FnExactClosed: ifaces, laid · FnExactOpened: ifaces, laid.
  DERIVED. THE GIVEN ROWS OF THIS SEAT. 10 by the template 'for every input the law returns true; each argument reads behind the call as it read before'; 0 by the template 'total and deterministic' (their statements: YtjhijildaceadaaGreatDoorTotals.lean).
  GIVEN WITH THE SEED: the statements are not yours to turn. If you find one false, say at which input.
  Laid BY PROGRAM, IN A SANDBOX (cutbox-rows.mjs): the forced cells as the released guide's own fill.sh prints them over the translation eb27847501b25344… (all of the seat's roots in one cut). By AI agents, Wed Nov 11 2026. No macro, syntax, notation, axiom, sorry.
-/
import Derived.Test.YtjhijildaceadaaGreatDoorChecked
import GoSem.Claim
import GoSem.ClaimJoined
import GoSem.ClaimMapViews
import Derived.JoinedTies
import Derived.KernelRfl
namespace Go.Proofs.YtjhijildaceadaaGreatDoor
/- THE CELL 'sum', in the pinned program and in every row, IS THE sha256 OF THE DUMP (.gsa) THAT YtjhijildaceadaaGreatDoorProg.lean LOADS. Nothing in Lean hashes anything: it is a label: what it is worth is what the hold of that sum in a sandbox is worth. -/
noncomputable def Tryz.pinned : Pinned := { name := "ytjhijildaceadaagreatdoor", sum := "eb27847501b253449784a0a9e1856116fa1471ac755d94249e144f4eb621e8ea", checked := Tryz.checked }
namespace Rows
def none {H : Type} : Left H := { results := [], args := [] }

/- WHAT THE LISTED PACKAGE-LEVEL VARIABLES READ AS WHEN THE CALL BEGINS. Each datum BY PROGRAM (the guide's laid-datum.mjs) off the statement by which the dump's own 'gosem.cut.vars' lays the variable. In a bare row this is a premise. The card (YtjhijildaceadaaGreatDoorCards.lean) ties it to the program's text. -/
def laid_errors_errorType {H : Type} : DataW H := .iface "internal/reflectlite.rtype" (.agg [.ptr (.lit (.string [101, 114, 114, 111, 114]))])
def laid_loop_example_g00553_impl_errNone {H : Type} : DataW H := .iface "*errors.errorString" (.ptr (.agg [.lit (.string [116, 104, 101, 114, 101, 32, 105, 115, 32, 110, 111, 32, 115, 117, 99, 104, 32, 111, 110, 101])]))
def laid_loop_example_g00553_impl_errState {H : Type} : DataW H := .iface "*errors.errorString" (.ptr (.agg [.lit (.string [110, 111, 116, 32, 97, 115, 32, 105, 116, 32, 105, 115, 32, 110, 111, 119])]))
def laid_loop_example_g00553_impl_errRange {H : Type} : DataW H := .iface "*errors.errorString" (.ptr (.agg [.lit (.string [111, 117, 116, 32, 111, 102, 32, 114, 97, 110, 103, 101])]))
def laid_loop_example_g00553_impl_errFull {H : Type} : DataW H := .iface "*errors.errorString" (.ptr (.agg [.lit (.string [116, 104, 101, 114, 101, 32, 105, 115, 32, 110, 111, 32, 114, 111, 111, 109])]))
def laid_loop_example_g00553_impl_errLast {H : Type} : DataW H := .iface "*errors.errorString" (.ptr (.agg [.lit (.string [116, 104, 101, 114, 101, 32, 105, 115, 32, 110, 111, 32, 111, 116, 104, 101, 114, 32, 111, 110, 101])]))

/-- 'laws.FnChanged': WHATEVER THE INPUT: true; the input reads as it did. -/
def fnChangedSpec : ChangeSpec := { name := "fnChanged", vars := ["loop.example/g00553/impl.errRange", "loop.example/g00553/impl.errNone", "loop.example/g00553/impl.errState", "loop.example/g00553/impl.errFull", "loop.example/g00553/impl.errLast"], fn := fun _ => fun
  | [d, g1, g2, g3, g4, g5] => { results := [.lit (.bool true)], args := [d], vars := [g1, g2, g3, g4, g5] }
  | _ => none }
def fnChangedRow : OpenClaim := { program := "ytjhijildaceadaagreatdoor", sum := "eb27847501b253449784a0a9e1856116fa1471ac755d94249e144f4eb621e8ea", func := "loop.example/g00553/laws.FnChanged", spec := "fnChanged", inPlace := ["internal/reflectlite.ValueOf", "(internal/reflectlite.Value).Type", "(internal/reflectlite.Value).IsNil", "internal/reflectlite.TypeOf", "(internal/reflectlite.Value).Elem", "(internal/reflectlite.Value).Set"], unfollowed := true, recurses := true, named := ["loop.example/g00553/impl.errRange", "loop.example/g00553/impl.errNone", "errors.errorType", "loop.example/g00553/impl.errState", "loop.example/g00553/impl.errFull", "loop.example/g00553/impl.errLast"], ifaces := true, apart := false, laid := [("errors.errorType", laid_errors_errorType), ("loop.example/g00553/impl.errNone", laid_loop_example_g00553_impl_errNone), ("loop.example/g00553/impl.errState", laid_loop_example_g00553_impl_errState), ("loop.example/g00553/impl.errRange", laid_loop_example_g00553_impl_errRange), ("loop.example/g00553/impl.errFull", laid_loop_example_g00553_impl_errFull), ("loop.example/g00553/impl.errLast", laid_loop_example_g00553_impl_errLast)] }
def FnChangedSaid : Prop := fnChangedRow.holds Tryz.pinned (OpenSpec.ofChange fnChangedSpec)

/-- ITS FALSE NEIGHBOUR: 'it returns false'. Refute it at one input. -/
def fnChangedWrong : ChangeSpec := { name := "fnChanged", vars := ["loop.example/g00553/impl.errRange", "loop.example/g00553/impl.errNone", "loop.example/g00553/impl.errState", "loop.example/g00553/impl.errFull", "loop.example/g00553/impl.errLast"], fn := fun _ => fun
  | [d, g1, g2, g3, g4, g5] => { results := [.lit (.bool false)], args := [d], vars := [g1, g2, g3, g4, g5] }
  | _ => none }
def FnChangedWrongFalsely : Prop := fnChangedRow.holds Tryz.pinned (OpenSpec.ofChange fnChangedWrong)

/-- 'laws.FnClosed': WHATEVER THE INPUT: true; the input reads as it did. -/
def fnClosedSpec : ChangeSpec := { name := "fnClosed", vars := ["loop.example/g00553/impl.errState", "loop.example/g00553/impl.errLast", "loop.example/g00553/impl.errNone", "loop.example/g00553/impl.errRange", "loop.example/g00553/impl.errFull"], fn := fun _ => fun
  | [d, g1, g2, g3, g4, g5] => { results := [.lit (.bool true)], args := [d], vars := [g1, g2, g3, g4, g5] }
  | _ => none }
def fnClosedRow : OpenClaim := { program := "ytjhijildaceadaagreatdoor", sum := "eb27847501b253449784a0a9e1856116fa1471ac755d94249e144f4eb621e8ea", func := "loop.example/g00553/laws.FnClosed", spec := "fnClosed", inPlace := ["internal/reflectlite.ValueOf", "(internal/reflectlite.Value).Type", "(internal/reflectlite.Value).IsNil", "internal/reflectlite.TypeOf", "(internal/reflectlite.Value).Elem", "(internal/reflectlite.Value).Set"], unfollowed := true, recurses := true, named := ["loop.example/g00553/impl.errState", "loop.example/g00553/impl.errLast", "loop.example/g00553/impl.errNone", "loop.example/g00553/impl.errRange", "errors.errorType", "loop.example/g00553/impl.errFull"], ifaces := true, apart := false, laid := [("errors.errorType", laid_errors_errorType), ("loop.example/g00553/impl.errNone", laid_loop_example_g00553_impl_errNone), ("loop.example/g00553/impl.errState", laid_loop_example_g00553_impl_errState), ("loop.example/g00553/impl.errRange", laid_loop_example_g00553_impl_errRange), ("loop.example/g00553/impl.errFull", laid_loop_example_g00553_impl_errFull), ("loop.example/g00553/impl.errLast", laid_loop_example_g00553_impl_errLast)] }
def FnClosedSaid : Prop := fnClosedRow.holds Tryz.pinned (OpenSpec.ofChange fnClosedSpec)

/-- ITS FALSE NEIGHBOUR: 'it returns false'. Refute it at one input. -/
def fnClosedWrong : ChangeSpec := { name := "fnClosed", vars := ["loop.example/g00553/impl.errState", "loop.example/g00553/impl.errLast", "loop.example/g00553/impl.errNone", "loop.example/g00553/impl.errRange", "loop.example/g00553/impl.errFull"], fn := fun _ => fun
  | [d, g1, g2, g3, g4, g5] => { results := [.lit (.bool false)], args := [d], vars := [g1, g2, g3, g4, g5] }
  | _ => none }
def FnClosedWrongFalsely : Prop := fnClosedRow.holds Tryz.pinned (OpenSpec.ofChange fnClosedWrong)

/-- 'laws.FnCome': WHATEVER THE INPUT: true; the input reads as it did. -/
def fnComeSpec : ChangeSpec := { name := "fnCome", vars := ["loop.example/g00553/impl.errRange", "loop.example/g00553/impl.errFull", "loop.example/g00553/impl.errState", "loop.example/g00553/impl.errNone", "loop.example/g00553/impl.errLast"], fn := fun _ => fun
  | [d, g1, g2, g3, g4, g5] => { results := [.lit (.bool true)], args := [d], vars := [g1, g2, g3, g4, g5] }
  | _ => none }
def fnComeRow : OpenClaim := { program := "ytjhijildaceadaagreatdoor", sum := "eb27847501b253449784a0a9e1856116fa1471ac755d94249e144f4eb621e8ea", func := "loop.example/g00553/laws.FnCome", spec := "fnCome", inPlace := ["internal/reflectlite.ValueOf", "(internal/reflectlite.Value).Type", "(internal/reflectlite.Value).IsNil", "internal/reflectlite.TypeOf", "(internal/reflectlite.Value).Elem", "(internal/reflectlite.Value).Set"], unfollowed := true, recurses := true, named := ["loop.example/g00553/impl.errRange", "loop.example/g00553/impl.errFull", "loop.example/g00553/impl.errState", "errors.errorType", "loop.example/g00553/impl.errNone", "loop.example/g00553/impl.errLast"], ifaces := true, apart := false, laid := [("errors.errorType", laid_errors_errorType), ("loop.example/g00553/impl.errNone", laid_loop_example_g00553_impl_errNone), ("loop.example/g00553/impl.errState", laid_loop_example_g00553_impl_errState), ("loop.example/g00553/impl.errRange", laid_loop_example_g00553_impl_errRange), ("loop.example/g00553/impl.errFull", laid_loop_example_g00553_impl_errFull), ("loop.example/g00553/impl.errLast", laid_loop_example_g00553_impl_errLast)] }
def FnComeSaid : Prop := fnComeRow.holds Tryz.pinned (OpenSpec.ofChange fnComeSpec)

/-- ITS FALSE NEIGHBOUR: 'it returns false'. Refute it at one input. -/
def fnComeWrong : ChangeSpec := { name := "fnCome", vars := ["loop.example/g00553/impl.errRange", "loop.example/g00553/impl.errFull", "loop.example/g00553/impl.errState", "loop.example/g00553/impl.errNone", "loop.example/g00553/impl.errLast"], fn := fun _ => fun
  | [d, g1, g2, g3, g4, g5] => { results := [.lit (.bool false)], args := [d], vars := [g1, g2, g3, g4, g5] }
  | _ => none }
def FnComeWrongFalsely : Prop := fnComeRow.holds Tryz.pinned (OpenSpec.ofChange fnComeWrong)

/-- 'laws.FnWake': WHATEVER THE INPUT: true; the input reads as it did. -/
def fnWakeSpec : ChangeSpec := { name := "fnWake", vars := ["loop.example/g00553/impl.errNone", "loop.example/g00553/impl.errState", "loop.example/g00553/impl.errFull", "loop.example/g00553/impl.errRange", "loop.example/g00553/impl.errLast"], fn := fun _ => fun
  | [d, g1, g2, g3, g4, g5] => { results := [.lit (.bool true)], args := [d], vars := [g1, g2, g3, g4, g5] }
  | _ => none }
def fnWakeRow : OpenClaim := { program := "ytjhijildaceadaagreatdoor", sum := "eb27847501b253449784a0a9e1856116fa1471ac755d94249e144f4eb621e8ea", func := "loop.example/g00553/laws.FnWake", spec := "fnWake", inPlace := ["internal/reflectlite.ValueOf", "(internal/reflectlite.Value).Type", "(internal/reflectlite.Value).IsNil", "internal/reflectlite.TypeOf", "(internal/reflectlite.Value).Elem", "(internal/reflectlite.Value).Set"], unfollowed := true, recurses := true, named := ["loop.example/g00553/impl.errNone", "loop.example/g00553/impl.errState", "loop.example/g00553/impl.errFull", "loop.example/g00553/impl.errRange", "errors.errorType", "loop.example/g00553/impl.errLast"], ifaces := true, apart := false, laid := [("errors.errorType", laid_errors_errorType), ("loop.example/g00553/impl.errNone", laid_loop_example_g00553_impl_errNone), ("loop.example/g00553/impl.errState", laid_loop_example_g00553_impl_errState), ("loop.example/g00553/impl.errRange", laid_loop_example_g00553_impl_errRange), ("loop.example/g00553/impl.errFull", laid_loop_example_g00553_impl_errFull), ("loop.example/g00553/impl.errLast", laid_loop_example_g00553_impl_errLast)] }
def FnWakeSaid : Prop := fnWakeRow.holds Tryz.pinned (OpenSpec.ofChange fnWakeSpec)

/-- ITS FALSE NEIGHBOUR: 'it returns false'. Refute it at one input. -/
def fnWakeWrong : ChangeSpec := { name := "fnWake", vars := ["loop.example/g00553/impl.errNone", "loop.example/g00553/impl.errState", "loop.example/g00553/impl.errFull", "loop.example/g00553/impl.errRange", "loop.example/g00553/impl.errLast"], fn := fun _ => fun
  | [d, g1, g2, g3, g4, g5] => { results := [.lit (.bool false)], args := [d], vars := [g1, g2, g3, g4, g5] }
  | _ => none }
def FnWakeWrongFalsely : Prop := fnWakeRow.holds Tryz.pinned (OpenSpec.ofChange fnWakeWrong)

/-- 'laws.FnGoes': WHATEVER THE INPUT: true; the input reads as it did. -/
def fnGoesSpec : ChangeSpec := { name := "fnGoes", vars := ["loop.example/g00553/impl.errNone", "loop.example/g00553/impl.errState", "loop.example/g00553/impl.errRange", "loop.example/g00553/impl.errFull", "loop.example/g00553/impl.errLast"], fn := fun _ => fun
  | [d, g1, g2, g3, g4, g5] => { results := [.lit (.bool true)], args := [d], vars := [g1, g2, g3, g4, g5] }
  | _ => none }
def fnGoesRow : OpenClaim := { program := "ytjhijildaceadaagreatdoor", sum := "eb27847501b253449784a0a9e1856116fa1471ac755d94249e144f4eb621e8ea", func := "loop.example/g00553/laws.FnGoes", spec := "fnGoes", inPlace := ["internal/reflectlite.ValueOf", "(internal/reflectlite.Value).Type", "(internal/reflectlite.Value).IsNil", "internal/reflectlite.TypeOf", "(internal/reflectlite.Value).Elem", "(internal/reflectlite.Value).Set"], unfollowed := true, recurses := true, named := ["loop.example/g00553/impl.errNone", "loop.example/g00553/impl.errState", "loop.example/g00553/impl.errRange", "errors.errorType", "loop.example/g00553/impl.errFull", "loop.example/g00553/impl.errLast"], ifaces := true, apart := false, laid := [("errors.errorType", laid_errors_errorType), ("loop.example/g00553/impl.errNone", laid_loop_example_g00553_impl_errNone), ("loop.example/g00553/impl.errState", laid_loop_example_g00553_impl_errState), ("loop.example/g00553/impl.errRange", laid_loop_example_g00553_impl_errRange), ("loop.example/g00553/impl.errFull", laid_loop_example_g00553_impl_errFull), ("loop.example/g00553/impl.errLast", laid_loop_example_g00553_impl_errLast)] }
def FnGoesSaid : Prop := fnGoesRow.holds Tryz.pinned (OpenSpec.ofChange fnGoesSpec)

/-- ITS FALSE NEIGHBOUR: 'it returns false'. Refute it at one input. -/
def fnGoesWrong : ChangeSpec := { name := "fnGoes", vars := ["loop.example/g00553/impl.errNone", "loop.example/g00553/impl.errState", "loop.example/g00553/impl.errRange", "loop.example/g00553/impl.errFull", "loop.example/g00553/impl.errLast"], fn := fun _ => fun
  | [d, g1, g2, g3, g4, g5] => { results := [.lit (.bool false)], args := [d], vars := [g1, g2, g3, g4, g5] }
  | _ => none }
def FnGoesWrongFalsely : Prop := fnGoesRow.holds Tryz.pinned (OpenSpec.ofChange fnGoesWrong)

/-- 'laws.FnExactRanked': WHATEVER THE INPUT: true; the input reads as it did. -/
def fnExactRankedSpec : ChangeSpec := { name := "fnExactRanked", vars := ["loop.example/g00553/impl.errRange", "loop.example/g00553/impl.errNone", "loop.example/g00553/impl.errState", "loop.example/g00553/impl.errFull", "loop.example/g00553/impl.errLast"], fn := fun _ => fun
  | [d1, d2, d3, g1, g2, g3, g4, g5] => { results := [.lit (.bool true)], args := [d1, d2, d3], vars := [g1, g2, g3, g4, g5] }
  | _ => none }
def fnExactRankedRow : OpenClaim := { program := "ytjhijildaceadaagreatdoor", sum := "eb27847501b253449784a0a9e1856116fa1471ac755d94249e144f4eb621e8ea", func := "loop.example/g00553/laws.FnExactRanked", spec := "fnExactRanked", inPlace := ["internal/reflectlite.ValueOf", "(internal/reflectlite.Value).Type", "(internal/reflectlite.Value).IsNil", "internal/reflectlite.TypeOf", "(internal/reflectlite.Value).Elem", "(internal/reflectlite.Value).Set"], unfollowed := true, recurses := true, named := ["loop.example/g00553/impl.errRange", "loop.example/g00553/impl.errNone", "errors.errorType", "loop.example/g00553/impl.errState", "loop.example/g00553/impl.errFull", "loop.example/g00553/impl.errLast"], ifaces := true, apart := false, laid := [("errors.errorType", laid_errors_errorType), ("loop.example/g00553/impl.errNone", laid_loop_example_g00553_impl_errNone), ("loop.example/g00553/impl.errState", laid_loop_example_g00553_impl_errState), ("loop.example/g00553/impl.errRange", laid_loop_example_g00553_impl_errRange), ("loop.example/g00553/impl.errFull", laid_loop_example_g00553_impl_errFull), ("loop.example/g00553/impl.errLast", laid_loop_example_g00553_impl_errLast)] }
def FnExactRankedSaid : Prop := fnExactRankedRow.holds Tryz.pinned (OpenSpec.ofChange fnExactRankedSpec)

/-- ITS FALSE NEIGHBOUR: 'it returns false'. Refute it at one input. -/
def fnExactRankedWrong : ChangeSpec := { name := "fnExactRanked", vars := ["loop.example/g00553/impl.errRange", "loop.example/g00553/impl.errNone", "loop.example/g00553/impl.errState", "loop.example/g00553/impl.errFull", "loop.example/g00553/impl.errLast"], fn := fun _ => fun
  | [d1, d2, d3, g1, g2, g3, g4, g5] => { results := [.lit (.bool false)], args := [d1, d2, d3], vars := [g1, g2, g3, g4, g5] }
  | _ => none }
def FnExactRankedWrongFalsely : Prop := fnExactRankedRow.holds Tryz.pinned (OpenSpec.ofChange fnExactRankedWrong)

/-- 'laws.FnExactAllowed': WHATEVER THE INPUT: true; the input reads as it did. -/
def fnExactAllowedSpec : ChangeSpec := { name := "fnExactAllowed", vars := ["loop.example/g00553/impl.errRange", "loop.example/g00553/impl.errState", "loop.example/g00553/impl.errNone", "loop.example/g00553/impl.errFull", "loop.example/g00553/impl.errLast"], fn := fun _ => fun
  | [d1, d2, d3, g1, g2, g3, g4, g5] => { results := [.lit (.bool true)], args := [d1, d2, d3], vars := [g1, g2, g3, g4, g5] }
  | _ => none }
def fnExactAllowedRow : OpenClaim := { program := "ytjhijildaceadaagreatdoor", sum := "eb27847501b253449784a0a9e1856116fa1471ac755d94249e144f4eb621e8ea", func := "loop.example/g00553/laws.FnExactAllowed", spec := "fnExactAllowed", inPlace := ["internal/reflectlite.ValueOf", "(internal/reflectlite.Value).Type", "(internal/reflectlite.Value).IsNil", "internal/reflectlite.TypeOf", "(internal/reflectlite.Value).Elem", "(internal/reflectlite.Value).Set"], unfollowed := true, recurses := true, named := ["loop.example/g00553/impl.errRange", "loop.example/g00553/impl.errState", "loop.example/g00553/impl.errNone", "errors.errorType", "loop.example/g00553/impl.errFull", "loop.example/g00553/impl.errLast"], ifaces := true, apart := false, laid := [("errors.errorType", laid_errors_errorType), ("loop.example/g00553/impl.errNone", laid_loop_example_g00553_impl_errNone), ("loop.example/g00553/impl.errState", laid_loop_example_g00553_impl_errState), ("loop.example/g00553/impl.errRange", laid_loop_example_g00553_impl_errRange), ("loop.example/g00553/impl.errFull", laid_loop_example_g00553_impl_errFull), ("loop.example/g00553/impl.errLast", laid_loop_example_g00553_impl_errLast)] }
def FnExactAllowedSaid : Prop := fnExactAllowedRow.holds Tryz.pinned (OpenSpec.ofChange fnExactAllowedSpec)

/-- ITS FALSE NEIGHBOUR: 'it returns false'. Refute it at one input. -/
def fnExactAllowedWrong : ChangeSpec := { name := "fnExactAllowed", vars := ["loop.example/g00553/impl.errRange", "loop.example/g00553/impl.errState", "loop.example/g00553/impl.errNone", "loop.example/g00553/impl.errFull", "loop.example/g00553/impl.errLast"], fn := fun _ => fun
  | [d1, d2, d3, g1, g2, g3, g4, g5] => { results := [.lit (.bool false)], args := [d1, d2, d3], vars := [g1, g2, g3, g4, g5] }
  | _ => none }
def FnExactAllowedWrongFalsely : Prop := fnExactAllowedRow.holds Tryz.pinned (OpenSpec.ofChange fnExactAllowedWrong)

/-- 'laws.FnExactLimited': WHATEVER THE INPUT: true; the input reads as it did. -/
def fnExactLimitedSpec : ChangeSpec := { name := "fnExactLimited", vars := ["loop.example/g00553/impl.errRange", "loop.example/g00553/impl.errNone", "loop.example/g00553/impl.errState", "loop.example/g00553/impl.errFull", "loop.example/g00553/impl.errLast"], fn := fun _ => fun
  | [d1, d2, d3, d4, g1, g2, g3, g4, g5] => { results := [.lit (.bool true)], args := [d1, d2, d3, d4], vars := [g1, g2, g3, g4, g5] }
  | _ => none }
def fnExactLimitedRow : OpenClaim := { program := "ytjhijildaceadaagreatdoor", sum := "eb27847501b253449784a0a9e1856116fa1471ac755d94249e144f4eb621e8ea", func := "loop.example/g00553/laws.FnExactLimited", spec := "fnExactLimited", inPlace := ["internal/reflectlite.ValueOf", "(internal/reflectlite.Value).Type", "(internal/reflectlite.Value).IsNil", "internal/reflectlite.TypeOf", "(internal/reflectlite.Value).Elem", "(internal/reflectlite.Value).Set"], unfollowed := true, recurses := true, named := ["loop.example/g00553/impl.errRange", "loop.example/g00553/impl.errNone", "errors.errorType", "loop.example/g00553/impl.errState", "loop.example/g00553/impl.errFull", "loop.example/g00553/impl.errLast"], ifaces := true, apart := false, laid := [("errors.errorType", laid_errors_errorType), ("loop.example/g00553/impl.errNone", laid_loop_example_g00553_impl_errNone), ("loop.example/g00553/impl.errState", laid_loop_example_g00553_impl_errState), ("loop.example/g00553/impl.errRange", laid_loop_example_g00553_impl_errRange), ("loop.example/g00553/impl.errFull", laid_loop_example_g00553_impl_errFull), ("loop.example/g00553/impl.errLast", laid_loop_example_g00553_impl_errLast)] }
def FnExactLimitedSaid : Prop := fnExactLimitedRow.holds Tryz.pinned (OpenSpec.ofChange fnExactLimitedSpec)

/-- ITS FALSE NEIGHBOUR: 'it returns false'. Refute it at one input. -/
def fnExactLimitedWrong : ChangeSpec := { name := "fnExactLimited", vars := ["loop.example/g00553/impl.errRange", "loop.example/g00553/impl.errNone", "loop.example/g00553/impl.errState", "loop.example/g00553/impl.errFull", "loop.example/g00553/impl.errLast"], fn := fun _ => fun
  | [d1, d2, d3, d4, g1, g2, g3, g4, g5] => { results := [.lit (.bool false)], args := [d1, d2, d3, d4], vars := [g1, g2, g3, g4, g5] }
  | _ => none }
def FnExactLimitedWrongFalsely : Prop := fnExactLimitedRow.holds Tryz.pinned (OpenSpec.ofChange fnExactLimitedWrong)

/-- 'laws.FnExactClosed': WHATEVER THE INPUT: true; the input reads as it did. -/
def fnExactClosedSpec : ChangeSpec := { name := "fnExactClosed", vars := ["loop.example/g00553/impl.errState", "loop.example/g00553/impl.errLast", "loop.example/g00553/impl.errNone", "loop.example/g00553/impl.errRange", "loop.example/g00553/impl.errFull"], fn := fun _ => fun
  | [d1, d2, g1, g2, g3, g4, g5] => { results := [.lit (.bool true)], args := [d1, d2], vars := [g1, g2, g3, g4, g5] }
  | _ => none }
def fnExactClosedRow : OpenClaim := { program := "ytjhijildaceadaagreatdoor", sum := "eb27847501b253449784a0a9e1856116fa1471ac755d94249e144f4eb621e8ea", func := "loop.example/g00553/laws.FnExactClosed", spec := "fnExactClosed", inPlace := ["internal/reflectlite.ValueOf", "(internal/reflectlite.Value).Type", "(internal/reflectlite.Value).IsNil", "internal/reflectlite.TypeOf", "(internal/reflectlite.Value).Elem", "(internal/reflectlite.Value).Set"], unfollowed := true, recurses := true, named := ["loop.example/g00553/impl.errState", "loop.example/g00553/impl.errLast", "loop.example/g00553/impl.errNone", "loop.example/g00553/impl.errRange", "errors.errorType", "loop.example/g00553/impl.errFull"], ifaces := true, apart := false, laid := [("errors.errorType", laid_errors_errorType), ("loop.example/g00553/impl.errNone", laid_loop_example_g00553_impl_errNone), ("loop.example/g00553/impl.errState", laid_loop_example_g00553_impl_errState), ("loop.example/g00553/impl.errRange", laid_loop_example_g00553_impl_errRange), ("loop.example/g00553/impl.errFull", laid_loop_example_g00553_impl_errFull), ("loop.example/g00553/impl.errLast", laid_loop_example_g00553_impl_errLast)] }
def FnExactClosedSaid : Prop := fnExactClosedRow.holds Tryz.pinned (OpenSpec.ofChange fnExactClosedSpec)

/-- ITS FALSE NEIGHBOUR: 'it returns false'. Refute it at one input. -/
def fnExactClosedWrong : ChangeSpec := { name := "fnExactClosed", vars := ["loop.example/g00553/impl.errState", "loop.example/g00553/impl.errLast", "loop.example/g00553/impl.errNone", "loop.example/g00553/impl.errRange", "loop.example/g00553/impl.errFull"], fn := fun _ => fun
  | [d1, d2, g1, g2, g3, g4, g5] => { results := [.lit (.bool false)], args := [d1, d2], vars := [g1, g2, g3, g4, g5] }
  | _ => none }
def FnExactClosedWrongFalsely : Prop := fnExactClosedRow.holds Tryz.pinned (OpenSpec.ofChange fnExactClosedWrong)

/-- 'laws.FnExactOpened': WHATEVER THE INPUT: true; the input reads as it did. -/
def fnExactOpenedSpec : ChangeSpec := { name := "fnExactOpened", vars := ["loop.example/g00553/impl.errState", "loop.example/g00553/impl.errNone", "loop.example/g00553/impl.errRange", "loop.example/g00553/impl.errFull", "loop.example/g00553/impl.errLast"], fn := fun _ => fun
  | [d1, d2, g1, g2, g3, g4, g5] => { results := [.lit (.bool true)], args := [d1, d2], vars := [g1, g2, g3, g4, g5] }
  | _ => none }
def fnExactOpenedRow : OpenClaim := { program := "ytjhijildaceadaagreatdoor", sum := "eb27847501b253449784a0a9e1856116fa1471ac755d94249e144f4eb621e8ea", func := "loop.example/g00553/laws.FnExactOpened", spec := "fnExactOpened", inPlace := ["internal/reflectlite.ValueOf", "(internal/reflectlite.Value).Type", "(internal/reflectlite.Value).IsNil", "internal/reflectlite.TypeOf", "(internal/reflectlite.Value).Elem", "(internal/reflectlite.Value).Set"], unfollowed := true, recurses := true, named := ["loop.example/g00553/impl.errState", "loop.example/g00553/impl.errNone", "loop.example/g00553/impl.errRange", "errors.errorType", "loop.example/g00553/impl.errFull", "loop.example/g00553/impl.errLast"], ifaces := true, apart := false, laid := [("errors.errorType", laid_errors_errorType), ("loop.example/g00553/impl.errNone", laid_loop_example_g00553_impl_errNone), ("loop.example/g00553/impl.errState", laid_loop_example_g00553_impl_errState), ("loop.example/g00553/impl.errRange", laid_loop_example_g00553_impl_errRange), ("loop.example/g00553/impl.errFull", laid_loop_example_g00553_impl_errFull), ("loop.example/g00553/impl.errLast", laid_loop_example_g00553_impl_errLast)] }
def FnExactOpenedSaid : Prop := fnExactOpenedRow.holds Tryz.pinned (OpenSpec.ofChange fnExactOpenedSpec)

/-- ITS FALSE NEIGHBOUR: 'it returns false'. Refute it at one input. -/
def fnExactOpenedWrong : ChangeSpec := { name := "fnExactOpened", vars := ["loop.example/g00553/impl.errState", "loop.example/g00553/impl.errNone", "loop.example/g00553/impl.errRange", "loop.example/g00553/impl.errFull", "loop.example/g00553/impl.errLast"], fn := fun _ => fun
  | [d1, d2, g1, g2, g3, g4, g5] => { results := [.lit (.bool false)], args := [d1, d2], vars := [g1, g2, g3, g4, g5] }
  | _ => none }
def FnExactOpenedWrongFalsely : Prop := fnExactOpenedRow.holds Tryz.pinned (OpenSpec.ofChange fnExactOpenedWrong)

/- THE SECOND FORM. 'bulk': how many values and letters a reading holds, each counted each time it is reached (what is shared counts as often as it is met; a slice's spare places count too). A statement '..UptoSaid' is the law's where the arguments, and the package variables that the reading takes, are together of bulk at most 1048576: NARROWER than '..Said'. Prove '..Said' where nothing that the law and all that it calls make is longer than what came in: it says more and counts as full. Else prove '..UptoSaid'. A law counts once. -/
mutual
def uptoBulk {H : Type} : DataW H → Nat
  | .lit (.string bytes) => bytes.length + 1
  | .lit _ => 1
  | .nil => 1
  | .ptr d => uptoBulk d + 1
  | .slice elems spare => uptoBulkAll elems + uptoBulkAll spare + 1
  | .agg parts => uptoBulkAll parts + 1
  | .iface _ d => uptoBulk d + 1
  | .map entries => uptoBulkEntries entries + 1
  | .held _ => 1
def uptoBulkAll {H : Type} : List (DataW H) → Nat
  | [] => 0
  | d :: r => uptoBulk d + uptoBulkAll r
def uptoBulkEntries {H : Type} : List (Lit × DataW H) → Nat
  | [] => 0
  | x :: r => uptoBulkEntry x + uptoBulkEntries r
def uptoBulkEntry {H : Type} : Lit × DataW H → Nat
  | (.string bytes, d) => bytes.length + uptoBulk d + 1
  | (_, d) => uptoBulk d + 1
 end
def uptoSmall : (H : Type) → List (DataW H) → Bool := fun _ ds => decide (uptoBulkAll ds ≤ 1048576)
def OpenSpec.upto (s : _root_.Go.ChangeSpec) : _root_.Go.OpenSpec := { _root_.Go.OpenSpec.ofChange s with cond := some uptoSmall }

/-- 'laws.FnChanged', WHERE WHAT IT READS IS OF BULK AT MOST 1048576: true; the input reads as it did. -/
def fnChangedUptoRow : OpenClaim := { program := "ytjhijildaceadaagreatdoor", sum := "eb27847501b253449784a0a9e1856116fa1471ac755d94249e144f4eb621e8ea", func := "loop.example/g00553/laws.FnChanged", spec := "fnChanged", inPlace := ["internal/reflectlite.ValueOf", "(internal/reflectlite.Value).Type", "(internal/reflectlite.Value).IsNil", "internal/reflectlite.TypeOf", "(internal/reflectlite.Value).Elem", "(internal/reflectlite.Value).Set"], unfollowed := true, recurses := true, named := ["loop.example/g00553/impl.errRange", "loop.example/g00553/impl.errNone", "errors.errorType", "loop.example/g00553/impl.errState", "loop.example/g00553/impl.errFull", "loop.example/g00553/impl.errLast"], ifaces := true, apart := false, laid := [("errors.errorType", laid_errors_errorType), ("loop.example/g00553/impl.errNone", laid_loop_example_g00553_impl_errNone), ("loop.example/g00553/impl.errState", laid_loop_example_g00553_impl_errState), ("loop.example/g00553/impl.errRange", laid_loop_example_g00553_impl_errRange), ("loop.example/g00553/impl.errFull", laid_loop_example_g00553_impl_errFull), ("loop.example/g00553/impl.errLast", laid_loop_example_g00553_impl_errLast)], narrowed := true }
def FnChangedUptoSaid : Prop := fnChangedUptoRow.holds Tryz.pinned (OpenSpec.upto fnChangedSpec)

/-- 'laws.FnClosed', WHERE WHAT IT READS IS OF BULK AT MOST 1048576: true; the input reads as it did. -/
def fnClosedUptoRow : OpenClaim := { program := "ytjhijildaceadaagreatdoor", sum := "eb27847501b253449784a0a9e1856116fa1471ac755d94249e144f4eb621e8ea", func := "loop.example/g00553/laws.FnClosed", spec := "fnClosed", inPlace := ["internal/reflectlite.ValueOf", "(internal/reflectlite.Value).Type", "(internal/reflectlite.Value).IsNil", "internal/reflectlite.TypeOf", "(internal/reflectlite.Value).Elem", "(internal/reflectlite.Value).Set"], unfollowed := true, recurses := true, named := ["loop.example/g00553/impl.errState", "loop.example/g00553/impl.errLast", "loop.example/g00553/impl.errNone", "loop.example/g00553/impl.errRange", "errors.errorType", "loop.example/g00553/impl.errFull"], ifaces := true, apart := false, laid := [("errors.errorType", laid_errors_errorType), ("loop.example/g00553/impl.errNone", laid_loop_example_g00553_impl_errNone), ("loop.example/g00553/impl.errState", laid_loop_example_g00553_impl_errState), ("loop.example/g00553/impl.errRange", laid_loop_example_g00553_impl_errRange), ("loop.example/g00553/impl.errFull", laid_loop_example_g00553_impl_errFull), ("loop.example/g00553/impl.errLast", laid_loop_example_g00553_impl_errLast)], narrowed := true }
def FnClosedUptoSaid : Prop := fnClosedUptoRow.holds Tryz.pinned (OpenSpec.upto fnClosedSpec)

/-- 'laws.FnCome', WHERE WHAT IT READS IS OF BULK AT MOST 1048576: true; the input reads as it did. -/
def fnComeUptoRow : OpenClaim := { program := "ytjhijildaceadaagreatdoor", sum := "eb27847501b253449784a0a9e1856116fa1471ac755d94249e144f4eb621e8ea", func := "loop.example/g00553/laws.FnCome", spec := "fnCome", inPlace := ["internal/reflectlite.ValueOf", "(internal/reflectlite.Value).Type", "(internal/reflectlite.Value).IsNil", "internal/reflectlite.TypeOf", "(internal/reflectlite.Value).Elem", "(internal/reflectlite.Value).Set"], unfollowed := true, recurses := true, named := ["loop.example/g00553/impl.errRange", "loop.example/g00553/impl.errFull", "loop.example/g00553/impl.errState", "errors.errorType", "loop.example/g00553/impl.errNone", "loop.example/g00553/impl.errLast"], ifaces := true, apart := false, laid := [("errors.errorType", laid_errors_errorType), ("loop.example/g00553/impl.errNone", laid_loop_example_g00553_impl_errNone), ("loop.example/g00553/impl.errState", laid_loop_example_g00553_impl_errState), ("loop.example/g00553/impl.errRange", laid_loop_example_g00553_impl_errRange), ("loop.example/g00553/impl.errFull", laid_loop_example_g00553_impl_errFull), ("loop.example/g00553/impl.errLast", laid_loop_example_g00553_impl_errLast)], narrowed := true }
def FnComeUptoSaid : Prop := fnComeUptoRow.holds Tryz.pinned (OpenSpec.upto fnComeSpec)

/-- 'laws.FnWake', WHERE WHAT IT READS IS OF BULK AT MOST 1048576: true; the input reads as it did. -/
def fnWakeUptoRow : OpenClaim := { program := "ytjhijildaceadaagreatdoor", sum := "eb27847501b253449784a0a9e1856116fa1471ac755d94249e144f4eb621e8ea", func := "loop.example/g00553/laws.FnWake", spec := "fnWake", inPlace := ["internal/reflectlite.ValueOf", "(internal/reflectlite.Value).Type", "(internal/reflectlite.Value).IsNil", "internal/reflectlite.TypeOf", "(internal/reflectlite.Value).Elem", "(internal/reflectlite.Value).Set"], unfollowed := true, recurses := true, named := ["loop.example/g00553/impl.errNone", "loop.example/g00553/impl.errState", "loop.example/g00553/impl.errFull", "loop.example/g00553/impl.errRange", "errors.errorType", "loop.example/g00553/impl.errLast"], ifaces := true, apart := false, laid := [("errors.errorType", laid_errors_errorType), ("loop.example/g00553/impl.errNone", laid_loop_example_g00553_impl_errNone), ("loop.example/g00553/impl.errState", laid_loop_example_g00553_impl_errState), ("loop.example/g00553/impl.errRange", laid_loop_example_g00553_impl_errRange), ("loop.example/g00553/impl.errFull", laid_loop_example_g00553_impl_errFull), ("loop.example/g00553/impl.errLast", laid_loop_example_g00553_impl_errLast)], narrowed := true }
def FnWakeUptoSaid : Prop := fnWakeUptoRow.holds Tryz.pinned (OpenSpec.upto fnWakeSpec)

/-- 'laws.FnGoes', WHERE WHAT IT READS IS OF BULK AT MOST 1048576: true; the input reads as it did. -/
def fnGoesUptoRow : OpenClaim := { program := "ytjhijildaceadaagreatdoor", sum := "eb27847501b253449784a0a9e1856116fa1471ac755d94249e144f4eb621e8ea", func := "loop.example/g00553/laws.FnGoes", spec := "fnGoes", inPlace := ["internal/reflectlite.ValueOf", "(internal/reflectlite.Value).Type", "(internal/reflectlite.Value).IsNil", "internal/reflectlite.TypeOf", "(internal/reflectlite.Value).Elem", "(internal/reflectlite.Value).Set"], unfollowed := true, recurses := true, named := ["loop.example/g00553/impl.errNone", "loop.example/g00553/impl.errState", "loop.example/g00553/impl.errRange", "errors.errorType", "loop.example/g00553/impl.errFull", "loop.example/g00553/impl.errLast"], ifaces := true, apart := false, laid := [("errors.errorType", laid_errors_errorType), ("loop.example/g00553/impl.errNone", laid_loop_example_g00553_impl_errNone), ("loop.example/g00553/impl.errState", laid_loop_example_g00553_impl_errState), ("loop.example/g00553/impl.errRange", laid_loop_example_g00553_impl_errRange), ("loop.example/g00553/impl.errFull", laid_loop_example_g00553_impl_errFull), ("loop.example/g00553/impl.errLast", laid_loop_example_g00553_impl_errLast)], narrowed := true }
def FnGoesUptoSaid : Prop := fnGoesUptoRow.holds Tryz.pinned (OpenSpec.upto fnGoesSpec)

/-- 'laws.FnExactRanked', WHERE WHAT IT READS IS OF BULK AT MOST 1048576: true; the input reads as it did. -/
def fnExactRankedUptoRow : OpenClaim := { program := "ytjhijildaceadaagreatdoor", sum := "eb27847501b253449784a0a9e1856116fa1471ac755d94249e144f4eb621e8ea", func := "loop.example/g00553/laws.FnExactRanked", spec := "fnExactRanked", inPlace := ["internal/reflectlite.ValueOf", "(internal/reflectlite.Value).Type", "(internal/reflectlite.Value).IsNil", "internal/reflectlite.TypeOf", "(internal/reflectlite.Value).Elem", "(internal/reflectlite.Value).Set"], unfollowed := true, recurses := true, named := ["loop.example/g00553/impl.errRange", "loop.example/g00553/impl.errNone", "errors.errorType", "loop.example/g00553/impl.errState", "loop.example/g00553/impl.errFull", "loop.example/g00553/impl.errLast"], ifaces := true, apart := false, laid := [("errors.errorType", laid_errors_errorType), ("loop.example/g00553/impl.errNone", laid_loop_example_g00553_impl_errNone), ("loop.example/g00553/impl.errState", laid_loop_example_g00553_impl_errState), ("loop.example/g00553/impl.errRange", laid_loop_example_g00553_impl_errRange), ("loop.example/g00553/impl.errFull", laid_loop_example_g00553_impl_errFull), ("loop.example/g00553/impl.errLast", laid_loop_example_g00553_impl_errLast)], narrowed := true }
def FnExactRankedUptoSaid : Prop := fnExactRankedUptoRow.holds Tryz.pinned (OpenSpec.upto fnExactRankedSpec)

/-- 'laws.FnExactAllowed', WHERE WHAT IT READS IS OF BULK AT MOST 1048576: true; the input reads as it did. -/
def fnExactAllowedUptoRow : OpenClaim := { program := "ytjhijildaceadaagreatdoor", sum := "eb27847501b253449784a0a9e1856116fa1471ac755d94249e144f4eb621e8ea", func := "loop.example/g00553/laws.FnExactAllowed", spec := "fnExactAllowed", inPlace := ["internal/reflectlite.ValueOf", "(internal/reflectlite.Value).Type", "(internal/reflectlite.Value).IsNil", "internal/reflectlite.TypeOf", "(internal/reflectlite.Value).Elem", "(internal/reflectlite.Value).Set"], unfollowed := true, recurses := true, named := ["loop.example/g00553/impl.errRange", "loop.example/g00553/impl.errState", "loop.example/g00553/impl.errNone", "errors.errorType", "loop.example/g00553/impl.errFull", "loop.example/g00553/impl.errLast"], ifaces := true, apart := false, laid := [("errors.errorType", laid_errors_errorType), ("loop.example/g00553/impl.errNone", laid_loop_example_g00553_impl_errNone), ("loop.example/g00553/impl.errState", laid_loop_example_g00553_impl_errState), ("loop.example/g00553/impl.errRange", laid_loop_example_g00553_impl_errRange), ("loop.example/g00553/impl.errFull", laid_loop_example_g00553_impl_errFull), ("loop.example/g00553/impl.errLast", laid_loop_example_g00553_impl_errLast)], narrowed := true }
def FnExactAllowedUptoSaid : Prop := fnExactAllowedUptoRow.holds Tryz.pinned (OpenSpec.upto fnExactAllowedSpec)

/-- 'laws.FnExactLimited', WHERE WHAT IT READS IS OF BULK AT MOST 1048576: true; the input reads as it did. -/
def fnExactLimitedUptoRow : OpenClaim := { program := "ytjhijildaceadaagreatdoor", sum := "eb27847501b253449784a0a9e1856116fa1471ac755d94249e144f4eb621e8ea", func := "loop.example/g00553/laws.FnExactLimited", spec := "fnExactLimited", inPlace := ["internal/reflectlite.ValueOf", "(internal/reflectlite.Value).Type", "(internal/reflectlite.Value).IsNil", "internal/reflectlite.TypeOf", "(internal/reflectlite.Value).Elem", "(internal/reflectlite.Value).Set"], unfollowed := true, recurses := true, named := ["loop.example/g00553/impl.errRange", "loop.example/g00553/impl.errNone", "errors.errorType", "loop.example/g00553/impl.errState", "loop.example/g00553/impl.errFull", "loop.example/g00553/impl.errLast"], ifaces := true, apart := false, laid := [("errors.errorType", laid_errors_errorType), ("loop.example/g00553/impl.errNone", laid_loop_example_g00553_impl_errNone), ("loop.example/g00553/impl.errState", laid_loop_example_g00553_impl_errState), ("loop.example/g00553/impl.errRange", laid_loop_example_g00553_impl_errRange), ("loop.example/g00553/impl.errFull", laid_loop_example_g00553_impl_errFull), ("loop.example/g00553/impl.errLast", laid_loop_example_g00553_impl_errLast)], narrowed := true }
def FnExactLimitedUptoSaid : Prop := fnExactLimitedUptoRow.holds Tryz.pinned (OpenSpec.upto fnExactLimitedSpec)

/-- 'laws.FnExactClosed', WHERE WHAT IT READS IS OF BULK AT MOST 1048576: true; the input reads as it did. -/
def fnExactClosedUptoRow : OpenClaim := { program := "ytjhijildaceadaagreatdoor", sum := "eb27847501b253449784a0a9e1856116fa1471ac755d94249e144f4eb621e8ea", func := "loop.example/g00553/laws.FnExactClosed", spec := "fnExactClosed", inPlace := ["internal/reflectlite.ValueOf", "(internal/reflectlite.Value).Type", "(internal/reflectlite.Value).IsNil", "internal/reflectlite.TypeOf", "(internal/reflectlite.Value).Elem", "(internal/reflectlite.Value).Set"], unfollowed := true, recurses := true, named := ["loop.example/g00553/impl.errState", "loop.example/g00553/impl.errLast", "loop.example/g00553/impl.errNone", "loop.example/g00553/impl.errRange", "errors.errorType", "loop.example/g00553/impl.errFull"], ifaces := true, apart := false, laid := [("errors.errorType", laid_errors_errorType), ("loop.example/g00553/impl.errNone", laid_loop_example_g00553_impl_errNone), ("loop.example/g00553/impl.errState", laid_loop_example_g00553_impl_errState), ("loop.example/g00553/impl.errRange", laid_loop_example_g00553_impl_errRange), ("loop.example/g00553/impl.errFull", laid_loop_example_g00553_impl_errFull), ("loop.example/g00553/impl.errLast", laid_loop_example_g00553_impl_errLast)], narrowed := true }
def FnExactClosedUptoSaid : Prop := fnExactClosedUptoRow.holds Tryz.pinned (OpenSpec.upto fnExactClosedSpec)

/-- 'laws.FnExactOpened', WHERE WHAT IT READS IS OF BULK AT MOST 1048576: true; the input reads as it did. -/
def fnExactOpenedUptoRow : OpenClaim := { program := "ytjhijildaceadaagreatdoor", sum := "eb27847501b253449784a0a9e1856116fa1471ac755d94249e144f4eb621e8ea", func := "loop.example/g00553/laws.FnExactOpened", spec := "fnExactOpened", inPlace := ["internal/reflectlite.ValueOf", "(internal/reflectlite.Value).Type", "(internal/reflectlite.Value).IsNil", "internal/reflectlite.TypeOf", "(internal/reflectlite.Value).Elem", "(internal/reflectlite.Value).Set"], unfollowed := true, recurses := true, named := ["loop.example/g00553/impl.errState", "loop.example/g00553/impl.errNone", "loop.example/g00553/impl.errRange", "errors.errorType", "loop.example/g00553/impl.errFull", "loop.example/g00553/impl.errLast"], ifaces := true, apart := false, laid := [("errors.errorType", laid_errors_errorType), ("loop.example/g00553/impl.errNone", laid_loop_example_g00553_impl_errNone), ("loop.example/g00553/impl.errState", laid_loop_example_g00553_impl_errState), ("loop.example/g00553/impl.errRange", laid_loop_example_g00553_impl_errRange), ("loop.example/g00553/impl.errFull", laid_loop_example_g00553_impl_errFull), ("loop.example/g00553/impl.errLast", laid_loop_example_g00553_impl_errLast)], narrowed := true }
def FnExactOpenedUptoSaid : Prop := fnExactOpenedUptoRow.holds Tryz.pinned (OpenSpec.upto fnExactOpenedSpec)

end Rows
end Go.Proofs.YtjhijildaceadaaGreatDoor
