/-
  NARROWER THAN 'FOR EVERY INPUT', by the rows' own cells (each row's printed sentence says how): FnCome: ifaces, laid · FnWake: ifaces, laid · FnChanged: ifaces, laid · FnClosed: ifaces, laid.
  DERIVED. THE GIVEN ROWS OF THIS SEAT. 4 by the template 'for every input the law returns true; each argument reads behind the call as it read before'; 0 by the template 'total and deterministic' (their statements: YtamgfpdahadnfaaGreatDoorTotals.lean).
  GIVEN WITH THE SEED: the statements are not yours to turn. If you find one false, say at which input.
  Laid BY PROGRAM, IN A SANDBOX (cutbox-rows.mjs): the forced cells as the released guide's own fill.sh prints them over the translation 012fe164adc5e5fa… (all of the seat's roots in one cut). By AI agents, Wed Nov 11 2026. No macro, syntax, notation, axiom, sorry.
-/
import Derived.Test.YtamgfpdahadnfaaGreatDoorChecked
import GoSem.Claim
import GoSem.ClaimJoined
import GoSem.ClaimMapViews
import Derived.JoinedTies
import Derived.KernelRfl
namespace Go.Proofs.YtamgfpdahadnfaaGreatDoor
/- THE CELL 'sum', in the pinned program and in every row, IS THE sha256 OF THE DUMP (.gsa) THAT YtamgfpdahadnfaaGreatDoorProg.lean LOADS. Nothing in Lean hashes anything: it is a label: what it is worth is what the hold of that sum in a sandbox is worth. -/
noncomputable def Tryz.pinned : Pinned := { name := "ytamgfpdahadnfaagreatdoor", sum := "012fe164adc5e5fa6aa568c641941f6596157efa32540edc0075e56c8883d331", checked := Tryz.checked }
namespace Rows
def none {H : Type} : Left H := { results := [], args := [] }

/- WHAT THE LISTED PACKAGE-LEVEL VARIABLES READ AS WHEN THE CALL BEGINS. Each datum BY PROGRAM (the guide's laid-datum.mjs) off the statement by which the dump's own 'gosem.cut.vars' lays the variable. In a bare row this is a premise. The card (YtamgfpdahadnfaaGreatDoorCards.lean) ties it to the program's text. -/
def laid_errors_errorType {H : Type} : DataW H := .iface "internal/reflectlite.rtype" (.agg [.ptr (.lit (.string [101, 114, 114, 111, 114]))])
def laid_loop_example_g00553_impl_errNone {H : Type} : DataW H := .iface "*errors.errorString" (.ptr (.agg [.lit (.string [116, 104, 101, 114, 101, 32, 105, 115, 32, 110, 111, 32, 115, 117, 99, 104, 32, 111, 110, 101])]))
def laid_loop_example_g00553_impl_errState {H : Type} : DataW H := .iface "*errors.errorString" (.ptr (.agg [.lit (.string [110, 111, 116, 32, 97, 115, 32, 105, 116, 32, 105, 115, 32, 110, 111, 119])]))
def laid_loop_example_g00553_impl_errRange {H : Type} : DataW H := .iface "*errors.errorString" (.ptr (.agg [.lit (.string [111, 117, 116, 32, 111, 102, 32, 114, 97, 110, 103, 101])]))
def laid_loop_example_g00553_impl_errFull {H : Type} : DataW H := .iface "*errors.errorString" (.ptr (.agg [.lit (.string [116, 104, 101, 114, 101, 32, 105, 115, 32, 110, 111, 32, 114, 111, 111, 109])]))
def laid_loop_example_g00553_impl_errLast {H : Type} : DataW H := .iface "*errors.errorString" (.ptr (.agg [.lit (.string [116, 104, 101, 114, 101, 32, 105, 115, 32, 110, 111, 32, 111, 116, 104, 101, 114, 32, 111, 110, 101])]))

/-- 'laws.FnCome': WHATEVER THE INPUT: true; the input reads as it did. -/
def fnComeSpec : ChangeSpec := { name := "fnCome", vars := ["loop.example/g00553/impl.errRange", "loop.example/g00553/impl.errFull", "loop.example/g00553/impl.errState", "loop.example/g00553/impl.errNone", "loop.example/g00553/impl.errLast"], fn := fun _ => fun
  | [d, g1, g2, g3, g4, g5] => { results := [.lit (.bool true)], args := [d], vars := [g1, g2, g3, g4, g5] }
  | _ => none }
def fnComeRow : OpenClaim := { program := "ytamgfpdahadnfaagreatdoor", sum := "012fe164adc5e5fa6aa568c641941f6596157efa32540edc0075e56c8883d331", func := "loop.example/g00553/laws.FnCome", spec := "fnCome", inPlace := ["internal/reflectlite.ValueOf", "(internal/reflectlite.Value).Type", "(internal/reflectlite.Value).IsNil", "internal/reflectlite.TypeOf", "(internal/reflectlite.Value).Elem", "(internal/reflectlite.Value).Set"], unfollowed := true, recurses := true, named := ["loop.example/g00553/impl.errRange", "loop.example/g00553/impl.errFull", "loop.example/g00553/impl.errState", "errors.errorType", "loop.example/g00553/impl.errNone", "loop.example/g00553/impl.errLast"], ifaces := true, apart := false, laid := [("errors.errorType", laid_errors_errorType), ("loop.example/g00553/impl.errNone", laid_loop_example_g00553_impl_errNone), ("loop.example/g00553/impl.errState", laid_loop_example_g00553_impl_errState), ("loop.example/g00553/impl.errRange", laid_loop_example_g00553_impl_errRange), ("loop.example/g00553/impl.errFull", laid_loop_example_g00553_impl_errFull), ("loop.example/g00553/impl.errLast", laid_loop_example_g00553_impl_errLast)] }
def FnComeSaid : Prop := fnComeRow.holds Tryz.pinned (OpenSpec.ofChange fnComeSpec)

/-- ITS FALSE NEIGHBOUR: 'it returns false'. Refute it at one input. -/
def fnComeWrong : ChangeSpec := { name := "fnCome", vars := ["loop.example/g00553/impl.errRange", "loop.example/g00553/impl.errFull", "loop.example/g00553/impl.errState", "loop.example/g00553/impl.errNone", "loop.example/g00553/impl.errLast"], fn := fun _ => fun
  | [d, g1, g2, g3, g4, g5] => { results := [.lit (.bool false)], args := [d], vars := [g1, g2, g3, g4, g5] }
  | _ => none }
def FnComeWrongFalsely : Prop := fnComeRow.holds Tryz.pinned (OpenSpec.ofChange fnComeWrong)

/-- 'laws.FnWake': WHATEVER THE INPUT: true; the input reads as it did. -/
def fnWakeSpec : ChangeSpec := { name := "fnWake", vars := ["loop.example/g00553/impl.errNone", "loop.example/g00553/impl.errState", "loop.example/g00553/impl.errFull", "loop.example/g00553/impl.errRange", "loop.example/g00553/impl.errLast"], fn := fun _ => fun
  | [d, g1, g2, g3, g4, g5] => { results := [.lit (.bool true)], args := [d], vars := [g1, g2, g3, g4, g5] }
  | _ => none }
def fnWakeRow : OpenClaim := { program := "ytamgfpdahadnfaagreatdoor", sum := "012fe164adc5e5fa6aa568c641941f6596157efa32540edc0075e56c8883d331", func := "loop.example/g00553/laws.FnWake", spec := "fnWake", inPlace := ["internal/reflectlite.ValueOf", "(internal/reflectlite.Value).Type", "(internal/reflectlite.Value).IsNil", "internal/reflectlite.TypeOf", "(internal/reflectlite.Value).Elem", "(internal/reflectlite.Value).Set"], unfollowed := true, recurses := true, named := ["loop.example/g00553/impl.errNone", "loop.example/g00553/impl.errState", "loop.example/g00553/impl.errFull", "loop.example/g00553/impl.errRange", "errors.errorType", "loop.example/g00553/impl.errLast"], ifaces := true, apart := false, laid := [("errors.errorType", laid_errors_errorType), ("loop.example/g00553/impl.errNone", laid_loop_example_g00553_impl_errNone), ("loop.example/g00553/impl.errState", laid_loop_example_g00553_impl_errState), ("loop.example/g00553/impl.errRange", laid_loop_example_g00553_impl_errRange), ("loop.example/g00553/impl.errFull", laid_loop_example_g00553_impl_errFull), ("loop.example/g00553/impl.errLast", laid_loop_example_g00553_impl_errLast)] }
def FnWakeSaid : Prop := fnWakeRow.holds Tryz.pinned (OpenSpec.ofChange fnWakeSpec)

/-- ITS FALSE NEIGHBOUR: 'it returns false'. Refute it at one input. -/
def fnWakeWrong : ChangeSpec := { name := "fnWake", vars := ["loop.example/g00553/impl.errNone", "loop.example/g00553/impl.errState", "loop.example/g00553/impl.errFull", "loop.example/g00553/impl.errRange", "loop.example/g00553/impl.errLast"], fn := fun _ => fun
  | [d, g1, g2, g3, g4, g5] => { results := [.lit (.bool false)], args := [d], vars := [g1, g2, g3, g4, g5] }
  | _ => none }
def FnWakeWrongFalsely : Prop := fnWakeRow.holds Tryz.pinned (OpenSpec.ofChange fnWakeWrong)

/-- 'laws.FnChanged': WHATEVER THE INPUT: true; the input reads as it did. -/
def fnChangedSpec : ChangeSpec := { name := "fnChanged", vars := ["loop.example/g00553/impl.errRange", "loop.example/g00553/impl.errNone", "loop.example/g00553/impl.errState", "loop.example/g00553/impl.errFull", "loop.example/g00553/impl.errLast"], fn := fun _ => fun
  | [d, g1, g2, g3, g4, g5] => { results := [.lit (.bool true)], args := [d], vars := [g1, g2, g3, g4, g5] }
  | _ => none }
def fnChangedRow : OpenClaim := { program := "ytamgfpdahadnfaagreatdoor", sum := "012fe164adc5e5fa6aa568c641941f6596157efa32540edc0075e56c8883d331", func := "loop.example/g00553/laws.FnChanged", spec := "fnChanged", inPlace := ["internal/reflectlite.ValueOf", "(internal/reflectlite.Value).Type", "(internal/reflectlite.Value).IsNil", "internal/reflectlite.TypeOf", "(internal/reflectlite.Value).Elem", "(internal/reflectlite.Value).Set"], unfollowed := true, recurses := true, named := ["loop.example/g00553/impl.errRange", "loop.example/g00553/impl.errNone", "errors.errorType", "loop.example/g00553/impl.errState", "loop.example/g00553/impl.errFull", "loop.example/g00553/impl.errLast"], ifaces := true, apart := false, laid := [("errors.errorType", laid_errors_errorType), ("loop.example/g00553/impl.errNone", laid_loop_example_g00553_impl_errNone), ("loop.example/g00553/impl.errState", laid_loop_example_g00553_impl_errState), ("loop.example/g00553/impl.errRange", laid_loop_example_g00553_impl_errRange), ("loop.example/g00553/impl.errFull", laid_loop_example_g00553_impl_errFull), ("loop.example/g00553/impl.errLast", laid_loop_example_g00553_impl_errLast)] }
def FnChangedSaid : Prop := fnChangedRow.holds Tryz.pinned (OpenSpec.ofChange fnChangedSpec)

/-- ITS FALSE NEIGHBOUR: 'it returns false'. Refute it at one input. -/
def fnChangedWrong : ChangeSpec := { name := "fnChanged", vars := ["loop.example/g00553/impl.errRange", "loop.example/g00553/impl.errNone", "loop.example/g00553/impl.errState", "loop.example/g00553/impl.errFull", "loop.example/g00553/impl.errLast"], fn := fun _ => fun
  | [d, g1, g2, g3, g4, g5] => { results := [.lit (.bool false)], args := [d], vars := [g1, g2, g3, g4, g5] }
  | _ => none }
def FnChangedWrongFalsely : Prop := fnChangedRow.holds Tryz.pinned (OpenSpec.ofChange fnChangedWrong)

/-- 'laws.FnClosed': WHATEVER THE INPUT: true; the input reads as it did. -/
def fnClosedSpec : ChangeSpec := { name := "fnClosed", vars := ["loop.example/g00553/impl.errState", "loop.example/g00553/impl.errLast", "loop.example/g00553/impl.errNone", "loop.example/g00553/impl.errRange", "loop.example/g00553/impl.errFull"], fn := fun _ => fun
  | [d, g1, g2, g3, g4, g5] => { results := [.lit (.bool true)], args := [d], vars := [g1, g2, g3, g4, g5] }
  | _ => none }
def fnClosedRow : OpenClaim := { program := "ytamgfpdahadnfaagreatdoor", sum := "012fe164adc5e5fa6aa568c641941f6596157efa32540edc0075e56c8883d331", func := "loop.example/g00553/laws.FnClosed", spec := "fnClosed", inPlace := ["internal/reflectlite.ValueOf", "(internal/reflectlite.Value).Type", "(internal/reflectlite.Value).IsNil", "internal/reflectlite.TypeOf", "(internal/reflectlite.Value).Elem", "(internal/reflectlite.Value).Set"], unfollowed := true, recurses := true, named := ["loop.example/g00553/impl.errState", "loop.example/g00553/impl.errLast", "loop.example/g00553/impl.errNone", "loop.example/g00553/impl.errRange", "errors.errorType", "loop.example/g00553/impl.errFull"], ifaces := true, apart := false, laid := [("errors.errorType", laid_errors_errorType), ("loop.example/g00553/impl.errNone", laid_loop_example_g00553_impl_errNone), ("loop.example/g00553/impl.errState", laid_loop_example_g00553_impl_errState), ("loop.example/g00553/impl.errRange", laid_loop_example_g00553_impl_errRange), ("loop.example/g00553/impl.errFull", laid_loop_example_g00553_impl_errFull), ("loop.example/g00553/impl.errLast", laid_loop_example_g00553_impl_errLast)] }
def FnClosedSaid : Prop := fnClosedRow.holds Tryz.pinned (OpenSpec.ofChange fnClosedSpec)

/-- ITS FALSE NEIGHBOUR: 'it returns false'. Refute it at one input. -/
def fnClosedWrong : ChangeSpec := { name := "fnClosed", vars := ["loop.example/g00553/impl.errState", "loop.example/g00553/impl.errLast", "loop.example/g00553/impl.errNone", "loop.example/g00553/impl.errRange", "loop.example/g00553/impl.errFull"], fn := fun _ => fun
  | [d, g1, g2, g3, g4, g5] => { results := [.lit (.bool false)], args := [d], vars := [g1, g2, g3, g4, g5] }
  | _ => none }
def FnClosedWrongFalsely : Prop := fnClosedRow.holds Tryz.pinned (OpenSpec.ofChange fnClosedWrong)

/- THE SECOND FORM. 'bulk': how many values and letters a reading holds, each counted each time it is reached (what is shared counts as often as it is met; a slice's spare places count too). A statement '..UptoSaid' is the law's where the arguments, and the package variables that the reading takes, are together of bulk at most 1048576: NARROWER than '..Said'. Prove '..Said' where nothing that the law and all that it calls make is longer than what came in: it says more and counts as full. Else prove '..UptoSaid'. A law counts once. -/
mutual
def uptoBulk {H : Type} : DataW H → Nat
  | .lit (.string bytes) => bytes.length + 1
  | .lit _ => 1
  | .nil => 1
  | .ptr d => uptoBulk d + 1
  | .slice elems spare => uptoBulkAll elems + uptoBulkAll spare + 1
  | .agg parts => uptoBulkAll parts + 1
  | .iface _ d => uptoBulk d + 1
  | .map entries => uptoBulkEntries entries + 1
  | .held _ => 1
def uptoBulkAll {H : Type} : List (DataW H) → Nat
  | [] => 0
  | d :: r => uptoBulk d + uptoBulkAll r
def uptoBulkEntries {H : Type} : List (Lit × DataW H) → Nat
  | [] => 0
  | x :: r => uptoBulkEntry x + uptoBulkEntries r
def uptoBulkEntry {H : Type} : Lit × DataW H → Nat
  | (.string bytes, d) => bytes.length + uptoBulk d + 1
  | (_, d) => uptoBulk d + 1
 end
def uptoSmall : (H : Type) → List (DataW H) → Bool := fun _ ds => decide (uptoBulkAll ds ≤ 1048576)
def OpenSpec.upto (s : _root_.Go.ChangeSpec) : _root_.Go.OpenSpec := { _root_.Go.OpenSpec.ofChange s with cond := some uptoSmall }

/-- 'laws.FnCome', WHERE WHAT IT READS IS OF BULK AT MOST 1048576: true; the input reads as it did. -/
def fnComeUptoRow : OpenClaim := { program := "ytamgfpdahadnfaagreatdoor", sum := "012fe164adc5e5fa6aa568c641941f6596157efa32540edc0075e56c8883d331", func := "loop.example/g00553/laws.FnCome", spec := "fnCome", inPlace := ["internal/reflectlite.ValueOf", "(internal/reflectlite.Value).Type", "(internal/reflectlite.Value).IsNil", "internal/reflectlite.TypeOf", "(internal/reflectlite.Value).Elem", "(internal/reflectlite.Value).Set"], unfollowed := true, recurses := true, named := ["loop.example/g00553/impl.errRange", "loop.example/g00553/impl.errFull", "loop.example/g00553/impl.errState", "errors.errorType", "loop.example/g00553/impl.errNone", "loop.example/g00553/impl.errLast"], ifaces := true, apart := false, laid := [("errors.errorType", laid_errors_errorType), ("loop.example/g00553/impl.errNone", laid_loop_example_g00553_impl_errNone), ("loop.example/g00553/impl.errState", laid_loop_example_g00553_impl_errState), ("loop.example/g00553/impl.errRange", laid_loop_example_g00553_impl_errRange), ("loop.example/g00553/impl.errFull", laid_loop_example_g00553_impl_errFull), ("loop.example/g00553/impl.errLast", laid_loop_example_g00553_impl_errLast)], narrowed := true }
def FnComeUptoSaid : Prop := fnComeUptoRow.holds Tryz.pinned (OpenSpec.upto fnComeSpec)

/-- 'laws.FnWake', WHERE WHAT IT READS IS OF BULK AT MOST 1048576: true; the input reads as it did. -/
def fnWakeUptoRow : OpenClaim := { program := "ytamgfpdahadnfaagreatdoor", sum := "012fe164adc5e5fa6aa568c641941f6596157efa32540edc0075e56c8883d331", func := "loop.example/g00553/laws.FnWake", spec := "fnWake", inPlace := ["internal/reflectlite.ValueOf", "(internal/reflectlite.Value).Type", "(internal/reflectlite.Value).IsNil", "internal/reflectlite.TypeOf", "(internal/reflectlite.Value).Elem", "(internal/reflectlite.Value).Set"], unfollowed := true, recurses := true, named := ["loop.example/g00553/impl.errNone", "loop.example/g00553/impl.errState", "loop.example/g00553/impl.errFull", "loop.example/g00553/impl.errRange", "errors.errorType", "loop.example/g00553/impl.errLast"], ifaces := true, apart := false, laid := [("errors.errorType", laid_errors_errorType), ("loop.example/g00553/impl.errNone", laid_loop_example_g00553_impl_errNone), ("loop.example/g00553/impl.errState", laid_loop_example_g00553_impl_errState), ("loop.example/g00553/impl.errRange", laid_loop_example_g00553_impl_errRange), ("loop.example/g00553/impl.errFull", laid_loop_example_g00553_impl_errFull), ("loop.example/g00553/impl.errLast", laid_loop_example_g00553_impl_errLast)], narrowed := true }
def FnWakeUptoSaid : Prop := fnWakeUptoRow.holds Tryz.pinned (OpenSpec.upto fnWakeSpec)

/-- 'laws.FnChanged', WHERE WHAT IT READS IS OF BULK AT MOST 1048576: true; the input reads as it did. -/
def fnChangedUptoRow : OpenClaim := { program := "ytamgfpdahadnfaagreatdoor", sum := "012fe164adc5e5fa6aa568c641941f6596157efa32540edc0075e56c8883d331", func := "loop.example/g00553/laws.FnChanged", spec := "fnChanged", inPlace := ["internal/reflectlite.ValueOf", "(internal/reflectlite.Value).Type", "(internal/reflectlite.Value).IsNil", "internal/reflectlite.TypeOf", "(internal/reflectlite.Value).Elem", "(internal/reflectlite.Value).Set"], unfollowed := true, recurses := true, named := ["loop.example/g00553/impl.errRange", "loop.example/g00553/impl.errNone", "errors.errorType", "loop.example/g00553/impl.errState", "loop.example/g00553/impl.errFull", "loop.example/g00553/impl.errLast"], ifaces := true, apart := false, laid := [("errors.errorType", laid_errors_errorType), ("loop.example/g00553/impl.errNone", laid_loop_example_g00553_impl_errNone), ("loop.example/g00553/impl.errState", laid_loop_example_g00553_impl_errState), ("loop.example/g00553/impl.errRange", laid_loop_example_g00553_impl_errRange), ("loop.example/g00553/impl.errFull", laid_loop_example_g00553_impl_errFull), ("loop.example/g00553/impl.errLast", laid_loop_example_g00553_impl_errLast)], narrowed := true }
def FnChangedUptoSaid : Prop := fnChangedUptoRow.holds Tryz.pinned (OpenSpec.upto fnChangedSpec)

/-- 'laws.FnClosed', WHERE WHAT IT READS IS OF BULK AT MOST 1048576: true; the input reads as it did. -/
def fnClosedUptoRow : OpenClaim := { program := "ytamgfpdahadnfaagreatdoor", sum := "012fe164adc5e5fa6aa568c641941f6596157efa32540edc0075e56c8883d331", func := "loop.example/g00553/laws.FnClosed", spec := "fnClosed", inPlace := ["internal/reflectlite.ValueOf", "(internal/reflectlite.Value).Type", "(internal/reflectlite.Value).IsNil", "internal/reflectlite.TypeOf", "(internal/reflectlite.Value).Elem", "(internal/reflectlite.Value).Set"], unfollowed := true, recurses := true, named := ["loop.example/g00553/impl.errState", "loop.example/g00553/impl.errLast", "loop.example/g00553/impl.errNone", "loop.example/g00553/impl.errRange", "errors.errorType", "loop.example/g00553/impl.errFull"], ifaces := true, apart := false, laid := [("errors.errorType", laid_errors_errorType), ("loop.example/g00553/impl.errNone", laid_loop_example_g00553_impl_errNone), ("loop.example/g00553/impl.errState", laid_loop_example_g00553_impl_errState), ("loop.example/g00553/impl.errRange", laid_loop_example_g00553_impl_errRange), ("loop.example/g00553/impl.errFull", laid_loop_example_g00553_impl_errFull), ("loop.example/g00553/impl.errLast", laid_loop_example_g00553_impl_errLast)], narrowed := true }
def FnClosedUptoSaid : Prop := fnClosedUptoRow.holds Tryz.pinned (OpenSpec.upto fnClosedSpec)

end Rows
end Go.Proofs.YtamgfpdahadnfaaGreatDoor
