/-
  NARROWER THAN 'FOR EVERY INPUT', by the rows' own cells (each row's printed sentence says how): FnTicked: ifaces, laid · FnWanted: ifaces, laid · FnExactTicked: ifaces, laid · FnExactGranted: ifaces, laid.
  DERIVED. THE GIVEN ROWS OF THIS SEAT. 4 by the template 'for every input the law returns true; each argument reads behind the call as it read before'; 0 by the template 'total and deterministic' (their statements: YtffcgajndmhpkaaGreatDoorTotals.lean).
  GIVEN WITH THE SEED: the statements are not yours to turn. If you find one false, say at which input.
  Laid BY PROGRAM, IN A SANDBOX (cutbox-rows.mjs): the forced cells as the released guide's own fill.sh prints them over the translation ac73113420eed592… (all of the seat's roots in one cut). By AI agents, Wed Nov 11 2026. No macro, syntax, notation, axiom, sorry.
-/
import Derived.Test.YtffcgajndmhpkaaGreatDoorChecked
import GoSem.Claim
import GoSem.ClaimJoined
import GoSem.ClaimMapViews
import Derived.JoinedTies
import Derived.KernelRfl
namespace Go.Proofs.YtffcgajndmhpkaaGreatDoor
/- THE CELL 'sum', in the pinned program and in every row, IS THE sha256 OF THE DUMP (.gsa) THAT YtffcgajndmhpkaaGreatDoorProg.lean LOADS. Nothing in Lean hashes anything: it is a label: what it is worth is what the hold of that sum in a sandbox is worth. -/
noncomputable def Tryz.pinned : Pinned := { name := "ytffcgajndmhpkaagreatdoor", sum := "ac73113420eed592b94b21812bfccb257e6ceeec857b793e35796348bc389330", checked := Tryz.checked }
namespace Rows
def none {H : Type} : Left H := { results := [], args := [] }

/- WHAT THE LISTED PACKAGE-LEVEL VARIABLES READ AS WHEN THE CALL BEGINS. Each datum BY PROGRAM (the guide's laid-datum.mjs) off the statement by which the dump's own 'gosem.cut.vars' lays the variable. In a bare row this is a premise. The card (YtffcgajndmhpkaaGreatDoorCards.lean) ties it to the program's text. -/
def laid_errors_errorType {H : Type} : DataW H := .iface "internal/reflectlite.rtype" (.agg [.ptr (.lit (.string [101, 114, 114, 111, 114]))])
def laid_loop_example_g00553_impl_errNone {H : Type} : DataW H := .iface "*errors.errorString" (.ptr (.agg [.lit (.string [116, 104, 101, 114, 101, 32, 105, 115, 32, 110, 111, 32, 115, 117, 99, 104, 32, 111, 110, 101])]))
def laid_loop_example_g00553_impl_errState {H : Type} : DataW H := .iface "*errors.errorString" (.ptr (.agg [.lit (.string [110, 111, 116, 32, 97, 115, 32, 105, 116, 32, 105, 115, 32, 110, 111, 119])]))
def laid_loop_example_g00553_impl_errRange {H : Type} : DataW H := .iface "*errors.errorString" (.ptr (.agg [.lit (.string [111, 117, 116, 32, 111, 102, 32, 114, 97, 110, 103, 101])]))
def laid_loop_example_g00553_impl_errFull {H : Type} : DataW H := .iface "*errors.errorString" (.ptr (.agg [.lit (.string [116, 104, 101, 114, 101, 32, 105, 115, 32, 110, 111, 32, 114, 111, 111, 109])]))
def laid_loop_example_g00553_impl_errLast {H : Type} : DataW H := .iface "*errors.errorString" (.ptr (.agg [.lit (.string [116, 104, 101, 114, 101, 32, 105, 115, 32, 110, 111, 32, 111, 116, 104, 101, 114, 32, 111, 110, 101])]))

/-- 'laws.FnTicked': WHATEVER THE INPUT: true; the input reads as it did. -/
def fnTickedSpec : ChangeSpec := { name := "fnTicked", vars := ["loop.example/g00553/impl.errRange", "loop.example/g00553/impl.errFull", "loop.example/g00553/impl.errNone", "loop.example/g00553/impl.errState", "loop.example/g00553/impl.errLast"], fn := fun _ => fun
  | [d, g1, g2, g3, g4, g5] => { results := [.lit (.bool true)], args := [d], vars := [g1, g2, g3, g4, g5] }
  | _ => none }
def fnTickedRow : OpenClaim := { program := "ytffcgajndmhpkaagreatdoor", sum := "ac73113420eed592b94b21812bfccb257e6ceeec857b793e35796348bc389330", func := "loop.example/g00553/laws.FnTicked", spec := "fnTicked", inPlace := ["internal/reflectlite.ValueOf", "(internal/reflectlite.Value).Type", "(internal/reflectlite.Value).IsNil", "internal/reflectlite.TypeOf", "(internal/reflectlite.Value).Elem", "(internal/reflectlite.Value).Set"], unfollowed := true, recurses := true, named := ["loop.example/g00553/impl.errRange", "loop.example/g00553/impl.errFull", "errors.errorType", "loop.example/g00553/impl.errNone", "loop.example/g00553/impl.errState", "loop.example/g00553/impl.errLast"], ifaces := true, apart := false, laid := [("errors.errorType", laid_errors_errorType), ("loop.example/g00553/impl.errNone", laid_loop_example_g00553_impl_errNone), ("loop.example/g00553/impl.errState", laid_loop_example_g00553_impl_errState), ("loop.example/g00553/impl.errRange", laid_loop_example_g00553_impl_errRange), ("loop.example/g00553/impl.errFull", laid_loop_example_g00553_impl_errFull), ("loop.example/g00553/impl.errLast", laid_loop_example_g00553_impl_errLast)] }
def FnTickedSaid : Prop := fnTickedRow.holds Tryz.pinned (OpenSpec.ofChange fnTickedSpec)

/-- ITS FALSE NEIGHBOUR: 'it returns false'. Refute it at one input. -/
def fnTickedWrong : ChangeSpec := { name := "fnTicked", vars := ["loop.example/g00553/impl.errRange", "loop.example/g00553/impl.errFull", "loop.example/g00553/impl.errNone", "loop.example/g00553/impl.errState", "loop.example/g00553/impl.errLast"], fn := fun _ => fun
  | [d, g1, g2, g3, g4, g5] => { results := [.lit (.bool false)], args := [d], vars := [g1, g2, g3, g4, g5] }
  | _ => none }
def FnTickedWrongFalsely : Prop := fnTickedRow.holds Tryz.pinned (OpenSpec.ofChange fnTickedWrong)

/-- 'laws.FnWanted': WHATEVER THE INPUT: true; the input reads as it did. -/
def fnWantedSpec : ChangeSpec := { name := "fnWanted", vars := ["loop.example/g00553/impl.errNone", "loop.example/g00553/impl.errRange", "loop.example/g00553/impl.errState", "loop.example/g00553/impl.errFull", "loop.example/g00553/impl.errLast"], fn := fun _ => fun
  | [d, g1, g2, g3, g4, g5] => { results := [.lit (.bool true)], args := [d], vars := [g1, g2, g3, g4, g5] }
  | _ => none }
def fnWantedRow : OpenClaim := { program := "ytffcgajndmhpkaagreatdoor", sum := "ac73113420eed592b94b21812bfccb257e6ceeec857b793e35796348bc389330", func := "loop.example/g00553/laws.FnWanted", spec := "fnWanted", inPlace := ["internal/reflectlite.ValueOf", "(internal/reflectlite.Value).Type", "(internal/reflectlite.Value).IsNil", "internal/reflectlite.TypeOf", "(internal/reflectlite.Value).Elem", "(internal/reflectlite.Value).Set"], unfollowed := true, recurses := true, named := ["loop.example/g00553/impl.errNone", "loop.example/g00553/impl.errRange", "errors.errorType", "loop.example/g00553/impl.errState", "loop.example/g00553/impl.errFull", "loop.example/g00553/impl.errLast"], ifaces := true, apart := false, laid := [("errors.errorType", laid_errors_errorType), ("loop.example/g00553/impl.errNone", laid_loop_example_g00553_impl_errNone), ("loop.example/g00553/impl.errState", laid_loop_example_g00553_impl_errState), ("loop.example/g00553/impl.errRange", laid_loop_example_g00553_impl_errRange), ("loop.example/g00553/impl.errFull", laid_loop_example_g00553_impl_errFull), ("loop.example/g00553/impl.errLast", laid_loop_example_g00553_impl_errLast)] }
def FnWantedSaid : Prop := fnWantedRow.holds Tryz.pinned (OpenSpec.ofChange fnWantedSpec)

/-- ITS FALSE NEIGHBOUR: 'it returns false'. Refute it at one input. -/
def fnWantedWrong : ChangeSpec := { name := "fnWanted", vars := ["loop.example/g00553/impl.errNone", "loop.example/g00553/impl.errRange", "loop.example/g00553/impl.errState", "loop.example/g00553/impl.errFull", "loop.example/g00553/impl.errLast"], fn := fun _ => fun
  | [d, g1, g2, g3, g4, g5] => { results := [.lit (.bool false)], args := [d], vars := [g1, g2, g3, g4, g5] }
  | _ => none }
def FnWantedWrongFalsely : Prop := fnWantedRow.holds Tryz.pinned (OpenSpec.ofChange fnWantedWrong)

/-- 'laws.FnExactTicked': WHATEVER THE INPUT: true; the input reads as it did. -/
def fnExactTickedSpec : ChangeSpec := { name := "fnExactTicked", vars := ["loop.example/g00553/impl.errRange", "loop.example/g00553/impl.errFull", "loop.example/g00553/impl.errNone", "loop.example/g00553/impl.errState", "loop.example/g00553/impl.errLast"], fn := fun _ => fun
  | [d1, d2, g1, g2, g3, g4, g5] => { results := [.lit (.bool true)], args := [d1, d2], vars := [g1, g2, g3, g4, g5] }
  | _ => none }
def fnExactTickedRow : OpenClaim := { program := "ytffcgajndmhpkaagreatdoor", sum := "ac73113420eed592b94b21812bfccb257e6ceeec857b793e35796348bc389330", func := "loop.example/g00553/laws.FnExactTicked", spec := "fnExactTicked", inPlace := ["internal/reflectlite.ValueOf", "(internal/reflectlite.Value).Type", "(internal/reflectlite.Value).IsNil", "internal/reflectlite.TypeOf", "(internal/reflectlite.Value).Elem", "(internal/reflectlite.Value).Set"], unfollowed := true, recurses := true, named := ["loop.example/g00553/impl.errRange", "loop.example/g00553/impl.errFull", "errors.errorType", "loop.example/g00553/impl.errNone", "loop.example/g00553/impl.errState", "loop.example/g00553/impl.errLast"], ifaces := true, apart := false, laid := [("errors.errorType", laid_errors_errorType), ("loop.example/g00553/impl.errNone", laid_loop_example_g00553_impl_errNone), ("loop.example/g00553/impl.errState", laid_loop_example_g00553_impl_errState), ("loop.example/g00553/impl.errRange", laid_loop_example_g00553_impl_errRange), ("loop.example/g00553/impl.errFull", laid_loop_example_g00553_impl_errFull), ("loop.example/g00553/impl.errLast", laid_loop_example_g00553_impl_errLast)] }
def FnExactTickedSaid : Prop := fnExactTickedRow.holds Tryz.pinned (OpenSpec.ofChange fnExactTickedSpec)

/-- ITS FALSE NEIGHBOUR: 'it returns false'. Refute it at one input. -/
def fnExactTickedWrong : ChangeSpec := { name := "fnExactTicked", vars := ["loop.example/g00553/impl.errRange", "loop.example/g00553/impl.errFull", "loop.example/g00553/impl.errNone", "loop.example/g00553/impl.errState", "loop.example/g00553/impl.errLast"], fn := fun _ => fun
  | [d1, d2, g1, g2, g3, g4, g5] => { results := [.lit (.bool false)], args := [d1, d2], vars := [g1, g2, g3, g4, g5] }
  | _ => none }
def FnExactTickedWrongFalsely : Prop := fnExactTickedRow.holds Tryz.pinned (OpenSpec.ofChange fnExactTickedWrong)

/-- 'laws.FnExactGranted': WHATEVER THE INPUT: true; the input reads as it did. -/
def fnExactGrantedSpec : ChangeSpec := { name := "fnExactGranted", vars := ["loop.example/g00553/impl.errNone", "loop.example/g00553/impl.errRange", "loop.example/g00553/impl.errState", "loop.example/g00553/impl.errFull", "loop.example/g00553/impl.errLast"], fn := fun _ => fun
  | [d1, d2, d3, g1, g2, g3, g4, g5] => { results := [.lit (.bool true)], args := [d1, d2, d3], vars := [g1, g2, g3, g4, g5] }
  | _ => none }
def fnExactGrantedRow : OpenClaim := { program := "ytffcgajndmhpkaagreatdoor", sum := "ac73113420eed592b94b21812bfccb257e6ceeec857b793e35796348bc389330", func := "loop.example/g00553/laws.FnExactGranted", spec := "fnExactGranted", inPlace := ["internal/reflectlite.ValueOf", "(internal/reflectlite.Value).Type", "(internal/reflectlite.Value).IsNil", "internal/reflectlite.TypeOf", "(internal/reflectlite.Value).Elem", "(internal/reflectlite.Value).Set"], unfollowed := true, recurses := true, named := ["loop.example/g00553/impl.errNone", "loop.example/g00553/impl.errRange", "errors.errorType", "loop.example/g00553/impl.errState", "loop.example/g00553/impl.errFull", "loop.example/g00553/impl.errLast"], ifaces := true, apart := false, laid := [("errors.errorType", laid_errors_errorType), ("loop.example/g00553/impl.errNone", laid_loop_example_g00553_impl_errNone), ("loop.example/g00553/impl.errState", laid_loop_example_g00553_impl_errState), ("loop.example/g00553/impl.errRange", laid_loop_example_g00553_impl_errRange), ("loop.example/g00553/impl.errFull", laid_loop_example_g00553_impl_errFull), ("loop.example/g00553/impl.errLast", laid_loop_example_g00553_impl_errLast)] }
def FnExactGrantedSaid : Prop := fnExactGrantedRow.holds Tryz.pinned (OpenSpec.ofChange fnExactGrantedSpec)

/-- ITS FALSE NEIGHBOUR: 'it returns false'. Refute it at one input. -/
def fnExactGrantedWrong : ChangeSpec := { name := "fnExactGranted", vars := ["loop.example/g00553/impl.errNone", "loop.example/g00553/impl.errRange", "loop.example/g00553/impl.errState", "loop.example/g00553/impl.errFull", "loop.example/g00553/impl.errLast"], fn := fun _ => fun
  | [d1, d2, d3, g1, g2, g3, g4, g5] => { results := [.lit (.bool false)], args := [d1, d2, d3], vars := [g1, g2, g3, g4, g5] }
  | _ => none }
def FnExactGrantedWrongFalsely : Prop := fnExactGrantedRow.holds Tryz.pinned (OpenSpec.ofChange fnExactGrantedWrong)

/- THE SECOND FORM. 'bulk': how many values and letters a reading holds, each counted each time it is reached (what is shared counts as often as it is met; a slice's spare places count too). A statement '..UptoSaid' is the law's where the arguments, and the package variables that the reading takes, are together of bulk at most 1048576: NARROWER than '..Said'. Prove '..Said' where nothing that the law and all that it calls make is longer than what came in: it says more and counts as full. Else prove '..UptoSaid'. A law counts once. -/
mutual
def uptoBulk {H : Type} : DataW H → Nat
  | .lit (.string bytes) => bytes.length + 1
  | .lit _ => 1
  | .nil => 1
  | .ptr d => uptoBulk d + 1
  | .slice elems spare => uptoBulkAll elems + uptoBulkAll spare + 1
  | .agg parts => uptoBulkAll parts + 1
  | .iface _ d => uptoBulk d + 1
  | .map entries => uptoBulkEntries entries + 1
  | .held _ => 1
def uptoBulkAll {H : Type} : List (DataW H) → Nat
  | [] => 0
  | d :: r => uptoBulk d + uptoBulkAll r
def uptoBulkEntries {H : Type} : List (Lit × DataW H) → Nat
  | [] => 0
  | x :: r => uptoBulkEntry x + uptoBulkEntries r
def uptoBulkEntry {H : Type} : Lit × DataW H → Nat
  | (.string bytes, d) => bytes.length + uptoBulk d + 1
  | (_, d) => uptoBulk d + 1
 end
def uptoSmall : (H : Type) → List (DataW H) → Bool := fun _ ds => decide (uptoBulkAll ds ≤ 1048576)
def OpenSpec.upto (s : _root_.Go.ChangeSpec) : _root_.Go.OpenSpec := { _root_.Go.OpenSpec.ofChange s with cond := some uptoSmall }

/-- 'laws.FnTicked', WHERE WHAT IT READS IS OF BULK AT MOST 1048576: true; the input reads as it did. -/
def fnTickedUptoRow : OpenClaim := { program := "ytffcgajndmhpkaagreatdoor", sum := "ac73113420eed592b94b21812bfccb257e6ceeec857b793e35796348bc389330", func := "loop.example/g00553/laws.FnTicked", spec := "fnTicked", inPlace := ["internal/reflectlite.ValueOf", "(internal/reflectlite.Value).Type", "(internal/reflectlite.Value).IsNil", "internal/reflectlite.TypeOf", "(internal/reflectlite.Value).Elem", "(internal/reflectlite.Value).Set"], unfollowed := true, recurses := true, named := ["loop.example/g00553/impl.errRange", "loop.example/g00553/impl.errFull", "errors.errorType", "loop.example/g00553/impl.errNone", "loop.example/g00553/impl.errState", "loop.example/g00553/impl.errLast"], ifaces := true, apart := false, laid := [("errors.errorType", laid_errors_errorType), ("loop.example/g00553/impl.errNone", laid_loop_example_g00553_impl_errNone), ("loop.example/g00553/impl.errState", laid_loop_example_g00553_impl_errState), ("loop.example/g00553/impl.errRange", laid_loop_example_g00553_impl_errRange), ("loop.example/g00553/impl.errFull", laid_loop_example_g00553_impl_errFull), ("loop.example/g00553/impl.errLast", laid_loop_example_g00553_impl_errLast)], narrowed := true }
def FnTickedUptoSaid : Prop := fnTickedUptoRow.holds Tryz.pinned (OpenSpec.upto fnTickedSpec)

/-- 'laws.FnWanted', WHERE WHAT IT READS IS OF BULK AT MOST 1048576: true; the input reads as it did. -/
def fnWantedUptoRow : OpenClaim := { program := "ytffcgajndmhpkaagreatdoor", sum := "ac73113420eed592b94b21812bfccb257e6ceeec857b793e35796348bc389330", func := "loop.example/g00553/laws.FnWanted", spec := "fnWanted", inPlace := ["internal/reflectlite.ValueOf", "(internal/reflectlite.Value).Type", "(internal/reflectlite.Value).IsNil", "internal/reflectlite.TypeOf", "(internal/reflectlite.Value).Elem", "(internal/reflectlite.Value).Set"], unfollowed := true, recurses := true, named := ["loop.example/g00553/impl.errNone", "loop.example/g00553/impl.errRange", "errors.errorType", "loop.example/g00553/impl.errState", "loop.example/g00553/impl.errFull", "loop.example/g00553/impl.errLast"], ifaces := true, apart := false, laid := [("errors.errorType", laid_errors_errorType), ("loop.example/g00553/impl.errNone", laid_loop_example_g00553_impl_errNone), ("loop.example/g00553/impl.errState", laid_loop_example_g00553_impl_errState), ("loop.example/g00553/impl.errRange", laid_loop_example_g00553_impl_errRange), ("loop.example/g00553/impl.errFull", laid_loop_example_g00553_impl_errFull), ("loop.example/g00553/impl.errLast", laid_loop_example_g00553_impl_errLast)], narrowed := true }
def FnWantedUptoSaid : Prop := fnWantedUptoRow.holds Tryz.pinned (OpenSpec.upto fnWantedSpec)

/-- 'laws.FnExactTicked', WHERE WHAT IT READS IS OF BULK AT MOST 1048576: true; the input reads as it did. -/
def fnExactTickedUptoRow : OpenClaim := { program := "ytffcgajndmhpkaagreatdoor", sum := "ac73113420eed592b94b21812bfccb257e6ceeec857b793e35796348bc389330", func := "loop.example/g00553/laws.FnExactTicked", spec := "fnExactTicked", inPlace := ["internal/reflectlite.ValueOf", "(internal/reflectlite.Value).Type", "(internal/reflectlite.Value).IsNil", "internal/reflectlite.TypeOf", "(internal/reflectlite.Value).Elem", "(internal/reflectlite.Value).Set"], unfollowed := true, recurses := true, named := ["loop.example/g00553/impl.errRange", "loop.example/g00553/impl.errFull", "errors.errorType", "loop.example/g00553/impl.errNone", "loop.example/g00553/impl.errState", "loop.example/g00553/impl.errLast"], ifaces := true, apart := false, laid := [("errors.errorType", laid_errors_errorType), ("loop.example/g00553/impl.errNone", laid_loop_example_g00553_impl_errNone), ("loop.example/g00553/impl.errState", laid_loop_example_g00553_impl_errState), ("loop.example/g00553/impl.errRange", laid_loop_example_g00553_impl_errRange), ("loop.example/g00553/impl.errFull", laid_loop_example_g00553_impl_errFull), ("loop.example/g00553/impl.errLast", laid_loop_example_g00553_impl_errLast)], narrowed := true }
def FnExactTickedUptoSaid : Prop := fnExactTickedUptoRow.holds Tryz.pinned (OpenSpec.upto fnExactTickedSpec)

/-- 'laws.FnExactGranted', WHERE WHAT IT READS IS OF BULK AT MOST 1048576: true; the input reads as it did. -/
def fnExactGrantedUptoRow : OpenClaim := { program := "ytffcgajndmhpkaagreatdoor", sum := "ac73113420eed592b94b21812bfccb257e6ceeec857b793e35796348bc389330", func := "loop.example/g00553/laws.FnExactGranted", spec := "fnExactGranted", inPlace := ["internal/reflectlite.ValueOf", "(internal/reflectlite.Value).Type", "(internal/reflectlite.Value).IsNil", "internal/reflectlite.TypeOf", "(internal/reflectlite.Value).Elem", "(internal/reflectlite.Value).Set"], unfollowed := true, recurses := true, named := ["loop.example/g00553/impl.errNone", "loop.example/g00553/impl.errRange", "errors.errorType", "loop.example/g00553/impl.errState", "loop.example/g00553/impl.errFull", "loop.example/g00553/impl.errLast"], ifaces := true, apart := false, laid := [("errors.errorType", laid_errors_errorType), ("loop.example/g00553/impl.errNone", laid_loop_example_g00553_impl_errNone), ("loop.example/g00553/impl.errState", laid_loop_example_g00553_impl_errState), ("loop.example/g00553/impl.errRange", laid_loop_example_g00553_impl_errRange), ("loop.example/g00553/impl.errFull", laid_loop_example_g00553_impl_errFull), ("loop.example/g00553/impl.errLast", laid_loop_example_g00553_impl_errLast)], narrowed := true }
def FnExactGrantedUptoSaid : Prop := fnExactGrantedUptoRow.holds Tryz.pinned (OpenSpec.upto fnExactGrantedSpec)

end Rows
end Go.Proofs.YtffcgajndmhpkaaGreatDoor
