/-
  No cell of these rows narrows 'for every input' (looked for: loops, veiled, ifaces, maps, wideKeys, modest, calm, conditions, laid).
  DERIVED. THE GIVEN ROWS OF THIS SEAT. 2 by the template 'for every input the law returns true; each argument reads behind the call as it read before'; 0 by the template 'total and deterministic' (their statements: YtflinomgkobeoabTotals.lean).
  GIVEN WITH THE SEED: the statements are not yours to turn. If you find one false, say at which input.
  Laid BY PROGRAM, IN A SANDBOX (cutbox-rows.mjs): the forced cells as the released guide's own fill.sh prints them over the translation eda492f155511b3f… (all of the seat's roots in one cut). By AI agents, Wed Nov 11 2026. No macro, syntax, notation, axiom, sorry.
-/
import Derived.Test.YtflinomgkobeoabChecked
import GoSem.Claim
import GoSem.ClaimJoined
import GoSem.ClaimMapViews
import Derived.JoinedTies
import Derived.KernelRfl
namespace Go.Proofs.Ytflinomgkobeoab
/- THE CELL 'sum', in the pinned program and in every row, IS THE sha256 OF THE DUMP (.gsa) THAT YtflinomgkobeoabProg.lean LOADS. Nothing in Lean hashes anything: it is a label: what it is worth is what the hold of that sum in a sandbox is worth. -/
noncomputable def Try.pinned : Pinned := { name := "ytflinomgkobeoab", sum := "eda492f155511b3fc0c4ef173592dac9f426f2a73abcb3fd9344cb314beae6b8", checked := Try.checked }
namespace Rows
def none {H : Type} : Left H := { results := [], args := [] }

/-- 'laws.FnExactForceOf': WHATEVER THE INPUT: true; the input reads as it did. -/
def fnExactForceOfSpec : ChangeSpec := { name := "fnExactForceOf", fn := fun _ => fun
  | [d1, d2] => { results := [.lit (.bool true)], args := [d1, d2] }
  | _ => none }
def fnExactForceOfRow : OpenClaim := { program := "ytflinomgkobeoab", sum := "eda492f155511b3fc0c4ef173592dac9f426f2a73abcb3fd9344cb314beae6b8", func := "loop.example/g00553/laws.FnExactForceOf", spec := "fnExactForceOf", apart := false }
def FnExactForceOfSaid : Prop := fnExactForceOfRow.holds Try.pinned (OpenSpec.ofChange fnExactForceOfSpec)

/-- ITS FALSE NEIGHBOUR: 'it returns false'. Refute it at one input. -/
def fnExactForceOfWrong : ChangeSpec := { name := "fnExactForceOf", fn := fun _ => fun
  | [d1, d2] => { results := [.lit (.bool false)], args := [d1, d2] }
  | _ => none }
def FnExactForceOfWrongFalsely : Prop := fnExactForceOfRow.holds Try.pinned (OpenSpec.ofChange fnExactForceOfWrong)

/-- 'laws.FnExactBenchSet': WHATEVER THE INPUT: true; the input reads as it did. -/
def fnExactBenchSetSpec : ChangeSpec := { name := "fnExactBenchSet", fn := fun _ => fun
  | [d1, d2] => { results := [.lit (.bool true)], args := [d1, d2] }
  | _ => none }
def fnExactBenchSetRow : OpenClaim := { program := "ytflinomgkobeoab", sum := "eda492f155511b3fc0c4ef173592dac9f426f2a73abcb3fd9344cb314beae6b8", func := "loop.example/g00553/laws.FnExactBenchSet", spec := "fnExactBenchSet", apart := false }
def FnExactBenchSetSaid : Prop := fnExactBenchSetRow.holds Try.pinned (OpenSpec.ofChange fnExactBenchSetSpec)

/-- ITS FALSE NEIGHBOUR: 'it returns false'. Refute it at one input. -/
def fnExactBenchSetWrong : ChangeSpec := { name := "fnExactBenchSet", fn := fun _ => fun
  | [d1, d2] => { results := [.lit (.bool false)], args := [d1, d2] }
  | _ => none }
def FnExactBenchSetWrongFalsely : Prop := fnExactBenchSetRow.holds Try.pinned (OpenSpec.ofChange fnExactBenchSetWrong)

/- THE SECOND FORM. 'bulk': how many values and letters a reading holds, each counted each time it is reached (what is shared counts as often as it is met; a slice's spare places count too). A statement '..UptoSaid' is the law's where the arguments, and the package variables that the reading takes, are together of bulk at most 1048576: NARROWER than '..Said'. Prove '..Said' where nothing that the law and all that it calls make is longer than what came in: it says more and counts as full. Else prove '..UptoSaid'. A law counts once. -/
mutual
def uptoBulk {H : Type} : DataW H → Nat
  | .lit (.string bytes) => bytes.length + 1
  | .lit _ => 1
  | .nil => 1
  | .ptr d => uptoBulk d + 1
  | .slice elems spare => uptoBulkAll elems + uptoBulkAll spare + 1
  | .agg parts => uptoBulkAll parts + 1
  | .iface _ d => uptoBulk d + 1
  | .map entries => uptoBulkEntries entries + 1
  | .held _ => 1
def uptoBulkAll {H : Type} : List (DataW H) → Nat
  | [] => 0
  | d :: r => uptoBulk d + uptoBulkAll r
def uptoBulkEntries {H : Type} : List (Lit × DataW H) → Nat
  | [] => 0
  | x :: r => uptoBulkEntry x + uptoBulkEntries r
def uptoBulkEntry {H : Type} : Lit × DataW H → Nat
  | (.string bytes, d) => bytes.length + uptoBulk d + 1
  | (_, d) => uptoBulk d + 1
 end
def uptoSmall : (H : Type) → List (DataW H) → Bool := fun _ ds => decide (uptoBulkAll ds ≤ 1048576)
def OpenSpec.upto (s : _root_.Go.ChangeSpec) : _root_.Go.OpenSpec := { _root_.Go.OpenSpec.ofChange s with cond := some uptoSmall }

/-- 'laws.FnExactForceOf', WHERE WHAT IT READS IS OF BULK AT MOST 1048576: true; the input reads as it did. -/
def fnExactForceOfUptoRow : OpenClaim := { program := "ytflinomgkobeoab", sum := "eda492f155511b3fc0c4ef173592dac9f426f2a73abcb3fd9344cb314beae6b8", func := "loop.example/g00553/laws.FnExactForceOf", spec := "fnExactForceOf", apart := false, narrowed := true }
def FnExactForceOfUptoSaid : Prop := fnExactForceOfUptoRow.holds Try.pinned (OpenSpec.upto fnExactForceOfSpec)

/-- 'laws.FnExactBenchSet', WHERE WHAT IT READS IS OF BULK AT MOST 1048576: true; the input reads as it did. -/
def fnExactBenchSetUptoRow : OpenClaim := { program := "ytflinomgkobeoab", sum := "eda492f155511b3fc0c4ef173592dac9f426f2a73abcb3fd9344cb314beae6b8", func := "loop.example/g00553/laws.FnExactBenchSet", spec := "fnExactBenchSet", apart := false, narrowed := true }
def FnExactBenchSetUptoSaid : Prop := fnExactBenchSetUptoRow.holds Try.pinned (OpenSpec.upto fnExactBenchSetSpec)

end Rows
end Go.Proofs.Ytflinomgkobeoab
