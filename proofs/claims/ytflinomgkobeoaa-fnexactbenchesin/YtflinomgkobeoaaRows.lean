/-
  No cell of these rows narrows 'for every input' (looked for: loops, veiled, ifaces, maps, wideKeys, modest, calm, conditions, laid).
  DERIVED. THE GIVEN ROWS OF THIS SEAT. 5 by the template 'for every input the law returns true; each argument reads behind the call as it read before'; 0 by the template 'total and deterministic' (their statements: YtflinomgkobeoaaTotals.lean).
  GIVEN WITH THE SEED: the statements are not yours to turn. If you find one false, say at which input.
  Laid BY PROGRAM, IN A SANDBOX (cutbox-rows.mjs): the forced cells as the released guide's own fill.sh prints them over the translation 6918dd70ab2e45a9… (all of the seat's roots in one cut). By AI agents, Wed Nov 11 2026. No macro, syntax, notation, axiom, sorry.
-/
import Derived.Test.YtflinomgkobeoaaChecked
import GoSem.Claim
import GoSem.ClaimJoined
import GoSem.ClaimMapViews
import Derived.JoinedTies
import Derived.KernelRfl
namespace Go.Proofs.Ytflinomgkobeoaa
/- THE CELL 'sum', in the pinned program and in every row, IS THE sha256 OF THE DUMP (.gsa) THAT YtflinomgkobeoaaProg.lean LOADS. Nothing in Lean hashes anything: it is a label: what it is worth is what the hold of that sum in a sandbox is worth. -/
noncomputable def Try.pinned : Pinned := { name := "ytflinomgkobeoaa", sum := "6918dd70ab2e45a94cc22dba14b46c194e096a642f8aa96bb29e43428f341736", checked := Try.checked }
namespace Rows
def none {H : Type} : Left H := { results := [], args := [] }

/-- 'laws.FnHalls': WHATEVER THE INPUT: true; the input reads as it did. -/
def fnHallsSpec : ChangeSpec := { name := "fnHalls", fn := fun _ => fun
  | [d] => { results := [.lit (.bool true)], args := [d] }
  | _ => none }
def fnHallsRow : OpenClaim := { program := "ytflinomgkobeoaa", sum := "6918dd70ab2e45a94cc22dba14b46c194e096a642f8aa96bb29e43428f341736", func := "loop.example/g00553/laws.FnHalls", spec := "fnHalls", apart := false }
def FnHallsSaid : Prop := fnHallsRow.holds Try.pinned (OpenSpec.ofChange fnHallsSpec)

/-- ITS FALSE NEIGHBOUR: 'it returns false'. Refute it at one input. -/
def fnHallsWrong : ChangeSpec := { name := "fnHalls", fn := fun _ => fun
  | [d] => { results := [.lit (.bool false)], args := [d] }
  | _ => none }
def FnHallsWrongFalsely : Prop := fnHallsRow.holds Try.pinned (OpenSpec.ofChange fnHallsWrong)

/-- 'laws.FnExactRoomOk': WHATEVER THE INPUT: true; the input reads as it did. -/
def fnExactRoomOkSpec : ChangeSpec := { name := "fnExactRoomOk", fn := fun _ => fun
  | [d] => { results := [.lit (.bool true)], args := [d] }
  | _ => none }
def fnExactRoomOkRow : OpenClaim := { program := "ytflinomgkobeoaa", sum := "6918dd70ab2e45a94cc22dba14b46c194e096a642f8aa96bb29e43428f341736", func := "loop.example/g00553/laws.FnExactRoomOk", spec := "fnExactRoomOk", apart := false }
def FnExactRoomOkSaid : Prop := fnExactRoomOkRow.holds Try.pinned (OpenSpec.ofChange fnExactRoomOkSpec)

/-- ITS FALSE NEIGHBOUR: 'it returns false'. Refute it at one input. -/
def fnExactRoomOkWrong : ChangeSpec := { name := "fnExactRoomOk", fn := fun _ => fun
  | [d] => { results := [.lit (.bool false)], args := [d] }
  | _ => none }
def FnExactRoomOkWrongFalsely : Prop := fnExactRoomOkRow.holds Try.pinned (OpenSpec.ofChange fnExactRoomOkWrong)

/-- 'laws.FnExactHallOk': WHATEVER THE INPUT: true; the input reads as it did. -/
def fnExactHallOkSpec : ChangeSpec := { name := "fnExactHallOk", fn := fun _ => fun
  | [d] => { results := [.lit (.bool true)], args := [d] }
  | _ => none }
def fnExactHallOkRow : OpenClaim := { program := "ytflinomgkobeoaa", sum := "6918dd70ab2e45a94cc22dba14b46c194e096a642f8aa96bb29e43428f341736", func := "loop.example/g00553/laws.FnExactHallOk", spec := "fnExactHallOk", apart := false }
def FnExactHallOkSaid : Prop := fnExactHallOkRow.holds Try.pinned (OpenSpec.ofChange fnExactHallOkSpec)

/-- ITS FALSE NEIGHBOUR: 'it returns false'. Refute it at one input. -/
def fnExactHallOkWrong : ChangeSpec := { name := "fnExactHallOk", fn := fun _ => fun
  | [d] => { results := [.lit (.bool false)], args := [d] }
  | _ => none }
def FnExactHallOkWrongFalsely : Prop := fnExactHallOkRow.holds Try.pinned (OpenSpec.ofChange fnExactHallOkWrong)

/-- 'laws.FnExactBenchesIn': WHATEVER THE INPUT: true; the input reads as it did. -/
def fnExactBenchesInSpec : ChangeSpec := { name := "fnExactBenchesIn", fn := fun _ => fun
  | [d] => { results := [.lit (.bool true)], args := [d] }
  | _ => none }
def fnExactBenchesInRow : OpenClaim := { program := "ytflinomgkobeoaa", sum := "6918dd70ab2e45a94cc22dba14b46c194e096a642f8aa96bb29e43428f341736", func := "loop.example/g00553/laws.FnExactBenchesIn", spec := "fnExactBenchesIn", apart := false }
def FnExactBenchesInSaid : Prop := fnExactBenchesInRow.holds Try.pinned (OpenSpec.ofChange fnExactBenchesInSpec)

/-- ITS FALSE NEIGHBOUR: 'it returns false'. Refute it at one input. -/
def fnExactBenchesInWrong : ChangeSpec := { name := "fnExactBenchesIn", fn := fun _ => fun
  | [d] => { results := [.lit (.bool false)], args := [d] }
  | _ => none }
def FnExactBenchesInWrongFalsely : Prop := fnExactBenchesInRow.holds Try.pinned (OpenSpec.ofChange fnExactBenchesInWrong)

/-- 'laws.FnExactRoomOf': WHATEVER THE INPUT: true; the input reads as it did. -/
def fnExactRoomOfSpec : ChangeSpec := { name := "fnExactRoomOf", fn := fun _ => fun
  | [d1, d2] => { results := [.lit (.bool true)], args := [d1, d2] }
  | _ => none }
def fnExactRoomOfRow : OpenClaim := { program := "ytflinomgkobeoaa", sum := "6918dd70ab2e45a94cc22dba14b46c194e096a642f8aa96bb29e43428f341736", func := "loop.example/g00553/laws.FnExactRoomOf", spec := "fnExactRoomOf", apart := false }
def FnExactRoomOfSaid : Prop := fnExactRoomOfRow.holds Try.pinned (OpenSpec.ofChange fnExactRoomOfSpec)

/-- ITS FALSE NEIGHBOUR: 'it returns false'. Refute it at one input. -/
def fnExactRoomOfWrong : ChangeSpec := { name := "fnExactRoomOf", fn := fun _ => fun
  | [d1, d2] => { results := [.lit (.bool false)], args := [d1, d2] }
  | _ => none }
def FnExactRoomOfWrongFalsely : Prop := fnExactRoomOfRow.holds Try.pinned (OpenSpec.ofChange fnExactRoomOfWrong)

/- THE SECOND FORM. 'bulk': how many values and letters a reading holds, each counted each time it is reached (what is shared counts as often as it is met; a slice's spare places count too). A statement '..UptoSaid' is the law's where the arguments, and the package variables that the reading takes, are together of bulk at most 1048576: NARROWER than '..Said'. Prove '..Said' where nothing that the law and all that it calls make is longer than what came in: it says more and counts as full. Else prove '..UptoSaid'. A law counts once. -/
mutual
def uptoBulk {H : Type} : DataW H → Nat
  | .lit (.string bytes) => bytes.length + 1
  | .lit _ => 1
  | .nil => 1
  | .ptr d => uptoBulk d + 1
  | .slice elems spare => uptoBulkAll elems + uptoBulkAll spare + 1
  | .agg parts => uptoBulkAll parts + 1
  | .iface _ d => uptoBulk d + 1
  | .map entries => uptoBulkEntries entries + 1
  | .held _ => 1
def uptoBulkAll {H : Type} : List (DataW H) → Nat
  | [] => 0
  | d :: r => uptoBulk d + uptoBulkAll r
def uptoBulkEntries {H : Type} : List (Lit × DataW H) → Nat
  | [] => 0
  | x :: r => uptoBulkEntry x + uptoBulkEntries r
def uptoBulkEntry {H : Type} : Lit × DataW H → Nat
  | (.string bytes, d) => bytes.length + uptoBulk d + 1
  | (_, d) => uptoBulk d + 1
 end
def uptoSmall : (H : Type) → List (DataW H) → Bool := fun _ ds => decide (uptoBulkAll ds ≤ 1048576)
def OpenSpec.upto (s : _root_.Go.ChangeSpec) : _root_.Go.OpenSpec := { _root_.Go.OpenSpec.ofChange s with cond := some uptoSmall }

/-- 'laws.FnHalls', WHERE WHAT IT READS IS OF BULK AT MOST 1048576: true; the input reads as it did. -/
def fnHallsUptoRow : OpenClaim := { program := "ytflinomgkobeoaa", sum := "6918dd70ab2e45a94cc22dba14b46c194e096a642f8aa96bb29e43428f341736", func := "loop.example/g00553/laws.FnHalls", spec := "fnHalls", apart := false, narrowed := true }
def FnHallsUptoSaid : Prop := fnHallsUptoRow.holds Try.pinned (OpenSpec.upto fnHallsSpec)

/-- 'laws.FnExactRoomOk', WHERE WHAT IT READS IS OF BULK AT MOST 1048576: true; the input reads as it did. -/
def fnExactRoomOkUptoRow : OpenClaim := { program := "ytflinomgkobeoaa", sum := "6918dd70ab2e45a94cc22dba14b46c194e096a642f8aa96bb29e43428f341736", func := "loop.example/g00553/laws.FnExactRoomOk", spec := "fnExactRoomOk", apart := false, narrowed := true }
def FnExactRoomOkUptoSaid : Prop := fnExactRoomOkUptoRow.holds Try.pinned (OpenSpec.upto fnExactRoomOkSpec)

/-- 'laws.FnExactHallOk', WHERE WHAT IT READS IS OF BULK AT MOST 1048576: true; the input reads as it did. -/
def fnExactHallOkUptoRow : OpenClaim := { program := "ytflinomgkobeoaa", sum := "6918dd70ab2e45a94cc22dba14b46c194e096a642f8aa96bb29e43428f341736", func := "loop.example/g00553/laws.FnExactHallOk", spec := "fnExactHallOk", apart := false, narrowed := true }
def FnExactHallOkUptoSaid : Prop := fnExactHallOkUptoRow.holds Try.pinned (OpenSpec.upto fnExactHallOkSpec)

/-- 'laws.FnExactBenchesIn', WHERE WHAT IT READS IS OF BULK AT MOST 1048576: true; the input reads as it did. -/
def fnExactBenchesInUptoRow : OpenClaim := { program := "ytflinomgkobeoaa", sum := "6918dd70ab2e45a94cc22dba14b46c194e096a642f8aa96bb29e43428f341736", func := "loop.example/g00553/laws.FnExactBenchesIn", spec := "fnExactBenchesIn", apart := false, narrowed := true }
def FnExactBenchesInUptoSaid : Prop := fnExactBenchesInUptoRow.holds Try.pinned (OpenSpec.upto fnExactBenchesInSpec)

/-- 'laws.FnExactRoomOf', WHERE WHAT IT READS IS OF BULK AT MOST 1048576: true; the input reads as it did. -/
def fnExactRoomOfUptoRow : OpenClaim := { program := "ytflinomgkobeoaa", sum := "6918dd70ab2e45a94cc22dba14b46c194e096a642f8aa96bb29e43428f341736", func := "loop.example/g00553/laws.FnExactRoomOf", spec := "fnExactRoomOf", apart := false, narrowed := true }
def FnExactRoomOfUptoSaid : Prop := fnExactRoomOfUptoRow.holds Try.pinned (OpenSpec.upto fnExactRoomOfSpec)

end Rows
end Go.Proofs.Ytflinomgkobeoaa
