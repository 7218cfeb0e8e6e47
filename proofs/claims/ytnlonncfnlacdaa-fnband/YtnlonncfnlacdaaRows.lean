/-
  No cell of these rows narrows 'for every input' (looked for: loops, veiled, ifaces, maps, wideKeys, modest, calm, conditions, laid).
  DERIVED. THE GIVEN ROWS OF THIS SEAT. 5 by the template 'for every input the law returns true; each argument reads behind the call as it read before'; 0 by the template 'total and deterministic' (their statements: YtnlonncfnlacdaaTotals.lean).
  GIVEN WITH THE SEED: the statements are not yours to turn. If you find one false, say at which input.
  Laid BY PROGRAM, IN A SANDBOX (cutbox-rows.mjs): the forced cells as the released guide's own fill.sh prints them over the translation 17c53a23eb5017da… (all of the seat's roots in one cut). By AI agents, Wed Nov 11 2026. No macro, syntax, notation, axiom, sorry.
-/
import Derived.Test.YtnlonncfnlacdaaChecked
import GoSem.Claim
import GoSem.ClaimJoined
import GoSem.ClaimMapViews
import Derived.JoinedTies
import Derived.KernelRfl
namespace Go.Proofs.Ytnlonncfnlacdaa
/- THE CELL 'sum', in the pinned program and in every row, IS THE sha256 OF THE DUMP (.gsa) THAT YtnlonncfnlacdaaProg.lean LOADS. Nothing in Lean hashes anything: it is a label: what it is worth is what the hold of that sum in a sandbox is worth. -/
noncomputable def Try.pinned : Pinned := { name := "ytnlonncfnlacdaa", sum := "17c53a23eb5017dab92455b49bbc38dc8d00b84e25f3181960f667ad987904ae", checked := Try.checked }
namespace Rows
def none {H : Type} : Left H := { results := [], args := [] }

/-- 'laws.FnBand': WHATEVER THE INPUT: true; the input reads as it did. -/
def fnBandSpec : ChangeSpec := { name := "fnBand", fn := fun _ => fun
  | [d] => { results := [.lit (.bool true)], args := [d] }
  | _ => none }
def fnBandRow : OpenClaim := { program := "ytnlonncfnlacdaa", sum := "17c53a23eb5017dab92455b49bbc38dc8d00b84e25f3181960f667ad987904ae", func := "loop.example/g00553/laws.FnBand", spec := "fnBand", apart := false }
def FnBandSaid : Prop := fnBandRow.holds Try.pinned (OpenSpec.ofChange fnBandSpec)

/-- ITS FALSE NEIGHBOUR: 'it returns false'. Refute it at one input. -/
def fnBandWrong : ChangeSpec := { name := "fnBand", fn := fun _ => fun
  | [d] => { results := [.lit (.bool false)], args := [d] }
  | _ => none }
def FnBandWrongFalsely : Prop := fnBandRow.holds Try.pinned (OpenSpec.ofChange fnBandWrong)

/-- 'laws.FnExactInBand': WHATEVER THE INPUT: true; the input reads as it did. -/
def fnExactInBandSpec : ChangeSpec := { name := "fnExactInBand", fn := fun _ => fun
  | [d1, d2] => { results := [.lit (.bool true)], args := [d1, d2] }
  | _ => none }
def fnExactInBandRow : OpenClaim := { program := "ytnlonncfnlacdaa", sum := "17c53a23eb5017dab92455b49bbc38dc8d00b84e25f3181960f667ad987904ae", func := "loop.example/g00553/laws.FnExactInBand", spec := "fnExactInBand", apart := false }
def FnExactInBandSaid : Prop := fnExactInBandRow.holds Try.pinned (OpenSpec.ofChange fnExactInBandSpec)

/-- ITS FALSE NEIGHBOUR: 'it returns false'. Refute it at one input. -/
def fnExactInBandWrong : ChangeSpec := { name := "fnExactInBand", fn := fun _ => fun
  | [d1, d2] => { results := [.lit (.bool false)], args := [d1, d2] }
  | _ => none }
def FnExactInBandWrongFalsely : Prop := fnExactInBandRow.holds Try.pinned (OpenSpec.ofChange fnExactInBandWrong)

/-- 'laws.FnExactPlaced': WHATEVER THE INPUT: true; the input reads as it did. -/
def fnExactPlacedSpec : ChangeSpec := { name := "fnExactPlaced", fn := fun _ => fun
  | [d1, d2] => { results := [.lit (.bool true)], args := [d1, d2] }
  | _ => none }
def fnExactPlacedRow : OpenClaim := { program := "ytnlonncfnlacdaa", sum := "17c53a23eb5017dab92455b49bbc38dc8d00b84e25f3181960f667ad987904ae", func := "loop.example/g00553/laws.FnExactPlaced", spec := "fnExactPlaced", apart := false }
def FnExactPlacedSaid : Prop := fnExactPlacedRow.holds Try.pinned (OpenSpec.ofChange fnExactPlacedSpec)

/-- ITS FALSE NEIGHBOUR: 'it returns false'. Refute it at one input. -/
def fnExactPlacedWrong : ChangeSpec := { name := "fnExactPlaced", fn := fun _ => fun
  | [d1, d2] => { results := [.lit (.bool false)], args := [d1, d2] }
  | _ => none }
def FnExactPlacedWrongFalsely : Prop := fnExactPlacedRow.holds Try.pinned (OpenSpec.ofChange fnExactPlacedWrong)

/-- 'laws.FnExactMoved': WHATEVER THE INPUT: true; the input reads as it did. -/
def fnExactMovedSpec : ChangeSpec := { name := "fnExactMoved", fn := fun _ => fun
  | [d1, d2, d3] => { results := [.lit (.bool true)], args := [d1, d2, d3] }
  | _ => none }
def fnExactMovedRow : OpenClaim := { program := "ytnlonncfnlacdaa", sum := "17c53a23eb5017dab92455b49bbc38dc8d00b84e25f3181960f667ad987904ae", func := "loop.example/g00553/laws.FnExactMoved", spec := "fnExactMoved", apart := false }
def FnExactMovedSaid : Prop := fnExactMovedRow.holds Try.pinned (OpenSpec.ofChange fnExactMovedSpec)

/-- ITS FALSE NEIGHBOUR: 'it returns false'. Refute it at one input. -/
def fnExactMovedWrong : ChangeSpec := { name := "fnExactMoved", fn := fun _ => fun
  | [d1, d2, d3] => { results := [.lit (.bool false)], args := [d1, d2, d3] }
  | _ => none }
def FnExactMovedWrongFalsely : Prop := fnExactMovedRow.holds Try.pinned (OpenSpec.ofChange fnExactMovedWrong)

/-- 'laws.FnExactMarked': WHATEVER THE INPUT: true; the input reads as it did. -/
def fnExactMarkedSpec : ChangeSpec := { name := "fnExactMarked", fn := fun _ => fun
  | [d1, d2] => { results := [.lit (.bool true)], args := [d1, d2] }
  | _ => none }
def fnExactMarkedRow : OpenClaim := { program := "ytnlonncfnlacdaa", sum := "17c53a23eb5017dab92455b49bbc38dc8d00b84e25f3181960f667ad987904ae", func := "loop.example/g00553/laws.FnExactMarked", spec := "fnExactMarked", apart := false }
def FnExactMarkedSaid : Prop := fnExactMarkedRow.holds Try.pinned (OpenSpec.ofChange fnExactMarkedSpec)

/-- ITS FALSE NEIGHBOUR: 'it returns false'. Refute it at one input. -/
def fnExactMarkedWrong : ChangeSpec := { name := "fnExactMarked", fn := fun _ => fun
  | [d1, d2] => { results := [.lit (.bool false)], args := [d1, d2] }
  | _ => none }
def FnExactMarkedWrongFalsely : Prop := fnExactMarkedRow.holds Try.pinned (OpenSpec.ofChange fnExactMarkedWrong)

/- THE SECOND FORM. 'bulk': how many values and letters a reading holds, each counted each time it is reached (what is shared counts as often as it is met; a slice's spare places count too). A statement '..UptoSaid' is the law's where the arguments, and the package variables that the reading takes, are together of bulk at most 1048576: NARROWER than '..Said'. Prove '..Said' where nothing that the law and all that it calls make is longer than what came in: it says more and counts as full. Else prove '..UptoSaid'. A law counts once. -/
mutual
def uptoBulk {H : Type} : DataW H → Nat
  | .lit (.string bytes) => bytes.length + 1
  | .lit _ => 1
  | .nil => 1
  | .ptr d => uptoBulk d + 1
  | .slice elems spare => uptoBulkAll elems + uptoBulkAll spare + 1
  | .agg parts => uptoBulkAll parts + 1
  | .iface _ d => uptoBulk d + 1
  | .map entries => uptoBulkEntries entries + 1
  | .held _ => 1
def uptoBulkAll {H : Type} : List (DataW H) → Nat
  | [] => 0
  | d :: r => uptoBulk d + uptoBulkAll r
def uptoBulkEntries {H : Type} : List (Lit × DataW H) → Nat
  | [] => 0
  | x :: r => uptoBulkEntry x + uptoBulkEntries r
def uptoBulkEntry {H : Type} : Lit × DataW H → Nat
  | (.string bytes, d) => bytes.length + uptoBulk d + 1
  | (_, d) => uptoBulk d + 1
 end
def uptoSmall : (H : Type) → List (DataW H) → Bool := fun _ ds => decide (uptoBulkAll ds ≤ 1048576)
def OpenSpec.upto (s : _root_.Go.ChangeSpec) : _root_.Go.OpenSpec := { _root_.Go.OpenSpec.ofChange s with cond := some uptoSmall }

/-- 'laws.FnBand', WHERE WHAT IT READS IS OF BULK AT MOST 1048576: true; the input reads as it did. -/
def fnBandUptoRow : OpenClaim := { program := "ytnlonncfnlacdaa", sum := "17c53a23eb5017dab92455b49bbc38dc8d00b84e25f3181960f667ad987904ae", func := "loop.example/g00553/laws.FnBand", spec := "fnBand", apart := false, narrowed := true }
def FnBandUptoSaid : Prop := fnBandUptoRow.holds Try.pinned (OpenSpec.upto fnBandSpec)

/-- 'laws.FnExactInBand', WHERE WHAT IT READS IS OF BULK AT MOST 1048576: true; the input reads as it did. -/
def fnExactInBandUptoRow : OpenClaim := { program := "ytnlonncfnlacdaa", sum := "17c53a23eb5017dab92455b49bbc38dc8d00b84e25f3181960f667ad987904ae", func := "loop.example/g00553/laws.FnExactInBand", spec := "fnExactInBand", apart := false, narrowed := true }
def FnExactInBandUptoSaid : Prop := fnExactInBandUptoRow.holds Try.pinned (OpenSpec.upto fnExactInBandSpec)

/-- 'laws.FnExactPlaced', WHERE WHAT IT READS IS OF BULK AT MOST 1048576: true; the input reads as it did. -/
def fnExactPlacedUptoRow : OpenClaim := { program := "ytnlonncfnlacdaa", sum := "17c53a23eb5017dab92455b49bbc38dc8d00b84e25f3181960f667ad987904ae", func := "loop.example/g00553/laws.FnExactPlaced", spec := "fnExactPlaced", apart := false, narrowed := true }
def FnExactPlacedUptoSaid : Prop := fnExactPlacedUptoRow.holds Try.pinned (OpenSpec.upto fnExactPlacedSpec)

/-- 'laws.FnExactMoved', WHERE WHAT IT READS IS OF BULK AT MOST 1048576: true; the input reads as it did. -/
def fnExactMovedUptoRow : OpenClaim := { program := "ytnlonncfnlacdaa", sum := "17c53a23eb5017dab92455b49bbc38dc8d00b84e25f3181960f667ad987904ae", func := "loop.example/g00553/laws.FnExactMoved", spec := "fnExactMoved", apart := false, narrowed := true }
def FnExactMovedUptoSaid : Prop := fnExactMovedUptoRow.holds Try.pinned (OpenSpec.upto fnExactMovedSpec)

/-- 'laws.FnExactMarked', WHERE WHAT IT READS IS OF BULK AT MOST 1048576: true; the input reads as it did. -/
def fnExactMarkedUptoRow : OpenClaim := { program := "ytnlonncfnlacdaa", sum := "17c53a23eb5017dab92455b49bbc38dc8d00b84e25f3181960f667ad987904ae", func := "loop.example/g00553/laws.FnExactMarked", spec := "fnExactMarked", apart := false, narrowed := true }
def FnExactMarkedUptoSaid : Prop := fnExactMarkedUptoRow.holds Try.pinned (OpenSpec.upto fnExactMarkedSpec)

end Rows
end Go.Proofs.Ytnlonncfnlacdaa
