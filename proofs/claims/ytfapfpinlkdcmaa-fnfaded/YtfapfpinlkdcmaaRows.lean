/-
  No cell of these rows narrows 'for every input' (looked for: loops, veiled, ifaces, maps, wideKeys, modest, calm, conditions, laid).
  DERIVED. THE GIVEN ROWS OF THIS SEAT. 6 by the template 'for every input the law returns true; each argument reads behind the call as it read before'; 0 by the template 'total and deterministic' (their statements: YtfapfpinlkdcmaaTotals.lean).
  GIVEN WITH THE SEED: the statements are not yours to turn. If you find one false, say at which input.
  Laid BY PROGRAM, IN A SANDBOX (cutbox-rows.mjs): the forced cells as the released guide's own fill.sh prints them over the translation e128ff3b1ca5f0f7… (all of the seat's roots in one cut). By AI agents, Wed Nov 11 2026. No macro, syntax, notation, axiom, sorry.
-/
import Derived.Test.YtfapfpinlkdcmaaChecked
import GoSem.Claim
import GoSem.ClaimJoined
import GoSem.ClaimMapViews
import Derived.JoinedTies
import Derived.KernelRfl
namespace Go.Proofs.Ytfapfpinlkdcmaa
/- THE CELL 'sum', in the pinned program and in every row, IS THE sha256 OF THE DUMP (.gsa) THAT YtfapfpinlkdcmaaProg.lean LOADS. Nothing in Lean hashes anything: it is a label: what it is worth is what the hold of that sum in a sandbox is worth. -/
noncomputable def Try.pinned : Pinned := { name := "ytfapfpinlkdcmaa", sum := "e128ff3b1ca5f0f7fb4a231e4cad65c2154a05be1e6a14f9e9be30fe48783dd8", checked := Try.checked }
namespace Rows
def none {H : Type} : Left H := { results := [], args := [] }

/-- 'laws.FnCalc': WHATEVER THE INPUT: true; the input reads as it did. -/
def fnCalcSpec : ChangeSpec := { name := "fnCalc", fn := fun _ => fun
  | [d] => { results := [.lit (.bool true)], args := [d] }
  | _ => none }
def fnCalcRow : OpenClaim := { program := "ytfapfpinlkdcmaa", sum := "e128ff3b1ca5f0f7fb4a231e4cad65c2154a05be1e6a14f9e9be30fe48783dd8", func := "loop.example/g00553/laws.FnCalc", spec := "fnCalc", unfollowed := true, recurses := true, apart := false }
def FnCalcSaid : Prop := fnCalcRow.holds Try.pinned (OpenSpec.ofChange fnCalcSpec)

/-- ITS FALSE NEIGHBOUR: 'it returns false'. Refute it at one input. -/
def fnCalcWrong : ChangeSpec := { name := "fnCalc", fn := fun _ => fun
  | [d] => { results := [.lit (.bool false)], args := [d] }
  | _ => none }
def FnCalcWrongFalsely : Prop := fnCalcRow.holds Try.pinned (OpenSpec.ofChange fnCalcWrong)

/-- 'laws.FnFaded': WHATEVER THE INPUT: true; the input reads as it did. -/
def fnFadedSpec : ChangeSpec := { name := "fnFaded", fn := fun _ => fun
  | [d] => { results := [.lit (.bool true)], args := [d] }
  | _ => none }
def fnFadedRow : OpenClaim := { program := "ytfapfpinlkdcmaa", sum := "e128ff3b1ca5f0f7fb4a231e4cad65c2154a05be1e6a14f9e9be30fe48783dd8", func := "loop.example/g00553/laws.FnFaded", spec := "fnFaded", unfollowed := true, recurses := true, apart := false }
def FnFadedSaid : Prop := fnFadedRow.holds Try.pinned (OpenSpec.ofChange fnFadedSpec)

/-- ITS FALSE NEIGHBOUR: 'it returns false'. Refute it at one input. -/
def fnFadedWrong : ChangeSpec := { name := "fnFaded", fn := fun _ => fun
  | [d] => { results := [.lit (.bool false)], args := [d] }
  | _ => none }
def FnFadedWrongFalsely : Prop := fnFadedRow.holds Try.pinned (OpenSpec.ofChange fnFadedWrong)

/-- 'laws.FnExactMulDiv': WHATEVER THE INPUT: true; the input reads as it did. -/
def fnExactMulDivSpec : ChangeSpec := { name := "fnExactMulDiv", fn := fun _ => fun
  | [d1, d2, d3] => { results := [.lit (.bool true)], args := [d1, d2, d3] }
  | _ => none }
def fnExactMulDivRow : OpenClaim := { program := "ytfapfpinlkdcmaa", sum := "e128ff3b1ca5f0f7fb4a231e4cad65c2154a05be1e6a14f9e9be30fe48783dd8", func := "loop.example/g00553/laws.FnExactMulDiv", spec := "fnExactMulDiv", unfollowed := true, recurses := true, apart := false }
def FnExactMulDivSaid : Prop := fnExactMulDivRow.holds Try.pinned (OpenSpec.ofChange fnExactMulDivSpec)

/-- ITS FALSE NEIGHBOUR: 'it returns false'. Refute it at one input. -/
def fnExactMulDivWrong : ChangeSpec := { name := "fnExactMulDiv", fn := fun _ => fun
  | [d1, d2, d3] => { results := [.lit (.bool false)], args := [d1, d2, d3] }
  | _ => none }
def FnExactMulDivWrongFalsely : Prop := fnExactMulDivRow.holds Try.pinned (OpenSpec.ofChange fnExactMulDivWrong)

/-- 'laws.FnExactClamped': WHATEVER THE INPUT: true; the input reads as it did. -/
def fnExactClampedSpec : ChangeSpec := { name := "fnExactClamped", fn := fun _ => fun
  | [d1, d2, d3] => { results := [.lit (.bool true)], args := [d1, d2, d3] }
  | _ => none }
def fnExactClampedRow : OpenClaim := { program := "ytfapfpinlkdcmaa", sum := "e128ff3b1ca5f0f7fb4a231e4cad65c2154a05be1e6a14f9e9be30fe48783dd8", func := "loop.example/g00553/laws.FnExactClamped", spec := "fnExactClamped", apart := false }
def FnExactClampedSaid : Prop := fnExactClampedRow.holds Try.pinned (OpenSpec.ofChange fnExactClampedSpec)

/-- ITS FALSE NEIGHBOUR: 'it returns false'. Refute it at one input. -/
def fnExactClampedWrong : ChangeSpec := { name := "fnExactClamped", fn := fun _ => fun
  | [d1, d2, d3] => { results := [.lit (.bool false)], args := [d1, d2, d3] }
  | _ => none }
def FnExactClampedWrongFalsely : Prop := fnExactClampedRow.holds Try.pinned (OpenSpec.ofChange fnExactClampedWrong)

/-- 'laws.FnExactFaded': WHATEVER THE INPUT: true; the input reads as it did. -/
def fnExactFadedSpec : ChangeSpec := { name := "fnExactFaded", fn := fun _ => fun
  | [d1, d2] => { results := [.lit (.bool true)], args := [d1, d2] }
  | _ => none }
def fnExactFadedRow : OpenClaim := { program := "ytfapfpinlkdcmaa", sum := "e128ff3b1ca5f0f7fb4a231e4cad65c2154a05be1e6a14f9e9be30fe48783dd8", func := "loop.example/g00553/laws.FnExactFaded", spec := "fnExactFaded", unfollowed := true, recurses := true, apart := false }
def FnExactFadedSaid : Prop := fnExactFadedRow.holds Try.pinned (OpenSpec.ofChange fnExactFadedSpec)

/-- ITS FALSE NEIGHBOUR: 'it returns false'. Refute it at one input. -/
def fnExactFadedWrong : ChangeSpec := { name := "fnExactFaded", fn := fun _ => fun
  | [d1, d2] => { results := [.lit (.bool false)], args := [d1, d2] }
  | _ => none }
def FnExactFadedWrongFalsely : Prop := fnExactFadedRow.holds Try.pinned (OpenSpec.ofChange fnExactFadedWrong)

/-- 'laws.FnExactFadedMany': WHATEVER THE INPUT: true; the input reads as it did. -/
def fnExactFadedManySpec : ChangeSpec := { name := "fnExactFadedMany", fn := fun _ => fun
  | [d1, d2, d3] => { results := [.lit (.bool true)], args := [d1, d2, d3] }
  | _ => none }
def fnExactFadedManyRow : OpenClaim := { program := "ytfapfpinlkdcmaa", sum := "e128ff3b1ca5f0f7fb4a231e4cad65c2154a05be1e6a14f9e9be30fe48783dd8", func := "loop.example/g00553/laws.FnExactFadedMany", spec := "fnExactFadedMany", unfollowed := true, recurses := true, apart := false }
def FnExactFadedManySaid : Prop := fnExactFadedManyRow.holds Try.pinned (OpenSpec.ofChange fnExactFadedManySpec)

/-- ITS FALSE NEIGHBOUR: 'it returns false'. Refute it at one input. -/
def fnExactFadedManyWrong : ChangeSpec := { name := "fnExactFadedMany", fn := fun _ => fun
  | [d1, d2, d3] => { results := [.lit (.bool false)], args := [d1, d2, d3] }
  | _ => none }
def FnExactFadedManyWrongFalsely : Prop := fnExactFadedManyRow.holds Try.pinned (OpenSpec.ofChange fnExactFadedManyWrong)

/- THE SECOND FORM. 'bulk': how many values and letters a reading holds, each counted each time it is reached (what is shared counts as often as it is met; a slice's spare places count too). A statement '..UptoSaid' is the law's where the arguments, and the package variables that the reading takes, are together of bulk at most 1048576: NARROWER than '..Said'. Prove '..Said' where nothing that the law and all that it calls make is longer than what came in: it says more and counts as full. Else prove '..UptoSaid'. A law counts once. -/
mutual
def uptoBulk {H : Type} : DataW H → Nat
  | .lit (.string bytes) => bytes.length + 1
  | .lit _ => 1
  | .nil => 1
  | .ptr d => uptoBulk d + 1
  | .slice elems spare => uptoBulkAll elems + uptoBulkAll spare + 1
  | .agg parts => uptoBulkAll parts + 1
  | .iface _ d => uptoBulk d + 1
  | .map entries => uptoBulkEntries entries + 1
  | .held _ => 1
def uptoBulkAll {H : Type} : List (DataW H) → Nat
  | [] => 0
  | d :: r => uptoBulk d + uptoBulkAll r
def uptoBulkEntries {H : Type} : List (Lit × DataW H) → Nat
  | [] => 0
  | x :: r => uptoBulkEntry x + uptoBulkEntries r
def uptoBulkEntry {H : Type} : Lit × DataW H → Nat
  | (.string bytes, d) => bytes.length + uptoBulk d + 1
  | (_, d) => uptoBulk d + 1
 end
def uptoSmall : (H : Type) → List (DataW H) → Bool := fun _ ds => decide (uptoBulkAll ds ≤ 1048576)
def OpenSpec.upto (s : _root_.Go.ChangeSpec) : _root_.Go.OpenSpec := { _root_.Go.OpenSpec.ofChange s with cond := some uptoSmall }

/-- 'laws.FnCalc', WHERE WHAT IT READS IS OF BULK AT MOST 1048576: true; the input reads as it did. -/
def fnCalcUptoRow : OpenClaim := { program := "ytfapfpinlkdcmaa", sum := "e128ff3b1ca5f0f7fb4a231e4cad65c2154a05be1e6a14f9e9be30fe48783dd8", func := "loop.example/g00553/laws.FnCalc", spec := "fnCalc", unfollowed := true, recurses := true, apart := false, narrowed := true }
def FnCalcUptoSaid : Prop := fnCalcUptoRow.holds Try.pinned (OpenSpec.upto fnCalcSpec)

/-- 'laws.FnFaded', WHERE WHAT IT READS IS OF BULK AT MOST 1048576: true; the input reads as it did. -/
def fnFadedUptoRow : OpenClaim := { program := "ytfapfpinlkdcmaa", sum := "e128ff3b1ca5f0f7fb4a231e4cad65c2154a05be1e6a14f9e9be30fe48783dd8", func := "loop.example/g00553/laws.FnFaded", spec := "fnFaded", unfollowed := true, recurses := true, apart := false, narrowed := true }
def FnFadedUptoSaid : Prop := fnFadedUptoRow.holds Try.pinned (OpenSpec.upto fnFadedSpec)

/-- 'laws.FnExactMulDiv', WHERE WHAT IT READS IS OF BULK AT MOST 1048576: true; the input reads as it did. -/
def fnExactMulDivUptoRow : OpenClaim := { program := "ytfapfpinlkdcmaa", sum := "e128ff3b1ca5f0f7fb4a231e4cad65c2154a05be1e6a14f9e9be30fe48783dd8", func := "loop.example/g00553/laws.FnExactMulDiv", spec := "fnExactMulDiv", unfollowed := true, recurses := true, apart := false, narrowed := true }
def FnExactMulDivUptoSaid : Prop := fnExactMulDivUptoRow.holds Try.pinned (OpenSpec.upto fnExactMulDivSpec)

/-- 'laws.FnExactClamped', WHERE WHAT IT READS IS OF BULK AT MOST 1048576: true; the input reads as it did. -/
def fnExactClampedUptoRow : OpenClaim := { program := "ytfapfpinlkdcmaa", sum := "e128ff3b1ca5f0f7fb4a231e4cad65c2154a05be1e6a14f9e9be30fe48783dd8", func := "loop.example/g00553/laws.FnExactClamped", spec := "fnExactClamped", apart := false, narrowed := true }
def FnExactClampedUptoSaid : Prop := fnExactClampedUptoRow.holds Try.pinned (OpenSpec.upto fnExactClampedSpec)

/-- 'laws.FnExactFaded', WHERE WHAT IT READS IS OF BULK AT MOST 1048576: true; the input reads as it did. -/
def fnExactFadedUptoRow : OpenClaim := { program := "ytfapfpinlkdcmaa", sum := "e128ff3b1ca5f0f7fb4a231e4cad65c2154a05be1e6a14f9e9be30fe48783dd8", func := "loop.example/g00553/laws.FnExactFaded", spec := "fnExactFaded", unfollowed := true, recurses := true, apart := false, narrowed := true }
def FnExactFadedUptoSaid : Prop := fnExactFadedUptoRow.holds Try.pinned (OpenSpec.upto fnExactFadedSpec)

/-- 'laws.FnExactFadedMany', WHERE WHAT IT READS IS OF BULK AT MOST 1048576: true; the input reads as it did. -/
def fnExactFadedManyUptoRow : OpenClaim := { program := "ytfapfpinlkdcmaa", sum := "e128ff3b1ca5f0f7fb4a231e4cad65c2154a05be1e6a14f9e9be30fe48783dd8", func := "loop.example/g00553/laws.FnExactFadedMany", spec := "fnExactFadedMany", unfollowed := true, recurses := true, apart := false, narrowed := true }
def FnExactFadedManyUptoSaid : Prop := fnExactFadedManyUptoRow.holds Try.pinned (OpenSpec.upto fnExactFadedManySpec)

end Rows
end Go.Proofs.Ytfapfpinlkdcmaa
