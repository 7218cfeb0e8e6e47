/-
  No cell of these rows narrows 'for every input' (looked for: loops, veiled, ifaces, maps, wideKeys, modest, calm, conditions, laid).
  DERIVED. THE GIVEN ROWS OF THIS SEAT. 6 by the template 'for every input the law returns true; each argument reads behind the call as it read before'; 0 by the template 'total and deterministic' (their statements: YtbekkdneldcehaaTotals.lean).
  GIVEN WITH THE SEED: the statements are not yours to turn. If you find one false, say at which input.
  Laid BY PROGRAM, IN A SANDBOX (cutbox-rows.mjs): the forced cells as the released guide's own fill.sh prints them over the translation 09f09f5f1a635567… (all of the seat's roots in one cut). By AI agents, Wed Nov 11 2026. No macro, syntax, notation, axiom, sorry.
-/
import Derived.Test.YtbekkdneldcehaaChecked
import GoSem.Claim
import GoSem.ClaimJoined
import GoSem.ClaimMapViews
import Derived.JoinedTies
import Derived.KernelRfl
namespace Go.Proofs.Ytbekkdneldcehaa
/- THE CELL 'sum', in the pinned program and in every row, IS THE sha256 OF THE DUMP (.gsa) THAT YtbekkdneldcehaaProg.lean LOADS. Nothing in Lean hashes anything: it is a label: what it is worth is what the hold of that sum in a sandbox is worth. -/
noncomputable def Try.pinned : Pinned := { name := "ytbekkdneldcehaa", sum := "09f09f5f1a63556752c0f415e0374484635169e4ccdd5b8549c34c55e7e26e38", checked := Try.checked }
namespace Rows
def none {H : Type} : Left H := { results := [], args := [] }

/-- 'laws.FnPaces': WHATEVER THE INPUT: true; the input reads as it did. -/
def fnPacesSpec : ChangeSpec := { name := "fnPaces", fn := fun _ => fun
  | [d] => { results := [.lit (.bool true)], args := [d] }
  | _ => none }
def fnPacesRow : OpenClaim := { program := "ytbekkdneldcehaa", sum := "09f09f5f1a63556752c0f415e0374484635169e4ccdd5b8549c34c55e7e26e38", func := "loop.example/g00553/laws.FnPaces", spec := "fnPaces", unfollowed := true, recurses := true, apart := false }
def FnPacesSaid : Prop := fnPacesRow.holds Try.pinned (OpenSpec.ofChange fnPacesSpec)

/-- ITS FALSE NEIGHBOUR: 'it returns false'. Refute it at one input. -/
def fnPacesWrong : ChangeSpec := { name := "fnPaces", fn := fun _ => fun
  | [d] => { results := [.lit (.bool false)], args := [d] }
  | _ => none }
def FnPacesWrongFalsely : Prop := fnPacesRow.holds Try.pinned (OpenSpec.ofChange fnPacesWrong)

/-- 'laws.FnExactPaceFor': WHATEVER THE INPUT: true; the input reads as it did. -/
def fnExactPaceForSpec : ChangeSpec := { name := "fnExactPaceFor", fn := fun _ => fun
  | [d1, d2] => { results := [.lit (.bool true)], args := [d1, d2] }
  | _ => none }
def fnExactPaceForRow : OpenClaim := { program := "ytbekkdneldcehaa", sum := "09f09f5f1a63556752c0f415e0374484635169e4ccdd5b8549c34c55e7e26e38", func := "loop.example/g00553/laws.FnExactPaceFor", spec := "fnExactPaceFor", apart := false }
def FnExactPaceForSaid : Prop := fnExactPaceForRow.holds Try.pinned (OpenSpec.ofChange fnExactPaceForSpec)

/-- ITS FALSE NEIGHBOUR: 'it returns false'. Refute it at one input. -/
def fnExactPaceForWrong : ChangeSpec := { name := "fnExactPaceFor", fn := fun _ => fun
  | [d1, d2] => { results := [.lit (.bool false)], args := [d1, d2] }
  | _ => none }
def FnExactPaceForWrongFalsely : Prop := fnExactPaceForRow.holds Try.pinned (OpenSpec.ofChange fnExactPaceForWrong)

/-- 'laws.FnExactCoalFor': WHATEVER THE INPUT: true; the input reads as it did. -/
def fnExactCoalForSpec : ChangeSpec := { name := "fnExactCoalFor", fn := fun _ => fun
  | [d1, d2, d3] => { results := [.lit (.bool true)], args := [d1, d2, d3] }
  | _ => none }
def fnExactCoalForRow : OpenClaim := { program := "ytbekkdneldcehaa", sum := "09f09f5f1a63556752c0f415e0374484635169e4ccdd5b8549c34c55e7e26e38", func := "loop.example/g00553/laws.FnExactCoalFor", spec := "fnExactCoalFor", unfollowed := true, recurses := true, apart := false }
def FnExactCoalForSaid : Prop := fnExactCoalForRow.holds Try.pinned (OpenSpec.ofChange fnExactCoalForSpec)

/-- ITS FALSE NEIGHBOUR: 'it returns false'. Refute it at one input. -/
def fnExactCoalForWrong : ChangeSpec := { name := "fnExactCoalFor", fn := fun _ => fun
  | [d1, d2, d3] => { results := [.lit (.bool false)], args := [d1, d2, d3] }
  | _ => none }
def FnExactCoalForWrongFalsely : Prop := fnExactCoalForRow.holds Try.pinned (OpenSpec.ofChange fnExactCoalForWrong)

/-- 'laws.FnExactLeastCoal': WHATEVER THE INPUT: true; the input reads as it did. -/
def fnExactLeastCoalSpec : ChangeSpec := { name := "fnExactLeastCoal", fn := fun _ => fun
  | [d1, d2, d3] => { results := [.lit (.bool true)], args := [d1, d2, d3] }
  | _ => none }
def fnExactLeastCoalRow : OpenClaim := { program := "ytbekkdneldcehaa", sum := "09f09f5f1a63556752c0f415e0374484635169e4ccdd5b8549c34c55e7e26e38", func := "loop.example/g00553/laws.FnExactLeastCoal", spec := "fnExactLeastCoal", unfollowed := true, recurses := true, apart := false }
def FnExactLeastCoalSaid : Prop := fnExactLeastCoalRow.holds Try.pinned (OpenSpec.ofChange fnExactLeastCoalSpec)

/-- ITS FALSE NEIGHBOUR: 'it returns false'. Refute it at one input. -/
def fnExactLeastCoalWrong : ChangeSpec := { name := "fnExactLeastCoal", fn := fun _ => fun
  | [d1, d2, d3] => { results := [.lit (.bool false)], args := [d1, d2, d3] }
  | _ => none }
def FnExactLeastCoalWrongFalsely : Prop := fnExactLeastCoalRow.holds Try.pinned (OpenSpec.ofChange fnExactLeastCoalWrong)

/-- 'laws.FnFits': WHATEVER THE INPUT: true; the input reads as it did. -/
def fnFitsSpec : ChangeSpec := { name := "fnFits", fn := fun _ => fun
  | [d] => { results := [.lit (.bool true)], args := [d] }
  | _ => none }
def fnFitsRow : OpenClaim := { program := "ytbekkdneldcehaa", sum := "09f09f5f1a63556752c0f415e0374484635169e4ccdd5b8549c34c55e7e26e38", func := "loop.example/g00553/laws.FnFits", spec := "fnFits", apart := false }
def FnFitsSaid : Prop := fnFitsRow.holds Try.pinned (OpenSpec.ofChange fnFitsSpec)

/-- ITS FALSE NEIGHBOUR: 'it returns false'. Refute it at one input. -/
def fnFitsWrong : ChangeSpec := { name := "fnFits", fn := fun _ => fun
  | [d] => { results := [.lit (.bool false)], args := [d] }
  | _ => none }
def FnFitsWrongFalsely : Prop := fnFitsRow.holds Try.pinned (OpenSpec.ofChange fnFitsWrong)

/-- 'laws.FnExactFitsIn': WHATEVER THE INPUT: true; the input reads as it did. -/
def fnExactFitsInSpec : ChangeSpec := { name := "fnExactFitsIn", fn := fun _ => fun
  | [d1, d2, d3] => { results := [.lit (.bool true)], args := [d1, d2, d3] }
  | _ => none }
def fnExactFitsInRow : OpenClaim := { program := "ytbekkdneldcehaa", sum := "09f09f5f1a63556752c0f415e0374484635169e4ccdd5b8549c34c55e7e26e38", func := "loop.example/g00553/laws.FnExactFitsIn", spec := "fnExactFitsIn", apart := false }
def FnExactFitsInSaid : Prop := fnExactFitsInRow.holds Try.pinned (OpenSpec.ofChange fnExactFitsInSpec)

/-- ITS FALSE NEIGHBOUR: 'it returns false'. Refute it at one input. -/
def fnExactFitsInWrong : ChangeSpec := { name := "fnExactFitsIn", fn := fun _ => fun
  | [d1, d2, d3] => { results := [.lit (.bool false)], args := [d1, d2, d3] }
  | _ => none }
def FnExactFitsInWrongFalsely : Prop := fnExactFitsInRow.holds Try.pinned (OpenSpec.ofChange fnExactFitsInWrong)

/- THE SECOND FORM. 'bulk': how many values and letters a reading holds, each counted each time it is reached (what is shared counts as often as it is met; a slice's spare places count too). A statement '..UptoSaid' is the law's where the arguments, and the package variables that the reading takes, are together of bulk at most 1048576: NARROWER than '..Said'. Prove '..Said' where nothing that the law and all that it calls make is longer than what came in: it says more and counts as full. Else prove '..UptoSaid'. A law counts once. -/
mutual
def uptoBulk {H : Type} : DataW H → Nat
  | .lit (.string bytes) => bytes.length + 1
  | .lit _ => 1
  | .nil => 1
  | .ptr d => uptoBulk d + 1
  | .slice elems spare => uptoBulkAll elems + uptoBulkAll spare + 1
  | .agg parts => uptoBulkAll parts + 1
  | .iface _ d => uptoBulk d + 1
  | .map entries => uptoBulkEntries entries + 1
  | .held _ => 1
def uptoBulkAll {H : Type} : List (DataW H) → Nat
  | [] => 0
  | d :: r => uptoBulk d + uptoBulkAll r
def uptoBulkEntries {H : Type} : List (Lit × DataW H) → Nat
  | [] => 0
  | x :: r => uptoBulkEntry x + uptoBulkEntries r
def uptoBulkEntry {H : Type} : Lit × DataW H → Nat
  | (.string bytes, d) => bytes.length + uptoBulk d + 1
  | (_, d) => uptoBulk d + 1
 end
def uptoSmall : (H : Type) → List (DataW H) → Bool := fun _ ds => decide (uptoBulkAll ds ≤ 1048576)
def OpenSpec.upto (s : _root_.Go.ChangeSpec) : _root_.Go.OpenSpec := { _root_.Go.OpenSpec.ofChange s with cond := some uptoSmall }

/-- 'laws.FnPaces', WHERE WHAT IT READS IS OF BULK AT MOST 1048576: true; the input reads as it did. -/
def fnPacesUptoRow : OpenClaim := { program := "ytbekkdneldcehaa", sum := "09f09f5f1a63556752c0f415e0374484635169e4ccdd5b8549c34c55e7e26e38", func := "loop.example/g00553/laws.FnPaces", spec := "fnPaces", unfollowed := true, recurses := true, apart := false, narrowed := true }
def FnPacesUptoSaid : Prop := fnPacesUptoRow.holds Try.pinned (OpenSpec.upto fnPacesSpec)

/-- 'laws.FnExactPaceFor', WHERE WHAT IT READS IS OF BULK AT MOST 1048576: true; the input reads as it did. -/
def fnExactPaceForUptoRow : OpenClaim := { program := "ytbekkdneldcehaa", sum := "09f09f5f1a63556752c0f415e0374484635169e4ccdd5b8549c34c55e7e26e38", func := "loop.example/g00553/laws.FnExactPaceFor", spec := "fnExactPaceFor", apart := false, narrowed := true }
def FnExactPaceForUptoSaid : Prop := fnExactPaceForUptoRow.holds Try.pinned (OpenSpec.upto fnExactPaceForSpec)

/-- 'laws.FnExactCoalFor', WHERE WHAT IT READS IS OF BULK AT MOST 1048576: true; the input reads as it did. -/
def fnExactCoalForUptoRow : OpenClaim := { program := "ytbekkdneldcehaa", sum := "09f09f5f1a63556752c0f415e0374484635169e4ccdd5b8549c34c55e7e26e38", func := "loop.example/g00553/laws.FnExactCoalFor", spec := "fnExactCoalFor", unfollowed := true, recurses := true, apart := false, narrowed := true }
def FnExactCoalForUptoSaid : Prop := fnExactCoalForUptoRow.holds Try.pinned (OpenSpec.upto fnExactCoalForSpec)

/-- 'laws.FnExactLeastCoal', WHERE WHAT IT READS IS OF BULK AT MOST 1048576: true; the input reads as it did. -/
def fnExactLeastCoalUptoRow : OpenClaim := { program := "ytbekkdneldcehaa", sum := "09f09f5f1a63556752c0f415e0374484635169e4ccdd5b8549c34c55e7e26e38", func := "loop.example/g00553/laws.FnExactLeastCoal", spec := "fnExactLeastCoal", unfollowed := true, recurses := true, apart := false, narrowed := true }
def FnExactLeastCoalUptoSaid : Prop := fnExactLeastCoalUptoRow.holds Try.pinned (OpenSpec.upto fnExactLeastCoalSpec)

/-- 'laws.FnFits', WHERE WHAT IT READS IS OF BULK AT MOST 1048576: true; the input reads as it did. -/
def fnFitsUptoRow : OpenClaim := { program := "ytbekkdneldcehaa", sum := "09f09f5f1a63556752c0f415e0374484635169e4ccdd5b8549c34c55e7e26e38", func := "loop.example/g00553/laws.FnFits", spec := "fnFits", apart := false, narrowed := true }
def FnFitsUptoSaid : Prop := fnFitsUptoRow.holds Try.pinned (OpenSpec.upto fnFitsSpec)

/-- 'laws.FnExactFitsIn', WHERE WHAT IT READS IS OF BULK AT MOST 1048576: true; the input reads as it did. -/
def fnExactFitsInUptoRow : OpenClaim := { program := "ytbekkdneldcehaa", sum := "09f09f5f1a63556752c0f415e0374484635169e4ccdd5b8549c34c55e7e26e38", func := "loop.example/g00553/laws.FnExactFitsIn", spec := "fnExactFitsIn", apart := false, narrowed := true }
def FnExactFitsInUptoSaid : Prop := fnExactFitsInUptoRow.holds Try.pinned (OpenSpec.upto fnExactFitsInSpec)

end Rows
end Go.Proofs.Ytbekkdneldcehaa
