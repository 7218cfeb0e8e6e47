/-
  No cell of these rows narrows 'for every input' (looked for: loops, veiled, ifaces, maps, wideKeys, modest, calm, conditions, laid).
  DERIVED. THE GIVEN ROWS OF THIS SEAT. 9 by the template 'for every input the law returns true; each argument reads behind the call as it read before'; 0 by the template 'total and deterministic' (their statements: YtgdpaigcmoifbaaGreatTotals.lean).
  GIVEN WITH THE SEED: the statements are not yours to turn. If you find one false, say at which input.
  Laid BY PROGRAM, IN A SANDBOX (cutbox-rows.mjs): the forced cells as the released guide's own fill.sh prints them over the translation 401bbfe469e38aa6… (all of the seat's roots in one cut). By AI agents, Wed Nov 11 2026. No macro, syntax, notation, axiom, sorry.
-/
import Derived.Test.YtgdpaigcmoifbaaGreatChecked
import GoSem.Claim
import GoSem.ClaimJoined
import GoSem.ClaimMapViews
import Derived.JoinedTies
import Derived.KernelRfl
namespace Go.Proofs.YtgdpaigcmoifbaaGreat
/- THE CELL 'sum', in the pinned program and in every row, IS THE sha256 OF THE DUMP (.gsa) THAT YtgdpaigcmoifbaaGreatProg.lean LOADS. Nothing in Lean hashes anything: it is a label: what it is worth is what the hold of that sum in a sandbox is worth. -/
noncomputable def Tryz.pinned : Pinned := { name := "ytgdpaigcmoifbaagreat", sum := "401bbfe469e38aa6ad080f59cb8e00a33b97ad804ccf0297ba113a452d15a936", checked := Tryz.checked }
namespace Rows
def none {H : Type} : Left H := { results := [], args := [] }

/-- 'laws.FnWith': WHATEVER THE INPUT: true; the input reads as it did. -/
def fnWithSpec : ChangeSpec := { name := "fnWith", fn := fun _ => fun
  | [d] => { results := [.lit (.bool true)], args := [d] }
  | _ => none }
def fnWithRow : OpenClaim := { program := "ytgdpaigcmoifbaagreat", sum := "401bbfe469e38aa6ad080f59cb8e00a33b97ad804ccf0297ba113a452d15a936", func := "loop.example/g00553/laws.FnWith", spec := "fnWith", unfollowed := true, recurses := true, apart := false }
def FnWithSaid : Prop := fnWithRow.holds Tryz.pinned (OpenSpec.ofChange fnWithSpec)

/-- ITS FALSE NEIGHBOUR: 'it returns false'. Refute it at one input. -/
def fnWithWrong : ChangeSpec := { name := "fnWith", fn := fun _ => fun
  | [d] => { results := [.lit (.bool false)], args := [d] }
  | _ => none }
def FnWithWrongFalsely : Prop := fnWithRow.holds Tryz.pinned (OpenSpec.ofChange fnWithWrong)

/-- 'laws.FnFitting': WHATEVER THE INPUT: true; the input reads as it did. -/
def fnFittingSpec : ChangeSpec := { name := "fnFitting", fn := fun _ => fun
  | [d] => { results := [.lit (.bool true)], args := [d] }
  | _ => none }
def fnFittingRow : OpenClaim := { program := "ytgdpaigcmoifbaagreat", sum := "401bbfe469e38aa6ad080f59cb8e00a33b97ad804ccf0297ba113a452d15a936", func := "loop.example/g00553/laws.FnFitting", spec := "fnFitting", unfollowed := true, recurses := true, apart := false }
def FnFittingSaid : Prop := fnFittingRow.holds Tryz.pinned (OpenSpec.ofChange fnFittingSpec)

/-- ITS FALSE NEIGHBOUR: 'it returns false'. Refute it at one input. -/
def fnFittingWrong : ChangeSpec := { name := "fnFitting", fn := fun _ => fun
  | [d] => { results := [.lit (.bool false)], args := [d] }
  | _ => none }
def FnFittingWrongFalsely : Prop := fnFittingRow.holds Tryz.pinned (OpenSpec.ofChange fnFittingWrong)

/-- 'laws.FnChosen': WHATEVER THE INPUT: true; the input reads as it did. -/
def fnChosenSpec : ChangeSpec := { name := "fnChosen", fn := fun _ => fun
  | [d] => { results := [.lit (.bool true)], args := [d] }
  | _ => none }
def fnChosenRow : OpenClaim := { program := "ytgdpaigcmoifbaagreat", sum := "401bbfe469e38aa6ad080f59cb8e00a33b97ad804ccf0297ba113a452d15a936", func := "loop.example/g00553/laws.FnChosen", spec := "fnChosen", unfollowed := true, recurses := true, apart := false }
def FnChosenSaid : Prop := fnChosenRow.holds Tryz.pinned (OpenSpec.ofChange fnChosenSpec)

/-- ITS FALSE NEIGHBOUR: 'it returns false'. Refute it at one input. -/
def fnChosenWrong : ChangeSpec := { name := "fnChosen", fn := fun _ => fun
  | [d] => { results := [.lit (.bool false)], args := [d] }
  | _ => none }
def FnChosenWrongFalsely : Prop := fnChosenRow.holds Tryz.pinned (OpenSpec.ofChange fnChosenWrong)

/-- 'laws.FnExactCoalWith': WHATEVER THE INPUT: true; the input reads as it did. -/
def fnExactCoalWithSpec : ChangeSpec := { name := "fnExactCoalWith", fn := fun _ => fun
  | [d1, d2, d3] => { results := [.lit (.bool true)], args := [d1, d2, d3] }
  | _ => none }
def fnExactCoalWithRow : OpenClaim := { program := "ytgdpaigcmoifbaagreat", sum := "401bbfe469e38aa6ad080f59cb8e00a33b97ad804ccf0297ba113a452d15a936", func := "loop.example/g00553/laws.FnExactCoalWith", spec := "fnExactCoalWith", unfollowed := true, recurses := true, apart := false }
def FnExactCoalWithSaid : Prop := fnExactCoalWithRow.holds Tryz.pinned (OpenSpec.ofChange fnExactCoalWithSpec)

/-- ITS FALSE NEIGHBOUR: 'it returns false'. Refute it at one input. -/
def fnExactCoalWithWrong : ChangeSpec := { name := "fnExactCoalWith", fn := fun _ => fun
  | [d1, d2, d3] => { results := [.lit (.bool false)], args := [d1, d2, d3] }
  | _ => none }
def FnExactCoalWithWrongFalsely : Prop := fnExactCoalWithRow.holds Tryz.pinned (OpenSpec.ofChange fnExactCoalWithWrong)

/-- 'laws.FnExactMayWork': WHATEVER THE INPUT: true; the input reads as it did. -/
def fnExactMayWorkSpec : ChangeSpec := { name := "fnExactMayWork", fn := fun _ => fun
  | [d1, d2, d3] => { results := [.lit (.bool true)], args := [d1, d2, d3] }
  | _ => none }
def fnExactMayWorkRow : OpenClaim := { program := "ytgdpaigcmoifbaagreat", sum := "401bbfe469e38aa6ad080f59cb8e00a33b97ad804ccf0297ba113a452d15a936", func := "loop.example/g00553/laws.FnExactMayWork", spec := "fnExactMayWork", unfollowed := true, recurses := true, apart := false }
def FnExactMayWorkSaid : Prop := fnExactMayWorkRow.holds Tryz.pinned (OpenSpec.ofChange fnExactMayWorkSpec)

/-- ITS FALSE NEIGHBOUR: 'it returns false'. Refute it at one input. -/
def fnExactMayWorkWrong : ChangeSpec := { name := "fnExactMayWork", fn := fun _ => fun
  | [d1, d2, d3] => { results := [.lit (.bool false)], args := [d1, d2, d3] }
  | _ => none }
def FnExactMayWorkWrongFalsely : Prop := fnExactMayWorkRow.holds Tryz.pinned (OpenSpec.ofChange fnExactMayWorkWrong)

/-- 'laws.FnExactFitting': WHATEVER THE INPUT: true; the input reads as it did. -/
def fnExactFittingSpec : ChangeSpec := { name := "fnExactFitting", fn := fun _ => fun
  | [d1, d2] => { results := [.lit (.bool true)], args := [d1, d2] }
  | _ => none }
def fnExactFittingRow : OpenClaim := { program := "ytgdpaigcmoifbaagreat", sum := "401bbfe469e38aa6ad080f59cb8e00a33b97ad804ccf0297ba113a452d15a936", func := "loop.example/g00553/laws.FnExactFitting", spec := "fnExactFitting", unfollowed := true, recurses := true, apart := false }
def FnExactFittingSaid : Prop := fnExactFittingRow.holds Tryz.pinned (OpenSpec.ofChange fnExactFittingSpec)

/-- ITS FALSE NEIGHBOUR: 'it returns false'. Refute it at one input. -/
def fnExactFittingWrong : ChangeSpec := { name := "fnExactFitting", fn := fun _ => fun
  | [d1, d2] => { results := [.lit (.bool false)], args := [d1, d2] }
  | _ => none }
def FnExactFittingWrongFalsely : Prop := fnExactFittingRow.holds Tryz.pinned (OpenSpec.ofChange fnExactFittingWrong)

/-- 'laws.FnExactCrowded': WHATEVER THE INPUT: true; the input reads as it did. -/
def fnExactCrowdedSpec : ChangeSpec := { name := "fnExactCrowded", fn := fun _ => fun
  | [d] => { results := [.lit (.bool true)], args := [d] }
  | _ => none }
def fnExactCrowdedRow : OpenClaim := { program := "ytgdpaigcmoifbaagreat", sum := "401bbfe469e38aa6ad080f59cb8e00a33b97ad804ccf0297ba113a452d15a936", func := "loop.example/g00553/laws.FnExactCrowded", spec := "fnExactCrowded", unfollowed := true, recurses := true, apart := false }
def FnExactCrowdedSaid : Prop := fnExactCrowdedRow.holds Tryz.pinned (OpenSpec.ofChange fnExactCrowdedSpec)

/-- ITS FALSE NEIGHBOUR: 'it returns false'. Refute it at one input. -/
def fnExactCrowdedWrong : ChangeSpec := { name := "fnExactCrowded", fn := fun _ => fun
  | [d] => { results := [.lit (.bool false)], args := [d] }
  | _ => none }
def FnExactCrowdedWrongFalsely : Prop := fnExactCrowdedRow.holds Tryz.pinned (OpenSpec.ofChange fnExactCrowdedWrong)

/-- 'laws.FnExactChosen': WHATEVER THE INPUT: true; the input reads as it did. -/
def fnExactChosenSpec : ChangeSpec := { name := "fnExactChosen", fn := fun _ => fun
  | [d1, d2] => { results := [.lit (.bool true)], args := [d1, d2] }
  | _ => none }
def fnExactChosenRow : OpenClaim := { program := "ytgdpaigcmoifbaagreat", sum := "401bbfe469e38aa6ad080f59cb8e00a33b97ad804ccf0297ba113a452d15a936", func := "loop.example/g00553/laws.FnExactChosen", spec := "fnExactChosen", unfollowed := true, recurses := true, apart := false }
def FnExactChosenSaid : Prop := fnExactChosenRow.holds Tryz.pinned (OpenSpec.ofChange fnExactChosenSpec)

/-- ITS FALSE NEIGHBOUR: 'it returns false'. Refute it at one input. -/
def fnExactChosenWrong : ChangeSpec := { name := "fnExactChosen", fn := fun _ => fun
  | [d1, d2] => { results := [.lit (.bool false)], args := [d1, d2] }
  | _ => none }
def FnExactChosenWrongFalsely : Prop := fnExactChosenRow.holds Tryz.pinned (OpenSpec.ofChange fnExactChosenWrong)

/-- 'laws.FnLeast': WHATEVER THE INPUT: true; the input reads as it did. -/
def fnLeastSpec : ChangeSpec := { name := "fnLeast", fn := fun _ => fun
  | [d] => { results := [.lit (.bool true)], args := [d] }
  | _ => none }
def fnLeastRow : OpenClaim := { program := "ytgdpaigcmoifbaagreat", sum := "401bbfe469e38aa6ad080f59cb8e00a33b97ad804ccf0297ba113a452d15a936", func := "loop.example/g00553/laws.FnLeast", spec := "fnLeast", unfollowed := true, recurses := true, apart := false }
def FnLeastSaid : Prop := fnLeastRow.holds Tryz.pinned (OpenSpec.ofChange fnLeastSpec)

/-- ITS FALSE NEIGHBOUR: 'it returns false'. Refute it at one input. -/
def fnLeastWrong : ChangeSpec := { name := "fnLeast", fn := fun _ => fun
  | [d] => { results := [.lit (.bool false)], args := [d] }
  | _ => none }
def FnLeastWrongFalsely : Prop := fnLeastRow.holds Tryz.pinned (OpenSpec.ofChange fnLeastWrong)

/- THE SECOND FORM. 'bulk': how many values and letters a reading holds, each counted each time it is reached (what is shared counts as often as it is met; a slice's spare places count too). A statement '..UptoSaid' is the law's where the arguments, and the package variables that the reading takes, are together of bulk at most 1048576: NARROWER than '..Said'. Prove '..Said' where nothing that the law and all that it calls make is longer than what came in: it says more and counts as full. Else prove '..UptoSaid'. A law counts once. -/
mutual
def uptoBulk {H : Type} : DataW H → Nat
  | .lit (.string bytes) => bytes.length + 1
  | .lit _ => 1
  | .nil => 1
  | .ptr d => uptoBulk d + 1
  | .slice elems spare => uptoBulkAll elems + uptoBulkAll spare + 1
  | .agg parts => uptoBulkAll parts + 1
  | .iface _ d => uptoBulk d + 1
  | .map entries => uptoBulkEntries entries + 1
  | .held _ => 1
def uptoBulkAll {H : Type} : List (DataW H) → Nat
  | [] => 0
  | d :: r => uptoBulk d + uptoBulkAll r
def uptoBulkEntries {H : Type} : List (Lit × DataW H) → Nat
  | [] => 0
  | x :: r => uptoBulkEntry x + uptoBulkEntries r
def uptoBulkEntry {H : Type} : Lit × DataW H → Nat
  | (.string bytes, d) => bytes.length + uptoBulk d + 1
  | (_, d) => uptoBulk d + 1
 end
def uptoSmall : (H : Type) → List (DataW H) → Bool := fun _ ds => decide (uptoBulkAll ds ≤ 1048576)
def OpenSpec.upto (s : _root_.Go.ChangeSpec) : _root_.Go.OpenSpec := { _root_.Go.OpenSpec.ofChange s with cond := some uptoSmall }

/-- 'laws.FnWith', WHERE WHAT IT READS IS OF BULK AT MOST 1048576: true; the input reads as it did. -/
def fnWithUptoRow : OpenClaim := { program := "ytgdpaigcmoifbaagreat", sum := "401bbfe469e38aa6ad080f59cb8e00a33b97ad804ccf0297ba113a452d15a936", func := "loop.example/g00553/laws.FnWith", spec := "fnWith", unfollowed := true, recurses := true, apart := false, narrowed := true }
def FnWithUptoSaid : Prop := fnWithUptoRow.holds Tryz.pinned (OpenSpec.upto fnWithSpec)

/-- 'laws.FnFitting', WHERE WHAT IT READS IS OF BULK AT MOST 1048576: true; the input reads as it did. -/
def fnFittingUptoRow : OpenClaim := { program := "ytgdpaigcmoifbaagreat", sum := "401bbfe469e38aa6ad080f59cb8e00a33b97ad804ccf0297ba113a452d15a936", func := "loop.example/g00553/laws.FnFitting", spec := "fnFitting", unfollowed := true, recurses := true, apart := false, narrowed := true }
def FnFittingUptoSaid : Prop := fnFittingUptoRow.holds Tryz.pinned (OpenSpec.upto fnFittingSpec)

/-- 'laws.FnChosen', WHERE WHAT IT READS IS OF BULK AT MOST 1048576: true; the input reads as it did. -/
def fnChosenUptoRow : OpenClaim := { program := "ytgdpaigcmoifbaagreat", sum := "401bbfe469e38aa6ad080f59cb8e00a33b97ad804ccf0297ba113a452d15a936", func := "loop.example/g00553/laws.FnChosen", spec := "fnChosen", unfollowed := true, recurses := true, apart := false, narrowed := true }
def FnChosenUptoSaid : Prop := fnChosenUptoRow.holds Tryz.pinned (OpenSpec.upto fnChosenSpec)

/-- 'laws.FnExactCoalWith', WHERE WHAT IT READS IS OF BULK AT MOST 1048576: true; the input reads as it did. -/
def fnExactCoalWithUptoRow : OpenClaim := { program := "ytgdpaigcmoifbaagreat", sum := "401bbfe469e38aa6ad080f59cb8e00a33b97ad804ccf0297ba113a452d15a936", func := "loop.example/g00553/laws.FnExactCoalWith", spec := "fnExactCoalWith", unfollowed := true, recurses := true, apart := false, narrowed := true }
def FnExactCoalWithUptoSaid : Prop := fnExactCoalWithUptoRow.holds Tryz.pinned (OpenSpec.upto fnExactCoalWithSpec)

/-- 'laws.FnExactMayWork', WHERE WHAT IT READS IS OF BULK AT MOST 1048576: true; the input reads as it did. -/
def fnExactMayWorkUptoRow : OpenClaim := { program := "ytgdpaigcmoifbaagreat", sum := "401bbfe469e38aa6ad080f59cb8e00a33b97ad804ccf0297ba113a452d15a936", func := "loop.example/g00553/laws.FnExactMayWork", spec := "fnExactMayWork", unfollowed := true, recurses := true, apart := false, narrowed := true }
def FnExactMayWorkUptoSaid : Prop := fnExactMayWorkUptoRow.holds Tryz.pinned (OpenSpec.upto fnExactMayWorkSpec)

/-- 'laws.FnExactFitting', WHERE WHAT IT READS IS OF BULK AT MOST 1048576: true; the input reads as it did. -/
def fnExactFittingUptoRow : OpenClaim := { program := "ytgdpaigcmoifbaagreat", sum := "401bbfe469e38aa6ad080f59cb8e00a33b97ad804ccf0297ba113a452d15a936", func := "loop.example/g00553/laws.FnExactFitting", spec := "fnExactFitting", unfollowed := true, recurses := true, apart := false, narrowed := true }
def FnExactFittingUptoSaid : Prop := fnExactFittingUptoRow.holds Tryz.pinned (OpenSpec.upto fnExactFittingSpec)

/-- 'laws.FnExactCrowded', WHERE WHAT IT READS IS OF BULK AT MOST 1048576: true; the input reads as it did. -/
def fnExactCrowdedUptoRow : OpenClaim := { program := "ytgdpaigcmoifbaagreat", sum := "401bbfe469e38aa6ad080f59cb8e00a33b97ad804ccf0297ba113a452d15a936", func := "loop.example/g00553/laws.FnExactCrowded", spec := "fnExactCrowded", unfollowed := true, recurses := true, apart := false, narrowed := true }
def FnExactCrowdedUptoSaid : Prop := fnExactCrowdedUptoRow.holds Tryz.pinned (OpenSpec.upto fnExactCrowdedSpec)

/-- 'laws.FnExactChosen', WHERE WHAT IT READS IS OF BULK AT MOST 1048576: true; the input reads as it did. -/
def fnExactChosenUptoRow : OpenClaim := { program := "ytgdpaigcmoifbaagreat", sum := "401bbfe469e38aa6ad080f59cb8e00a33b97ad804ccf0297ba113a452d15a936", func := "loop.example/g00553/laws.FnExactChosen", spec := "fnExactChosen", unfollowed := true, recurses := true, apart := false, narrowed := true }
def FnExactChosenUptoSaid : Prop := fnExactChosenUptoRow.holds Tryz.pinned (OpenSpec.upto fnExactChosenSpec)

/-- 'laws.FnLeast', WHERE WHAT IT READS IS OF BULK AT MOST 1048576: true; the input reads as it did. -/
def fnLeastUptoRow : OpenClaim := { program := "ytgdpaigcmoifbaagreat", sum := "401bbfe469e38aa6ad080f59cb8e00a33b97ad804ccf0297ba113a452d15a936", func := "loop.example/g00553/laws.FnLeast", spec := "fnLeast", unfollowed := true, recurses := true, apart := false, narrowed := true }
def FnLeastUptoSaid : Prop := fnLeastUptoRow.holds Tryz.pinned (OpenSpec.upto fnLeastSpec)

end Rows
end Go.Proofs.YtgdpaigcmoifbaaGreat
