/-
  No cell of these rows narrows 'for every input' (looked for: loops, veiled, ifaces, maps, wideKeys, modest, calm, conditions, laid).
  DERIVED. THE GIVEN ROWS OF THIS SEAT. 6 by the template 'for every input the law returns true; each argument reads behind the call as it read before'; 0 by the template 'total and deterministic' (their statements: YtekobedbjemdiaaTotals.lean).
  GIVEN WITH THE SEED: the statements are not yours to turn. If you find one false, say at which input.
  Laid BY PROGRAM, IN A SANDBOX (cutbox-rows.mjs): the forced cells as the released guide's own fill.sh prints them over the translation 94df2c83d804a744… (all of the seat's roots in one cut). By AI agents, Wed Nov 11 2026. No macro, syntax, notation, axiom, sorry.
-/
import Derived.Test.YtekobedbjemdiaaChecked
import GoSem.Claim
import GoSem.ClaimJoined
import GoSem.ClaimMapViews
import Derived.JoinedTies
import Derived.KernelRfl
namespace Go.Proofs.Ytekobedbjemdiaa
/- THE CELL 'sum', in the pinned program and in every row, IS THE sha256 OF THE DUMP (.gsa) THAT YtekobedbjemdiaaProg.lean LOADS. Nothing in Lean hashes anything: it is a label: what it is worth is what the hold of that sum in a sandbox is worth. -/
noncomputable def Try.pinned : Pinned := { name := "ytekobedbjemdiaa", sum := "94df2c83d804a74447bb5de59ec203c9411e1eb666f473235ff57818b2eb0e59", checked := Try.checked }
namespace Rows
def none {H : Type} : Left H := { results := [], args := [] }

/-- 'laws.FnQueues': WHATEVER THE INPUT: true; the input reads as it did. -/
def fnQueuesSpec : ChangeSpec := { name := "fnQueues", fn := fun _ => fun
  | [d] => { results := [.lit (.bool true)], args := [d] }
  | _ => none }
def fnQueuesRow : OpenClaim := { program := "ytekobedbjemdiaa", sum := "94df2c83d804a74447bb5de59ec203c9411e1eb666f473235ff57818b2eb0e59", func := "loop.example/g00553/laws.FnQueues", spec := "fnQueues", unfollowed := true, recurses := true, apart := false }
def FnQueuesSaid : Prop := fnQueuesRow.holds Try.pinned (OpenSpec.ofChange fnQueuesSpec)

/-- ITS FALSE NEIGHBOUR: 'it returns false'. Refute it at one input. -/
def fnQueuesWrong : ChangeSpec := { name := "fnQueues", fn := fun _ => fun
  | [d] => { results := [.lit (.bool false)], args := [d] }
  | _ => none }
def FnQueuesWrongFalsely : Prop := fnQueuesRow.holds Try.pinned (OpenSpec.ofChange fnQueuesWrong)

/-- 'laws.FnFirst': WHATEVER THE INPUT: true; the input reads as it did. -/
def fnFirstSpec : ChangeSpec := { name := "fnFirst", fn := fun _ => fun
  | [d] => { results := [.lit (.bool true)], args := [d] }
  | _ => none }
def fnFirstRow : OpenClaim := { program := "ytekobedbjemdiaa", sum := "94df2c83d804a74447bb5de59ec203c9411e1eb666f473235ff57818b2eb0e59", func := "loop.example/g00553/laws.FnFirst", spec := "fnFirst", unfollowed := true, recurses := true, apart := false }
def FnFirstSaid : Prop := fnFirstRow.holds Try.pinned (OpenSpec.ofChange fnFirstSpec)

/-- ITS FALSE NEIGHBOUR: 'it returns false'. Refute it at one input. -/
def fnFirstWrong : ChangeSpec := { name := "fnFirst", fn := fun _ => fun
  | [d] => { results := [.lit (.bool false)], args := [d] }
  | _ => none }
def FnFirstWrongFalsely : Prop := fnFirstRow.holds Try.pinned (OpenSpec.ofChange fnFirstWrong)

/-- 'laws.FnExactEntryLess': WHATEVER THE INPUT: true; the input reads as it did. -/
def fnExactEntryLessSpec : ChangeSpec := { name := "fnExactEntryLess", fn := fun _ => fun
  | [d1, d2] => { results := [.lit (.bool true)], args := [d1, d2] }
  | _ => none }
def fnExactEntryLessRow : OpenClaim := { program := "ytekobedbjemdiaa", sum := "94df2c83d804a74447bb5de59ec203c9411e1eb666f473235ff57818b2eb0e59", func := "loop.example/g00553/laws.FnExactEntryLess", spec := "fnExactEntryLess", apart := false }
def FnExactEntryLessSaid : Prop := fnExactEntryLessRow.holds Try.pinned (OpenSpec.ofChange fnExactEntryLessSpec)

/-- ITS FALSE NEIGHBOUR: 'it returns false'. Refute it at one input. -/
def fnExactEntryLessWrong : ChangeSpec := { name := "fnExactEntryLess", fn := fun _ => fun
  | [d1, d2] => { results := [.lit (.bool false)], args := [d1, d2] }
  | _ => none }
def FnExactEntryLessWrongFalsely : Prop := fnExactEntryLessRow.holds Try.pinned (OpenSpec.ofChange fnExactEntryLessWrong)

/-- 'laws.FnExactQueueOk': WHATEVER THE INPUT: true; the input reads as it did. -/
def fnExactQueueOkSpec : ChangeSpec := { name := "fnExactQueueOk", fn := fun _ => fun
  | [d] => { results := [.lit (.bool true)], args := [d] }
  | _ => none }
def fnExactQueueOkRow : OpenClaim := { program := "ytekobedbjemdiaa", sum := "94df2c83d804a74447bb5de59ec203c9411e1eb666f473235ff57818b2eb0e59", func := "loop.example/g00553/laws.FnExactQueueOk", spec := "fnExactQueueOk", unfollowed := true, recurses := true, apart := false }
def FnExactQueueOkSaid : Prop := fnExactQueueOkRow.holds Try.pinned (OpenSpec.ofChange fnExactQueueOkSpec)

/-- ITS FALSE NEIGHBOUR: 'it returns false'. Refute it at one input. -/
def fnExactQueueOkWrong : ChangeSpec := { name := "fnExactQueueOk", fn := fun _ => fun
  | [d] => { results := [.lit (.bool false)], args := [d] }
  | _ => none }
def FnExactQueueOkWrongFalsely : Prop := fnExactQueueOkRow.holds Try.pinned (OpenSpec.ofChange fnExactQueueOkWrong)

/-- 'laws.FnExactQueued': WHATEVER THE INPUT: true; the input reads as it did. -/
def fnExactQueuedSpec : ChangeSpec := { name := "fnExactQueued", fn := fun _ => fun
  | [d1, d2] => { results := [.lit (.bool true)], args := [d1, d2] }
  | _ => none }
def fnExactQueuedRow : OpenClaim := { program := "ytekobedbjemdiaa", sum := "94df2c83d804a74447bb5de59ec203c9411e1eb666f473235ff57818b2eb0e59", func := "loop.example/g00553/laws.FnExactQueued", spec := "fnExactQueued", unfollowed := true, recurses := true, apart := false }
def FnExactQueuedSaid : Prop := fnExactQueuedRow.holds Try.pinned (OpenSpec.ofChange fnExactQueuedSpec)

/-- ITS FALSE NEIGHBOUR: 'it returns false'. Refute it at one input. -/
def fnExactQueuedWrong : ChangeSpec := { name := "fnExactQueued", fn := fun _ => fun
  | [d1, d2] => { results := [.lit (.bool false)], args := [d1, d2] }
  | _ => none }
def FnExactQueuedWrongFalsely : Prop := fnExactQueuedRow.holds Try.pinned (OpenSpec.ofChange fnExactQueuedWrong)

/-- 'laws.FnExactUnqueued': WHATEVER THE INPUT: true; the input reads as it did. -/
def fnExactUnqueuedSpec : ChangeSpec := { name := "fnExactUnqueued", fn := fun _ => fun
  | [d1, d2] => { results := [.lit (.bool true)], args := [d1, d2] }
  | _ => none }
def fnExactUnqueuedRow : OpenClaim := { program := "ytekobedbjemdiaa", sum := "94df2c83d804a74447bb5de59ec203c9411e1eb666f473235ff57818b2eb0e59", func := "loop.example/g00553/laws.FnExactUnqueued", spec := "fnExactUnqueued", unfollowed := true, recurses := true, apart := false }
def FnExactUnqueuedSaid : Prop := fnExactUnqueuedRow.holds Try.pinned (OpenSpec.ofChange fnExactUnqueuedSpec)

/-- ITS FALSE NEIGHBOUR: 'it returns false'. Refute it at one input. -/
def fnExactUnqueuedWrong : ChangeSpec := { name := "fnExactUnqueued", fn := fun _ => fun
  | [d1, d2] => { results := [.lit (.bool false)], args := [d1, d2] }
  | _ => none }
def FnExactUnqueuedWrongFalsely : Prop := fnExactUnqueuedRow.holds Try.pinned (OpenSpec.ofChange fnExactUnqueuedWrong)

/- THE SECOND FORM. 'bulk': how many values and letters a reading holds, each counted each time it is reached (what is shared counts as often as it is met; a slice's spare places count too). A statement '..UptoSaid' is the law's where the arguments, and the package variables that the reading takes, are together of bulk at most 1048576: NARROWER than '..Said'. Prove '..Said' where nothing that the law and all that it calls make is longer than what came in: it says more and counts as full. Else prove '..UptoSaid'. A law counts once. -/
mutual
def uptoBulk {H : Type} : DataW H → Nat
  | .lit (.string bytes) => bytes.length + 1
  | .lit _ => 1
  | .nil => 1
  | .ptr d => uptoBulk d + 1
  | .slice elems spare => uptoBulkAll elems + uptoBulkAll spare + 1
  | .agg parts => uptoBulkAll parts + 1
  | .iface _ d => uptoBulk d + 1
  | .map entries => uptoBulkEntries entries + 1
  | .held _ => 1
def uptoBulkAll {H : Type} : List (DataW H) → Nat
  | [] => 0
  | d :: r => uptoBulk d + uptoBulkAll r
def uptoBulkEntries {H : Type} : List (Lit × DataW H) → Nat
  | [] => 0
  | x :: r => uptoBulkEntry x + uptoBulkEntries r
def uptoBulkEntry {H : Type} : Lit × DataW H → Nat
  | (.string bytes, d) => bytes.length + uptoBulk d + 1
  | (_, d) => uptoBulk d + 1
 end
def uptoSmall : (H : Type) → List (DataW H) → Bool := fun _ ds => decide (uptoBulkAll ds ≤ 1048576)
def OpenSpec.upto (s : _root_.Go.ChangeSpec) : _root_.Go.OpenSpec := { _root_.Go.OpenSpec.ofChange s with cond := some uptoSmall }

/-- 'laws.FnQueues', WHERE WHAT IT READS IS OF BULK AT MOST 1048576: true; the input reads as it did. -/
def fnQueuesUptoRow : OpenClaim := { program := "ytekobedbjemdiaa", sum := "94df2c83d804a74447bb5de59ec203c9411e1eb666f473235ff57818b2eb0e59", func := "loop.example/g00553/laws.FnQueues", spec := "fnQueues", unfollowed := true, recurses := true, apart := false, narrowed := true }
def FnQueuesUptoSaid : Prop := fnQueuesUptoRow.holds Try.pinned (OpenSpec.upto fnQueuesSpec)

/-- 'laws.FnFirst', WHERE WHAT IT READS IS OF BULK AT MOST 1048576: true; the input reads as it did. -/
def fnFirstUptoRow : OpenClaim := { program := "ytekobedbjemdiaa", sum := "94df2c83d804a74447bb5de59ec203c9411e1eb666f473235ff57818b2eb0e59", func := "loop.example/g00553/laws.FnFirst", spec := "fnFirst", unfollowed := true, recurses := true, apart := false, narrowed := true }
def FnFirstUptoSaid : Prop := fnFirstUptoRow.holds Try.pinned (OpenSpec.upto fnFirstSpec)

/-- 'laws.FnExactEntryLess', WHERE WHAT IT READS IS OF BULK AT MOST 1048576: true; the input reads as it did. -/
def fnExactEntryLessUptoRow : OpenClaim := { program := "ytekobedbjemdiaa", sum := "94df2c83d804a74447bb5de59ec203c9411e1eb666f473235ff57818b2eb0e59", func := "loop.example/g00553/laws.FnExactEntryLess", spec := "fnExactEntryLess", apart := false, narrowed := true }
def FnExactEntryLessUptoSaid : Prop := fnExactEntryLessUptoRow.holds Try.pinned (OpenSpec.upto fnExactEntryLessSpec)

/-- 'laws.FnExactQueueOk', WHERE WHAT IT READS IS OF BULK AT MOST 1048576: true; the input reads as it did. -/
def fnExactQueueOkUptoRow : OpenClaim := { program := "ytekobedbjemdiaa", sum := "94df2c83d804a74447bb5de59ec203c9411e1eb666f473235ff57818b2eb0e59", func := "loop.example/g00553/laws.FnExactQueueOk", spec := "fnExactQueueOk", unfollowed := true, recurses := true, apart := false, narrowed := true }
def FnExactQueueOkUptoSaid : Prop := fnExactQueueOkUptoRow.holds Try.pinned (OpenSpec.upto fnExactQueueOkSpec)

/-- 'laws.FnExactQueued', WHERE WHAT IT READS IS OF BULK AT MOST 1048576: true; the input reads as it did. -/
def fnExactQueuedUptoRow : OpenClaim := { program := "ytekobedbjemdiaa", sum := "94df2c83d804a74447bb5de59ec203c9411e1eb666f473235ff57818b2eb0e59", func := "loop.example/g00553/laws.FnExactQueued", spec := "fnExactQueued", unfollowed := true, recurses := true, apart := false, narrowed := true }
def FnExactQueuedUptoSaid : Prop := fnExactQueuedUptoRow.holds Try.pinned (OpenSpec.upto fnExactQueuedSpec)

/-- 'laws.FnExactUnqueued', WHERE WHAT IT READS IS OF BULK AT MOST 1048576: true; the input reads as it did. -/
def fnExactUnqueuedUptoRow : OpenClaim := { program := "ytekobedbjemdiaa", sum := "94df2c83d804a74447bb5de59ec203c9411e1eb666f473235ff57818b2eb0e59", func := "loop.example/g00553/laws.FnExactUnqueued", spec := "fnExactUnqueued", unfollowed := true, recurses := true, apart := false, narrowed := true }
def FnExactUnqueuedUptoSaid : Prop := fnExactUnqueuedUptoRow.holds Try.pinned (OpenSpec.upto fnExactUnqueuedSpec)

end Rows
end Go.Proofs.Ytekobedbjemdiaa
