/-
  No cell of these rows narrows 'for every input' (looked for: loops, veiled, ifaces, maps, wideKeys, modest, calm, conditions, laid).
  DERIVED. THE GIVEN ROWS OF THIS SEAT. 6 by the template 'for every input the law returns true; each argument reads behind the call as it read before'; 0 by the template 'total and deterministic' (their statements: YtnponpamjddpjaaGreatTotals.lean).
  GIVEN WITH THE SEED: the statements are not yours to turn. If you find one false, say at which input.
  Laid BY PROGRAM, IN A SANDBOX (cutbox-rows.mjs): the forced cells as the released guide's own fill.sh prints them over the translation b9f789a8ce1f87c7… (all of the seat's roots in one cut). By AI agents, Wed Nov 11 2026. No macro, syntax, notation, axiom, sorry.
-/
import Derived.Test.YtnponpamjddpjaaGreatChecked
import GoSem.Claim
import GoSem.ClaimJoined
import GoSem.ClaimMapViews
import Derived.JoinedTies
import Derived.KernelRfl
namespace Go.Proofs.YtnponpamjddpjaaGreat
/- THE CELL 'sum', in the pinned program and in every row, IS THE sha256 OF THE DUMP (.gsa) THAT YtnponpamjddpjaaGreatProg.lean LOADS. Nothing in Lean hashes anything: it is a label: what it is worth is what the hold of that sum in a sandbox is worth. -/
noncomputable def Tryz.pinned : Pinned := { name := "ytnponpamjddpjaagreat", sum := "b9f789a8ce1f87c787401ca2f5591be8742ff7311ba0308891c199af1715a689", checked := Tryz.checked }
namespace Rows
def none {H : Type} : Left H := { results := [], args := [] }

/-- 'laws.FnRight': WHATEVER THE INPUT: true; the input reads as it did. -/
def fnRightSpec : ChangeSpec := { name := "fnRight", fn := fun _ => fun
  | [d] => { results := [.lit (.bool true)], args := [d] }
  | _ => none }
def fnRightRow : OpenClaim := { program := "ytnponpamjddpjaagreat", sum := "b9f789a8ce1f87c787401ca2f5591be8742ff7311ba0308891c199af1715a689", func := "loop.example/g00553/laws.FnRight", spec := "fnRight", unfollowed := true, recurses := true, apart := false }
def FnRightSaid : Prop := fnRightRow.holds Tryz.pinned (OpenSpec.ofChange fnRightSpec)

/-- ITS FALSE NEIGHBOUR: 'it returns false'. Refute it at one input. -/
def fnRightWrong : ChangeSpec := { name := "fnRight", fn := fun _ => fun
  | [d] => { results := [.lit (.bool false)], args := [d] }
  | _ => none }
def FnRightWrongFalsely : Prop := fnRightRow.holds Tryz.pinned (OpenSpec.ofChange fnRightWrong)

/-- 'laws.FnTurned': WHATEVER THE INPUT: true; the input reads as it did. -/
def fnTurnedSpec : ChangeSpec := { name := "fnTurned", fn := fun _ => fun
  | [d] => { results := [.lit (.bool true)], args := [d] }
  | _ => none }
def fnTurnedRow : OpenClaim := { program := "ytnponpamjddpjaagreat", sum := "b9f789a8ce1f87c787401ca2f5591be8742ff7311ba0308891c199af1715a689", func := "loop.example/g00553/laws.FnTurned", spec := "fnTurned", unfollowed := true, recurses := true, apart := false }
def FnTurnedSaid : Prop := fnTurnedRow.holds Tryz.pinned (OpenSpec.ofChange fnTurnedSpec)

/-- ITS FALSE NEIGHBOUR: 'it returns false'. Refute it at one input. -/
def fnTurnedWrong : ChangeSpec := { name := "fnTurned", fn := fun _ => fun
  | [d] => { results := [.lit (.bool false)], args := [d] }
  | _ => none }
def FnTurnedWrongFalsely : Prop := fnTurnedRow.holds Tryz.pinned (OpenSpec.ofChange fnTurnedWrong)

/-- 'laws.FnLeast': WHATEVER THE INPUT: true; the input reads as it did. -/
def fnLeastSpec : ChangeSpec := { name := "fnLeast", fn := fun _ => fun
  | [d] => { results := [.lit (.bool true)], args := [d] }
  | _ => none }
def fnLeastRow : OpenClaim := { program := "ytnponpamjddpjaagreat", sum := "b9f789a8ce1f87c787401ca2f5591be8742ff7311ba0308891c199af1715a689", func := "loop.example/g00553/laws.FnLeast", spec := "fnLeast", unfollowed := true, recurses := true, apart := false }
def FnLeastSaid : Prop := fnLeastRow.holds Tryz.pinned (OpenSpec.ofChange fnLeastSpec)

/-- ITS FALSE NEIGHBOUR: 'it returns false'. Refute it at one input. -/
def fnLeastWrong : ChangeSpec := { name := "fnLeast", fn := fun _ => fun
  | [d] => { results := [.lit (.bool false)], args := [d] }
  | _ => none }
def FnLeastWrongFalsely : Prop := fnLeastRow.holds Tryz.pinned (OpenSpec.ofChange fnLeastWrong)

/-- 'laws.FnCoal': WHATEVER THE INPUT: true; the input reads as it did. -/
def fnCoalSpec : ChangeSpec := { name := "fnCoal", fn := fun _ => fun
  | [d] => { results := [.lit (.bool true)], args := [d] }
  | _ => none }
def fnCoalRow : OpenClaim := { program := "ytnponpamjddpjaagreat", sum := "b9f789a8ce1f87c787401ca2f5591be8742ff7311ba0308891c199af1715a689", func := "loop.example/g00553/laws.FnCoal", spec := "fnCoal", unfollowed := true, recurses := true, apart := false }
def FnCoalSaid : Prop := fnCoalRow.holds Tryz.pinned (OpenSpec.ofChange fnCoalSpec)

/-- ITS FALSE NEIGHBOUR: 'it returns false'. Refute it at one input. -/
def fnCoalWrong : ChangeSpec := { name := "fnCoal", fn := fun _ => fun
  | [d] => { results := [.lit (.bool false)], args := [d] }
  | _ => none }
def FnCoalWrongFalsely : Prop := fnCoalRow.holds Tryz.pinned (OpenSpec.ofChange fnCoalWrong)

/-- 'laws.FnWith': WHATEVER THE INPUT: true; the input reads as it did. -/
def fnWithSpec : ChangeSpec := { name := "fnWith", fn := fun _ => fun
  | [d] => { results := [.lit (.bool true)], args := [d] }
  | _ => none }
def fnWithRow : OpenClaim := { program := "ytnponpamjddpjaagreat", sum := "b9f789a8ce1f87c787401ca2f5591be8742ff7311ba0308891c199af1715a689", func := "loop.example/g00553/laws.FnWith", spec := "fnWith", unfollowed := true, recurses := true, apart := false }
def FnWithSaid : Prop := fnWithRow.holds Tryz.pinned (OpenSpec.ofChange fnWithSpec)

/-- ITS FALSE NEIGHBOUR: 'it returns false'. Refute it at one input. -/
def fnWithWrong : ChangeSpec := { name := "fnWith", fn := fun _ => fun
  | [d] => { results := [.lit (.bool false)], args := [d] }
  | _ => none }
def FnWithWrongFalsely : Prop := fnWithRow.holds Tryz.pinned (OpenSpec.ofChange fnWithWrong)

/-- 'laws.FnExactUsedAt': WHATEVER THE INPUT: true; the input reads as it did. -/
def fnExactUsedAtSpec : ChangeSpec := { name := "fnExactUsedAt", fn := fun _ => fun
  | [d1, d2] => { results := [.lit (.bool true)], args := [d1, d2] }
  | _ => none }
def fnExactUsedAtRow : OpenClaim := { program := "ytnponpamjddpjaagreat", sum := "b9f789a8ce1f87c787401ca2f5591be8742ff7311ba0308891c199af1715a689", func := "loop.example/g00553/laws.FnExactUsedAt", spec := "fnExactUsedAt", unfollowed := true, recurses := true, apart := false }
def FnExactUsedAtSaid : Prop := fnExactUsedAtRow.holds Tryz.pinned (OpenSpec.ofChange fnExactUsedAtSpec)

/-- ITS FALSE NEIGHBOUR: 'it returns false'. Refute it at one input. -/
def fnExactUsedAtWrong : ChangeSpec := { name := "fnExactUsedAt", fn := fun _ => fun
  | [d1, d2] => { results := [.lit (.bool false)], args := [d1, d2] }
  | _ => none }
def FnExactUsedAtWrongFalsely : Prop := fnExactUsedAtRow.holds Tryz.pinned (OpenSpec.ofChange fnExactUsedAtWrong)

/- THE SECOND FORM. 'bulk': how many values and letters a reading holds, each counted each time it is reached (what is shared counts as often as it is met; a slice's spare places count too). A statement '..UptoSaid' is the law's where the arguments, and the package variables that the reading takes, are together of bulk at most 1048576: NARROWER than '..Said'. Prove '..Said' where nothing that the law and all that it calls make is longer than what came in: it says more and counts as full. Else prove '..UptoSaid'. A law counts once. -/
mutual
def uptoBulk {H : Type} : DataW H → Nat
  | .lit (.string bytes) => bytes.length + 1
  | .lit _ => 1
  | .nil => 1
  | .ptr d => uptoBulk d + 1
  | .slice elems spare => uptoBulkAll elems + uptoBulkAll spare + 1
  | .agg parts => uptoBulkAll parts + 1
  | .iface _ d => uptoBulk d + 1
  | .map entries => uptoBulkEntries entries + 1
  | .held _ => 1
def uptoBulkAll {H : Type} : List (DataW H) → Nat
  | [] => 0
  | d :: r => uptoBulk d + uptoBulkAll r
def uptoBulkEntries {H : Type} : List (Lit × DataW H) → Nat
  | [] => 0
  | x :: r => uptoBulkEntry x + uptoBulkEntries r
def uptoBulkEntry {H : Type} : Lit × DataW H → Nat
  | (.string bytes, d) => bytes.length + uptoBulk d + 1
  | (_, d) => uptoBulk d + 1
 end
def uptoSmall : (H : Type) → List (DataW H) → Bool := fun _ ds => decide (uptoBulkAll ds ≤ 1048576)
def OpenSpec.upto (s : _root_.Go.ChangeSpec) : _root_.Go.OpenSpec := { _root_.Go.OpenSpec.ofChange s with cond := some uptoSmall }

/-- 'laws.FnRight', WHERE WHAT IT READS IS OF BULK AT MOST 1048576: true; the input reads as it did. -/
def fnRightUptoRow : OpenClaim := { program := "ytnponpamjddpjaagreat", sum := "b9f789a8ce1f87c787401ca2f5591be8742ff7311ba0308891c199af1715a689", func := "loop.example/g00553/laws.FnRight", spec := "fnRight", unfollowed := true, recurses := true, apart := false, narrowed := true }
def FnRightUptoSaid : Prop := fnRightUptoRow.holds Tryz.pinned (OpenSpec.upto fnRightSpec)

/-- 'laws.FnTurned', WHERE WHAT IT READS IS OF BULK AT MOST 1048576: true; the input reads as it did. -/
def fnTurnedUptoRow : OpenClaim := { program := "ytnponpamjddpjaagreat", sum := "b9f789a8ce1f87c787401ca2f5591be8742ff7311ba0308891c199af1715a689", func := "loop.example/g00553/laws.FnTurned", spec := "fnTurned", unfollowed := true, recurses := true, apart := false, narrowed := true }
def FnTurnedUptoSaid : Prop := fnTurnedUptoRow.holds Tryz.pinned (OpenSpec.upto fnTurnedSpec)

/-- 'laws.FnLeast', WHERE WHAT IT READS IS OF BULK AT MOST 1048576: true; the input reads as it did. -/
def fnLeastUptoRow : OpenClaim := { program := "ytnponpamjddpjaagreat", sum := "b9f789a8ce1f87c787401ca2f5591be8742ff7311ba0308891c199af1715a689", func := "loop.example/g00553/laws.FnLeast", spec := "fnLeast", unfollowed := true, recurses := true, apart := false, narrowed := true }
def FnLeastUptoSaid : Prop := fnLeastUptoRow.holds Tryz.pinned (OpenSpec.upto fnLeastSpec)

/-- 'laws.FnCoal', WHERE WHAT IT READS IS OF BULK AT MOST 1048576: true; the input reads as it did. -/
def fnCoalUptoRow : OpenClaim := { program := "ytnponpamjddpjaagreat", sum := "b9f789a8ce1f87c787401ca2f5591be8742ff7311ba0308891c199af1715a689", func := "loop.example/g00553/laws.FnCoal", spec := "fnCoal", unfollowed := true, recurses := true, apart := false, narrowed := true }
def FnCoalUptoSaid : Prop := fnCoalUptoRow.holds Tryz.pinned (OpenSpec.upto fnCoalSpec)

/-- 'laws.FnWith', WHERE WHAT IT READS IS OF BULK AT MOST 1048576: true; the input reads as it did. -/
def fnWithUptoRow : OpenClaim := { program := "ytnponpamjddpjaagreat", sum := "b9f789a8ce1f87c787401ca2f5591be8742ff7311ba0308891c199af1715a689", func := "loop.example/g00553/laws.FnWith", spec := "fnWith", unfollowed := true, recurses := true, apart := false, narrowed := true }
def FnWithUptoSaid : Prop := fnWithUptoRow.holds Tryz.pinned (OpenSpec.upto fnWithSpec)

/-- 'laws.FnExactUsedAt', WHERE WHAT IT READS IS OF BULK AT MOST 1048576: true; the input reads as it did. -/
def fnExactUsedAtUptoRow : OpenClaim := { program := "ytnponpamjddpjaagreat", sum := "b9f789a8ce1f87c787401ca2f5591be8742ff7311ba0308891c199af1715a689", func := "loop.example/g00553/laws.FnExactUsedAt", spec := "fnExactUsedAt", unfollowed := true, recurses := true, apart := false, narrowed := true }
def FnExactUsedAtUptoSaid : Prop := fnExactUsedAtUptoRow.holds Tryz.pinned (OpenSpec.upto fnExactUsedAtSpec)

end Rows
end Go.Proofs.YtnponpamjddpjaaGreat
