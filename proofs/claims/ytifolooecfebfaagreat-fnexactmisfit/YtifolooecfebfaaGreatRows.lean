/-
  No cell of these rows narrows 'for every input' (looked for: loops, veiled, ifaces, maps, wideKeys, modest, calm, conditions, laid).
  DERIVED. THE GIVEN ROWS OF THIS SEAT. 6 by the template 'for every input the law returns true; each argument reads behind the call as it read before'; 0 by the template 'total and deterministic' (their statements: YtifolooecfebfaaGreatTotals.lean).
  GIVEN WITH THE SEED: the statements are not yours to turn. If you find one false, say at which input.
  Laid BY PROGRAM, IN A SANDBOX (cutbox-rows.mjs): the forced cells as the released guide's own fill.sh prints them over the translation 7b5fd4204c143ef5… (all of the seat's roots in one cut). By AI agents, Wed Nov 11 2026. No macro, syntax, notation, axiom, sorry.
-/
import Derived.Test.YtifolooecfebfaaGreatChecked
import GoSem.Claim
import GoSem.ClaimJoined
import GoSem.ClaimMapViews
import Derived.JoinedTies
import Derived.KernelRfl
namespace Go.Proofs.YtifolooecfebfaaGreat
/- THE CELL 'sum', in the pinned program and in every row, IS THE sha256 OF THE DUMP (.gsa) THAT YtifolooecfebfaaGreatProg.lean LOADS. Nothing in Lean hashes anything: it is a label: what it is worth is what the hold of that sum in a sandbox is worth. -/
noncomputable def Tryz.pinned : Pinned := { name := "ytifolooecfebfaagreat", sum := "7b5fd4204c143ef5d9cc3b536ef34130584ddefc49f33727317ce35ea16bc717", checked := Tryz.checked }
namespace Rows
def none {H : Type} : Left H := { results := [], args := [] }

/-- 'laws.FnLevelled': WHATEVER THE INPUT: true; the input reads as it did. -/
def fnLevelledSpec : ChangeSpec := { name := "fnLevelled", fn := fun _ => fun
  | [d] => { results := [.lit (.bool true)], args := [d] }
  | _ => none }
def fnLevelledRow : OpenClaim := { program := "ytifolooecfebfaagreat", sum := "7b5fd4204c143ef5d9cc3b536ef34130584ddefc49f33727317ce35ea16bc717", func := "loop.example/g00553/laws.FnLevelled", spec := "fnLevelled", unfollowed := true, recurses := true, apart := false }
def FnLevelledSaid : Prop := fnLevelledRow.holds Tryz.pinned (OpenSpec.ofChange fnLevelledSpec)

/-- ITS FALSE NEIGHBOUR: 'it returns false'. Refute it at one input. -/
def fnLevelledWrong : ChangeSpec := { name := "fnLevelled", fn := fun _ => fun
  | [d] => { results := [.lit (.bool false)], args := [d] }
  | _ => none }
def FnLevelledWrongFalsely : Prop := fnLevelledRow.holds Tryz.pinned (OpenSpec.ofChange fnLevelledWrong)

/-- 'laws.FnKept': WHATEVER THE INPUT: true; the input reads as it did. -/
def fnKeptSpec : ChangeSpec := { name := "fnKept", fn := fun _ => fun
  | [d] => { results := [.lit (.bool true)], args := [d] }
  | _ => none }
def fnKeptRow : OpenClaim := { program := "ytifolooecfebfaagreat", sum := "7b5fd4204c143ef5d9cc3b536ef34130584ddefc49f33727317ce35ea16bc717", func := "loop.example/g00553/laws.FnKept", spec := "fnKept", unfollowed := true, recurses := true, apart := false }
def FnKeptSaid : Prop := fnKeptRow.holds Tryz.pinned (OpenSpec.ofChange fnKeptSpec)

/-- ITS FALSE NEIGHBOUR: 'it returns false'. Refute it at one input. -/
def fnKeptWrong : ChangeSpec := { name := "fnKept", fn := fun _ => fun
  | [d] => { results := [.lit (.bool false)], args := [d] }
  | _ => none }
def FnKeptWrongFalsely : Prop := fnKeptRow.holds Tryz.pinned (OpenSpec.ofChange fnKeptWrong)

/-- 'laws.FnExactIsIdle': WHATEVER THE INPUT: true; the input reads as it did. -/
def fnExactIsIdleSpec : ChangeSpec := { name := "fnExactIsIdle", fn := fun _ => fun
  | [d1, d2] => { results := [.lit (.bool true)], args := [d1, d2] }
  | _ => none }
def fnExactIsIdleRow : OpenClaim := { program := "ytifolooecfebfaagreat", sum := "7b5fd4204c143ef5d9cc3b536ef34130584ddefc49f33727317ce35ea16bc717", func := "loop.example/g00553/laws.FnExactIsIdle", spec := "fnExactIsIdle", unfollowed := true, recurses := true, apart := false }
def FnExactIsIdleSaid : Prop := fnExactIsIdleRow.holds Tryz.pinned (OpenSpec.ofChange fnExactIsIdleSpec)

/-- ITS FALSE NEIGHBOUR: 'it returns false'. Refute it at one input. -/
def fnExactIsIdleWrong : ChangeSpec := { name := "fnExactIsIdle", fn := fun _ => fun
  | [d1, d2] => { results := [.lit (.bool false)], args := [d1, d2] }
  | _ => none }
def FnExactIsIdleWrongFalsely : Prop := fnExactIsIdleRow.holds Tryz.pinned (OpenSpec.ofChange fnExactIsIdleWrong)

/-- 'laws.FnExactMisfit': WHATEVER THE INPUT: true; the input reads as it did. -/
def fnExactMisfitSpec : ChangeSpec := { name := "fnExactMisfit", fn := fun _ => fun
  | [d] => { results := [.lit (.bool true)], args := [d] }
  | _ => none }
def fnExactMisfitRow : OpenClaim := { program := "ytifolooecfebfaagreat", sum := "7b5fd4204c143ef5d9cc3b536ef34130584ddefc49f33727317ce35ea16bc717", func := "loop.example/g00553/laws.FnExactMisfit", spec := "fnExactMisfit", unfollowed := true, recurses := true, apart := false }
def FnExactMisfitSaid : Prop := fnExactMisfitRow.holds Tryz.pinned (OpenSpec.ofChange fnExactMisfitSpec)

/-- ITS FALSE NEIGHBOUR: 'it returns false'. Refute it at one input. -/
def fnExactMisfitWrong : ChangeSpec := { name := "fnExactMisfit", fn := fun _ => fun
  | [d] => { results := [.lit (.bool false)], args := [d] }
  | _ => none }
def FnExactMisfitWrongFalsely : Prop := fnExactMisfitRow.holds Tryz.pinned (OpenSpec.ofChange fnExactMisfitWrong)

/-- 'laws.FnExactWaiting': WHATEVER THE INPUT: true; the input reads as it did. -/
def fnExactWaitingSpec : ChangeSpec := { name := "fnExactWaiting", fn := fun _ => fun
  | [d] => { results := [.lit (.bool true)], args := [d] }
  | _ => none }
def fnExactWaitingRow : OpenClaim := { program := "ytifolooecfebfaagreat", sum := "7b5fd4204c143ef5d9cc3b536ef34130584ddefc49f33727317ce35ea16bc717", func := "loop.example/g00553/laws.FnExactWaiting", spec := "fnExactWaiting", unfollowed := true, recurses := true, apart := false }
def FnExactWaitingSaid : Prop := fnExactWaitingRow.holds Tryz.pinned (OpenSpec.ofChange fnExactWaitingSpec)

/-- ITS FALSE NEIGHBOUR: 'it returns false'. Refute it at one input. -/
def fnExactWaitingWrong : ChangeSpec := { name := "fnExactWaiting", fn := fun _ => fun
  | [d] => { results := [.lit (.bool false)], args := [d] }
  | _ => none }
def FnExactWaitingWrongFalsely : Prop := fnExactWaitingRow.holds Tryz.pinned (OpenSpec.ofChange fnExactWaitingWrong)

/-- 'laws.FnExactLevelled': WHATEVER THE INPUT: true; the input reads as it did. -/
def fnExactLevelledSpec : ChangeSpec := { name := "fnExactLevelled", fn := fun _ => fun
  | [d] => { results := [.lit (.bool true)], args := [d] }
  | _ => none }
def fnExactLevelledRow : OpenClaim := { program := "ytifolooecfebfaagreat", sum := "7b5fd4204c143ef5d9cc3b536ef34130584ddefc49f33727317ce35ea16bc717", func := "loop.example/g00553/laws.FnExactLevelled", spec := "fnExactLevelled", unfollowed := true, recurses := true, apart := false }
def FnExactLevelledSaid : Prop := fnExactLevelledRow.holds Tryz.pinned (OpenSpec.ofChange fnExactLevelledSpec)

/-- ITS FALSE NEIGHBOUR: 'it returns false'. Refute it at one input. -/
def fnExactLevelledWrong : ChangeSpec := { name := "fnExactLevelled", fn := fun _ => fun
  | [d] => { results := [.lit (.bool false)], args := [d] }
  | _ => none }
def FnExactLevelledWrongFalsely : Prop := fnExactLevelledRow.holds Tryz.pinned (OpenSpec.ofChange fnExactLevelledWrong)

/- THE SECOND FORM. 'bulk': how many values and letters a reading holds, each counted each time it is reached (what is shared counts as often as it is met; a slice's spare places count too). A statement '..UptoSaid' is the law's where the arguments, and the package variables that the reading takes, are together of bulk at most 1048576: NARROWER than '..Said'. Prove '..Said' where nothing that the law and all that it calls make is longer than what came in: it says more and counts as full. Else prove '..UptoSaid'. A law counts once. -/
mutual
def uptoBulk {H : Type} : DataW H → Nat
  | .lit (.string bytes) => bytes.length + 1
  | .lit _ => 1
  | .nil => 1
  | .ptr d => uptoBulk d + 1
  | .slice elems spare => uptoBulkAll elems + uptoBulkAll spare + 1
  | .agg parts => uptoBulkAll parts + 1
  | .iface _ d => uptoBulk d + 1
  | .map entries => uptoBulkEntries entries + 1
  | .held _ => 1
def uptoBulkAll {H : Type} : List (DataW H) → Nat
  | [] => 0
  | d :: r => uptoBulk d + uptoBulkAll r
def uptoBulkEntries {H : Type} : List (Lit × DataW H) → Nat
  | [] => 0
  | x :: r => uptoBulkEntry x + uptoBulkEntries r
def uptoBulkEntry {H : Type} : Lit × DataW H → Nat
  | (.string bytes, d) => bytes.length + uptoBulk d + 1
  | (_, d) => uptoBulk d + 1
 end
def uptoSmall : (H : Type) → List (DataW H) → Bool := fun _ ds => decide (uptoBulkAll ds ≤ 1048576)
def OpenSpec.upto (s : _root_.Go.ChangeSpec) : _root_.Go.OpenSpec := { _root_.Go.OpenSpec.ofChange s with cond := some uptoSmall }

/-- 'laws.FnLevelled', WHERE WHAT IT READS IS OF BULK AT MOST 1048576: true; the input reads as it did. -/
def fnLevelledUptoRow : OpenClaim := { program := "ytifolooecfebfaagreat", sum := "7b5fd4204c143ef5d9cc3b536ef34130584ddefc49f33727317ce35ea16bc717", func := "loop.example/g00553/laws.FnLevelled", spec := "fnLevelled", unfollowed := true, recurses := true, apart := false, narrowed := true }
def FnLevelledUptoSaid : Prop := fnLevelledUptoRow.holds Tryz.pinned (OpenSpec.upto fnLevelledSpec)

/-- 'laws.FnKept', WHERE WHAT IT READS IS OF BULK AT MOST 1048576: true; the input reads as it did. -/
def fnKeptUptoRow : OpenClaim := { program := "ytifolooecfebfaagreat", sum := "7b5fd4204c143ef5d9cc3b536ef34130584ddefc49f33727317ce35ea16bc717", func := "loop.example/g00553/laws.FnKept", spec := "fnKept", unfollowed := true, recurses := true, apart := false, narrowed := true }
def FnKeptUptoSaid : Prop := fnKeptUptoRow.holds Tryz.pinned (OpenSpec.upto fnKeptSpec)

/-- 'laws.FnExactIsIdle', WHERE WHAT IT READS IS OF BULK AT MOST 1048576: true; the input reads as it did. -/
def fnExactIsIdleUptoRow : OpenClaim := { program := "ytifolooecfebfaagreat", sum := "7b5fd4204c143ef5d9cc3b536ef34130584ddefc49f33727317ce35ea16bc717", func := "loop.example/g00553/laws.FnExactIsIdle", spec := "fnExactIsIdle", unfollowed := true, recurses := true, apart := false, narrowed := true }
def FnExactIsIdleUptoSaid : Prop := fnExactIsIdleUptoRow.holds Tryz.pinned (OpenSpec.upto fnExactIsIdleSpec)

/-- 'laws.FnExactMisfit', WHERE WHAT IT READS IS OF BULK AT MOST 1048576: true; the input reads as it did. -/
def fnExactMisfitUptoRow : OpenClaim := { program := "ytifolooecfebfaagreat", sum := "7b5fd4204c143ef5d9cc3b536ef34130584ddefc49f33727317ce35ea16bc717", func := "loop.example/g00553/laws.FnExactMisfit", spec := "fnExactMisfit", unfollowed := true, recurses := true, apart := false, narrowed := true }
def FnExactMisfitUptoSaid : Prop := fnExactMisfitUptoRow.holds Tryz.pinned (OpenSpec.upto fnExactMisfitSpec)

/-- 'laws.FnExactWaiting', WHERE WHAT IT READS IS OF BULK AT MOST 1048576: true; the input reads as it did. -/
def fnExactWaitingUptoRow : OpenClaim := { program := "ytifolooecfebfaagreat", sum := "7b5fd4204c143ef5d9cc3b536ef34130584ddefc49f33727317ce35ea16bc717", func := "loop.example/g00553/laws.FnExactWaiting", spec := "fnExactWaiting", unfollowed := true, recurses := true, apart := false, narrowed := true }
def FnExactWaitingUptoSaid : Prop := fnExactWaitingUptoRow.holds Tryz.pinned (OpenSpec.upto fnExactWaitingSpec)

/-- 'laws.FnExactLevelled', WHERE WHAT IT READS IS OF BULK AT MOST 1048576: true; the input reads as it did. -/
def fnExactLevelledUptoRow : OpenClaim := { program := "ytifolooecfebfaagreat", sum := "7b5fd4204c143ef5d9cc3b536ef34130584ddefc49f33727317ce35ea16bc717", func := "loop.example/g00553/laws.FnExactLevelled", spec := "fnExactLevelled", unfollowed := true, recurses := true, apart := false, narrowed := true }
def FnExactLevelledUptoSaid : Prop := fnExactLevelledUptoRow.holds Tryz.pinned (OpenSpec.upto fnExactLevelledSpec)

end Rows
end Go.Proofs.YtifolooecfebfaaGreat
