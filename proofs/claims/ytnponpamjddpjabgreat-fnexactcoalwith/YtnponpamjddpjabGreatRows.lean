/-
  No cell of these rows narrows 'for every input' (looked for: loops, veiled, ifaces, maps, wideKeys, modest, calm, conditions, laid).
  DERIVED. THE GIVEN ROWS OF THIS SEAT. 4 by the template 'for every input the law returns true; each argument reads behind the call as it read before'; 0 by the template 'total and deterministic' (their statements: YtnponpamjddpjabGreatTotals.lean).
  GIVEN WITH THE SEED: the statements are not yours to turn. If you find one false, say at which input.
  Laid BY PROGRAM, IN A SANDBOX (cutbox-rows.mjs): the forced cells as the released guide's own fill.sh prints them over the translation ea98a0333cc6a0e4… (all of the seat's roots in one cut). By AI agents, Wed Nov 11 2026. No macro, syntax, notation, axiom, sorry.
-/
import Derived.Test.YtnponpamjddpjabGreatChecked
import GoSem.Claim
import GoSem.ClaimJoined
import GoSem.ClaimMapViews
import Derived.JoinedTies
import Derived.KernelRfl
namespace Go.Proofs.YtnponpamjddpjabGreat
/- THE CELL 'sum', in the pinned program and in every row, IS THE sha256 OF THE DUMP (.gsa) THAT YtnponpamjddpjabGreatProg.lean LOADS. Nothing in Lean hashes anything: it is a label: what it is worth is what the hold of that sum in a sandbox is worth. -/
noncomputable def Tryz.pinned : Pinned := { name := "ytnponpamjddpjabgreat", sum := "ea98a0333cc6a0e42610ee19f7b7ae59e1cde0bb024c8f2e71108a5e18ecbef5", checked := Tryz.checked }
namespace Rows
def none {H : Type} : Left H := { results := [], args := [] }

/-- 'laws.FnExactNeedIn': WHATEVER THE INPUT: true; the input reads as it did. -/
def fnExactNeedInSpec : ChangeSpec := { name := "fnExactNeedIn", fn := fun _ => fun
  | [d1, d2] => { results := [.lit (.bool true)], args := [d1, d2] }
  | _ => none }
def fnExactNeedInRow : OpenClaim := { program := "ytnponpamjddpjabgreat", sum := "ea98a0333cc6a0e42610ee19f7b7ae59e1cde0bb024c8f2e71108a5e18ecbef5", func := "loop.example/g00553/laws.FnExactNeedIn", spec := "fnExactNeedIn", unfollowed := true, recurses := true, apart := false }
def FnExactNeedInSaid : Prop := fnExactNeedInRow.holds Tryz.pinned (OpenSpec.ofChange fnExactNeedInSpec)

/-- ITS FALSE NEIGHBOUR: 'it returns false'. Refute it at one input. -/
def fnExactNeedInWrong : ChangeSpec := { name := "fnExactNeedIn", fn := fun _ => fun
  | [d1, d2] => { results := [.lit (.bool false)], args := [d1, d2] }
  | _ => none }
def FnExactNeedInWrongFalsely : Prop := fnExactNeedInRow.holds Tryz.pinned (OpenSpec.ofChange fnExactNeedInWrong)

/-- 'laws.FnExactCoalIn': WHATEVER THE INPUT: true; the input reads as it did. -/
def fnExactCoalInSpec : ChangeSpec := { name := "fnExactCoalIn", fn := fun _ => fun
  | [d1, d2] => { results := [.lit (.bool true)], args := [d1, d2] }
  | _ => none }
def fnExactCoalInRow : OpenClaim := { program := "ytnponpamjddpjabgreat", sum := "ea98a0333cc6a0e42610ee19f7b7ae59e1cde0bb024c8f2e71108a5e18ecbef5", func := "loop.example/g00553/laws.FnExactCoalIn", spec := "fnExactCoalIn", unfollowed := true, recurses := true, apart := false }
def FnExactCoalInSaid : Prop := fnExactCoalInRow.holds Tryz.pinned (OpenSpec.ofChange fnExactCoalInSpec)

/-- ITS FALSE NEIGHBOUR: 'it returns false'. Refute it at one input. -/
def fnExactCoalInWrong : ChangeSpec := { name := "fnExactCoalIn", fn := fun _ => fun
  | [d1, d2] => { results := [.lit (.bool false)], args := [d1, d2] }
  | _ => none }
def FnExactCoalInWrongFalsely : Prop := fnExactCoalInRow.holds Tryz.pinned (OpenSpec.ofChange fnExactCoalInWrong)

/-- 'laws.FnExactCoalOf': WHATEVER THE INPUT: true; the input reads as it did. -/
def fnExactCoalOfSpec : ChangeSpec := { name := "fnExactCoalOf", fn := fun _ => fun
  | [d] => { results := [.lit (.bool true)], args := [d] }
  | _ => none }
def fnExactCoalOfRow : OpenClaim := { program := "ytnponpamjddpjabgreat", sum := "ea98a0333cc6a0e42610ee19f7b7ae59e1cde0bb024c8f2e71108a5e18ecbef5", func := "loop.example/g00553/laws.FnExactCoalOf", spec := "fnExactCoalOf", unfollowed := true, recurses := true, apart := false }
def FnExactCoalOfSaid : Prop := fnExactCoalOfRow.holds Tryz.pinned (OpenSpec.ofChange fnExactCoalOfSpec)

/-- ITS FALSE NEIGHBOUR: 'it returns false'. Refute it at one input. -/
def fnExactCoalOfWrong : ChangeSpec := { name := "fnExactCoalOf", fn := fun _ => fun
  | [d] => { results := [.lit (.bool false)], args := [d] }
  | _ => none }
def FnExactCoalOfWrongFalsely : Prop := fnExactCoalOfRow.holds Tryz.pinned (OpenSpec.ofChange fnExactCoalOfWrong)

/-- 'laws.FnExactCoalWith': WHATEVER THE INPUT: true; the input reads as it did. -/
def fnExactCoalWithSpec : ChangeSpec := { name := "fnExactCoalWith", fn := fun _ => fun
  | [d1, d2, d3] => { results := [.lit (.bool true)], args := [d1, d2, d3] }
  | _ => none }
def fnExactCoalWithRow : OpenClaim := { program := "ytnponpamjddpjabgreat", sum := "ea98a0333cc6a0e42610ee19f7b7ae59e1cde0bb024c8f2e71108a5e18ecbef5", func := "loop.example/g00553/laws.FnExactCoalWith", spec := "fnExactCoalWith", unfollowed := true, recurses := true, apart := false }
def FnExactCoalWithSaid : Prop := fnExactCoalWithRow.holds Tryz.pinned (OpenSpec.ofChange fnExactCoalWithSpec)

/-- ITS FALSE NEIGHBOUR: 'it returns false'. Refute it at one input. -/
def fnExactCoalWithWrong : ChangeSpec := { name := "fnExactCoalWith", fn := fun _ => fun
  | [d1, d2, d3] => { results := [.lit (.bool false)], args := [d1, d2, d3] }
  | _ => none }
def FnExactCoalWithWrongFalsely : Prop := fnExactCoalWithRow.holds Tryz.pinned (OpenSpec.ofChange fnExactCoalWithWrong)

/- THE SECOND FORM. 'bulk': how many values and letters a reading holds, each counted each time it is reached (what is shared counts as often as it is met; a slice's spare places count too). A statement '..UptoSaid' is the law's where the arguments, and the package variables that the reading takes, are together of bulk at most 1048576: NARROWER than '..Said'. Prove '..Said' where nothing that the law and all that it calls make is longer than what came in: it says more and counts as full. Else prove '..UptoSaid'. A law counts once. -/
mutual
def uptoBulk {H : Type} : DataW H → Nat
  | .lit (.string bytes) => bytes.length + 1
  | .lit _ => 1
  | .nil => 1
  | .ptr d => uptoBulk d + 1
  | .slice elems spare => uptoBulkAll elems + uptoBulkAll spare + 1
  | .agg parts => uptoBulkAll parts + 1
  | .iface _ d => uptoBulk d + 1
  | .map entries => uptoBulkEntries entries + 1
  | .held _ => 1
def uptoBulkAll {H : Type} : List (DataW H) → Nat
  | [] => 0
  | d :: r => uptoBulk d + uptoBulkAll r
def uptoBulkEntries {H : Type} : List (Lit × DataW H) → Nat
  | [] => 0
  | x :: r => uptoBulkEntry x + uptoBulkEntries r
def uptoBulkEntry {H : Type} : Lit × DataW H → Nat
  | (.string bytes, d) => bytes.length + uptoBulk d + 1
  | (_, d) => uptoBulk d + 1
 end
def uptoSmall : (H : Type) → List (DataW H) → Bool := fun _ ds => decide (uptoBulkAll ds ≤ 1048576)
def OpenSpec.upto (s : _root_.Go.ChangeSpec) : _root_.Go.OpenSpec := { _root_.Go.OpenSpec.ofChange s with cond := some uptoSmall }

/-- 'laws.FnExactNeedIn', WHERE WHAT IT READS IS OF BULK AT MOST 1048576: true; the input reads as it did. -/
def fnExactNeedInUptoRow : OpenClaim := { program := "ytnponpamjddpjabgreat", sum := "ea98a0333cc6a0e42610ee19f7b7ae59e1cde0bb024c8f2e71108a5e18ecbef5", func := "loop.example/g00553/laws.FnExactNeedIn", spec := "fnExactNeedIn", unfollowed := true, recurses := true, apart := false, narrowed := true }
def FnExactNeedInUptoSaid : Prop := fnExactNeedInUptoRow.holds Tryz.pinned (OpenSpec.upto fnExactNeedInSpec)

/-- 'laws.FnExactCoalIn', WHERE WHAT IT READS IS OF BULK AT MOST 1048576: true; the input reads as it did. -/
def fnExactCoalInUptoRow : OpenClaim := { program := "ytnponpamjddpjabgreat", sum := "ea98a0333cc6a0e42610ee19f7b7ae59e1cde0bb024c8f2e71108a5e18ecbef5", func := "loop.example/g00553/laws.FnExactCoalIn", spec := "fnExactCoalIn", unfollowed := true, recurses := true, apart := false, narrowed := true }
def FnExactCoalInUptoSaid : Prop := fnExactCoalInUptoRow.holds Tryz.pinned (OpenSpec.upto fnExactCoalInSpec)

/-- 'laws.FnExactCoalOf', WHERE WHAT IT READS IS OF BULK AT MOST 1048576: true; the input reads as it did. -/
def fnExactCoalOfUptoRow : OpenClaim := { program := "ytnponpamjddpjabgreat", sum := "ea98a0333cc6a0e42610ee19f7b7ae59e1cde0bb024c8f2e71108a5e18ecbef5", func := "loop.example/g00553/laws.FnExactCoalOf", spec := "fnExactCoalOf", unfollowed := true, recurses := true, apart := false, narrowed := true }
def FnExactCoalOfUptoSaid : Prop := fnExactCoalOfUptoRow.holds Tryz.pinned (OpenSpec.upto fnExactCoalOfSpec)

/-- 'laws.FnExactCoalWith', WHERE WHAT IT READS IS OF BULK AT MOST 1048576: true; the input reads as it did. -/
def fnExactCoalWithUptoRow : OpenClaim := { program := "ytnponpamjddpjabgreat", sum := "ea98a0333cc6a0e42610ee19f7b7ae59e1cde0bb024c8f2e71108a5e18ecbef5", func := "loop.example/g00553/laws.FnExactCoalWith", spec := "fnExactCoalWith", unfollowed := true, recurses := true, apart := false, narrowed := true }
def FnExactCoalWithUptoSaid : Prop := fnExactCoalWithUptoRow.holds Tryz.pinned (OpenSpec.upto fnExactCoalWithSpec)

end Rows
end Go.Proofs.YtnponpamjddpjabGreat
