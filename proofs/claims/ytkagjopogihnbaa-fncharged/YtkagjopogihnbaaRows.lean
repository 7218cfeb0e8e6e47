/-
  No cell of these rows narrows 'for every input' (looked for: loops, veiled, ifaces, maps, wideKeys, modest, calm, conditions, laid).
  DERIVED. THE GIVEN ROWS OF THIS SEAT. 4 by the template 'for every input the law returns true; each argument reads behind the call as it read before'; 0 by the template 'total and deterministic' (their statements: YtkagjopogihnbaaTotals.lean).
  GIVEN WITH THE SEED: the statements are not yours to turn. If you find one false, say at which input.
  Laid BY PROGRAM, IN A SANDBOX (cutbox-rows.mjs): the forced cells as the released guide's own fill.sh prints them over the translation 504461b7eaa10616… (all of the seat's roots in one cut). By AI agents, Wed Nov 11 2026. No macro, syntax, notation, axiom, sorry.
-/
import Derived.Test.YtkagjopogihnbaaChecked
import GoSem.Claim
import GoSem.ClaimJoined
import GoSem.ClaimMapViews
import Derived.JoinedTies
import Derived.KernelRfl
namespace Go.Proofs.Ytkagjopogihnbaa
/- THE CELL 'sum', in the pinned program and in every row, IS THE sha256 OF THE DUMP (.gsa) THAT YtkagjopogihnbaaProg.lean LOADS. Nothing in Lean hashes anything: it is a label: what it is worth is what the hold of that sum in a sandbox is worth. -/
noncomputable def Try.pinned : Pinned := { name := "ytkagjopogihnbaa", sum := "504461b7eaa10616354ebd4d18154abe356c8a47aea21547b6fea9617f277d34", checked := Try.checked }
namespace Rows
def none {H : Type} : Left H := { results := [], args := [] }

/-- 'laws.FnCharged': WHATEVER THE INPUT: true; the input reads as it did. -/
def fnChargedSpec : ChangeSpec := { name := "fnCharged", fn := fun _ => fun
  | [d] => { results := [.lit (.bool true)], args := [d] }
  | _ => none }
def fnChargedRow : OpenClaim := { program := "ytkagjopogihnbaa", sum := "504461b7eaa10616354ebd4d18154abe356c8a47aea21547b6fea9617f277d34", func := "loop.example/g00553/laws.FnCharged", spec := "fnCharged", unfollowed := true, recurses := true, apart := false }
def FnChargedSaid : Prop := fnChargedRow.holds Try.pinned (OpenSpec.ofChange fnChargedSpec)

/-- ITS FALSE NEIGHBOUR: 'it returns false'. Refute it at one input. -/
def fnChargedWrong : ChangeSpec := { name := "fnCharged", fn := fun _ => fun
  | [d] => { results := [.lit (.bool false)], args := [d] }
  | _ => none }
def FnChargedWrongFalsely : Prop := fnChargedRow.holds Try.pinned (OpenSpec.ofChange fnChargedWrong)

/-- 'laws.FnExactSmithOk': WHATEVER THE INPUT: true; the input reads as it did. -/
def fnExactSmithOkSpec : ChangeSpec := { name := "fnExactSmithOk", fn := fun _ => fun
  | [d] => { results := [.lit (.bool true)], args := [d] }
  | _ => none }
def fnExactSmithOkRow : OpenClaim := { program := "ytkagjopogihnbaa", sum := "504461b7eaa10616354ebd4d18154abe356c8a47aea21547b6fea9617f277d34", func := "loop.example/g00553/laws.FnExactSmithOk", spec := "fnExactSmithOk", unfollowed := true, recurses := true, apart := false }
def FnExactSmithOkSaid : Prop := fnExactSmithOkRow.holds Try.pinned (OpenSpec.ofChange fnExactSmithOkSpec)

/-- ITS FALSE NEIGHBOUR: 'it returns false'. Refute it at one input. -/
def fnExactSmithOkWrong : ChangeSpec := { name := "fnExactSmithOk", fn := fun _ => fun
  | [d] => { results := [.lit (.bool false)], args := [d] }
  | _ => none }
def FnExactSmithOkWrongFalsely : Prop := fnExactSmithOkRow.holds Try.pinned (OpenSpec.ofChange fnExactSmithOkWrong)

/-- 'laws.FnExactCharged': WHATEVER THE INPUT: true; the input reads as it did. -/
def fnExactChargedSpec : ChangeSpec := { name := "fnExactCharged", fn := fun _ => fun
  | [d1, d2] => { results := [.lit (.bool true)], args := [d1, d2] }
  | _ => none }
def fnExactChargedRow : OpenClaim := { program := "ytkagjopogihnbaa", sum := "504461b7eaa10616354ebd4d18154abe356c8a47aea21547b6fea9617f277d34", func := "loop.example/g00553/laws.FnExactCharged", spec := "fnExactCharged", unfollowed := true, recurses := true, apart := false }
def FnExactChargedSaid : Prop := fnExactChargedRow.holds Try.pinned (OpenSpec.ofChange fnExactChargedSpec)

/-- ITS FALSE NEIGHBOUR: 'it returns false'. Refute it at one input. -/
def fnExactChargedWrong : ChangeSpec := { name := "fnExactCharged", fn := fun _ => fun
  | [d1, d2] => { results := [.lit (.bool false)], args := [d1, d2] }
  | _ => none }
def FnExactChargedWrongFalsely : Prop := fnExactChargedRow.holds Try.pinned (OpenSpec.ofChange fnExactChargedWrong)

/-- 'laws.FnExactReranked': WHATEVER THE INPUT: true; the input reads as it did. -/
def fnExactRerankedSpec : ChangeSpec := { name := "fnExactReranked", fn := fun _ => fun
  | [d1, d2] => { results := [.lit (.bool true)], args := [d1, d2] }
  | _ => none }
def fnExactRerankedRow : OpenClaim := { program := "ytkagjopogihnbaa", sum := "504461b7eaa10616354ebd4d18154abe356c8a47aea21547b6fea9617f277d34", func := "loop.example/g00553/laws.FnExactReranked", spec := "fnExactReranked", unfollowed := true, recurses := true, apart := false }
def FnExactRerankedSaid : Prop := fnExactRerankedRow.holds Try.pinned (OpenSpec.ofChange fnExactRerankedSpec)

/-- ITS FALSE NEIGHBOUR: 'it returns false'. Refute it at one input. -/
def fnExactRerankedWrong : ChangeSpec := { name := "fnExactReranked", fn := fun _ => fun
  | [d1, d2] => { results := [.lit (.bool false)], args := [d1, d2] }
  | _ => none }
def FnExactRerankedWrongFalsely : Prop := fnExactRerankedRow.holds Try.pinned (OpenSpec.ofChange fnExactRerankedWrong)

/- THE SECOND FORM. 'bulk': how many values and letters a reading holds, each counted each time it is reached (what is shared counts as often as it is met; a slice's spare places count too). A statement '..UptoSaid' is the law's where the arguments, and the package variables that the reading takes, are together of bulk at most 1048576: NARROWER than '..Said'. Prove '..Said' where nothing that the law and all that it calls make is longer than what came in: it says more and counts as full. Else prove '..UptoSaid'. A law counts once. -/
mutual
def uptoBulk {H : Type} : DataW H → Nat
  | .lit (.string bytes) => bytes.length + 1
  | .lit _ => 1
  | .nil => 1
  | .ptr d => uptoBulk d + 1
  | .slice elems spare => uptoBulkAll elems + uptoBulkAll spare + 1
  | .agg parts => uptoBulkAll parts + 1
  | .iface _ d => uptoBulk d + 1
  | .map entries => uptoBulkEntries entries + 1
  | .held _ => 1
def uptoBulkAll {H : Type} : List (DataW H) → Nat
  | [] => 0
  | d :: r => uptoBulk d + uptoBulkAll r
def uptoBulkEntries {H : Type} : List (Lit × DataW H) → Nat
  | [] => 0
  | x :: r => uptoBulkEntry x + uptoBulkEntries r
def uptoBulkEntry {H : Type} : Lit × DataW H → Nat
  | (.string bytes, d) => bytes.length + uptoBulk d + 1
  | (_, d) => uptoBulk d + 1
 end
def uptoSmall : (H : Type) → List (DataW H) → Bool := fun _ ds => decide (uptoBulkAll ds ≤ 1048576)
def OpenSpec.upto (s : _root_.Go.ChangeSpec) : _root_.Go.OpenSpec := { _root_.Go.OpenSpec.ofChange s with cond := some uptoSmall }

/-- 'laws.FnCharged', WHERE WHAT IT READS IS OF BULK AT MOST 1048576: true; the input reads as it did. -/
def fnChargedUptoRow : OpenClaim := { program := "ytkagjopogihnbaa", sum := "504461b7eaa10616354ebd4d18154abe356c8a47aea21547b6fea9617f277d34", func := "loop.example/g00553/laws.FnCharged", spec := "fnCharged", unfollowed := true, recurses := true, apart := false, narrowed := true }
def FnChargedUptoSaid : Prop := fnChargedUptoRow.holds Try.pinned (OpenSpec.upto fnChargedSpec)

/-- 'laws.FnExactSmithOk', WHERE WHAT IT READS IS OF BULK AT MOST 1048576: true; the input reads as it did. -/
def fnExactSmithOkUptoRow : OpenClaim := { program := "ytkagjopogihnbaa", sum := "504461b7eaa10616354ebd4d18154abe356c8a47aea21547b6fea9617f277d34", func := "loop.example/g00553/laws.FnExactSmithOk", spec := "fnExactSmithOk", unfollowed := true, recurses := true, apart := false, narrowed := true }
def FnExactSmithOkUptoSaid : Prop := fnExactSmithOkUptoRow.holds Try.pinned (OpenSpec.upto fnExactSmithOkSpec)

/-- 'laws.FnExactCharged', WHERE WHAT IT READS IS OF BULK AT MOST 1048576: true; the input reads as it did. -/
def fnExactChargedUptoRow : OpenClaim := { program := "ytkagjopogihnbaa", sum := "504461b7eaa10616354ebd4d18154abe356c8a47aea21547b6fea9617f277d34", func := "loop.example/g00553/laws.FnExactCharged", spec := "fnExactCharged", unfollowed := true, recurses := true, apart := false, narrowed := true }
def FnExactChargedUptoSaid : Prop := fnExactChargedUptoRow.holds Try.pinned (OpenSpec.upto fnExactChargedSpec)

/-- 'laws.FnExactReranked', WHERE WHAT IT READS IS OF BULK AT MOST 1048576: true; the input reads as it did. -/
def fnExactRerankedUptoRow : OpenClaim := { program := "ytkagjopogihnbaa", sum := "504461b7eaa10616354ebd4d18154abe356c8a47aea21547b6fea9617f277d34", func := "loop.example/g00553/laws.FnExactReranked", spec := "fnExactReranked", unfollowed := true, recurses := true, apart := false, narrowed := true }
def FnExactRerankedUptoSaid : Prop := fnExactRerankedUptoRow.holds Try.pinned (OpenSpec.upto fnExactRerankedSpec)

end Rows
end Go.Proofs.Ytkagjopogihnbaa
