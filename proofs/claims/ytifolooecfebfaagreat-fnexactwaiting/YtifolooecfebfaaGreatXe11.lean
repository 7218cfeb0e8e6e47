/- What the proof rests on, part 11: lists and numbers, how they lie in memory, and contracts of the calls. No condition but those that a theorem names. -/
import Derived.Test.YtifolooecfebfaaGreatXe01
import Derived.Test.YtifolooecfebfaaGreatXe05
import Derived.Test.YtifolooecfebfaaGreatXe06
import GoSem.Claim
import GoSem.ClaimJoined
import GoSem.ClaimMapViews
import Derived.JoinedTies
import Derived.KernelRfl
import Derived.RowKit
import Derived.WalkKit
import Derived.ProofKit
import Derived.OpenShut
import Derived.Outline
import Derived.Lib.QuietBelow
import Derived.Deep.QuietTactic
import Derived.BigQuiet
import Derived.Laws.OwnMore
import Derived.OwnWalk
import Derived.Maps.AppendAt
import Derived.Lib.SmallJoins
import Derived.Deep.Fields
import Derived.Deep.Slices
/- Contracts of the laws' own helpers that mark a list of int64 and ask whether it holds its marks. Conditions: those that each theorem names. -/
namespace Go.Proofs.YtifolooecfebfaaGreat
open Go.ChangeShapes Go.WideShapes Go.ChangeAt Go.RowKit Go.Sort
set_option linter.unusedVariables false

theorem flat_num : ∀ zs : List Int, flat encNum zs = zs.map (Value.int .i64)
  | [] => rfl
  | z :: zs => by
    have := flat_num zs
    unfold flat at this ⊢
    rw [List.flatMap_cons, this]
    rfl
theorem nums_ints {n₀ : Nat} {w : World} {v : Value} {zs : List Int} : NumsAt n₀ w v zs ↔ IntsAt n₀ w v zs := by
  unfold NumsAt RecAt IntsAt
  rw [flat_num]

theorem markNums_any {n₀ : Nat} {w : World} {v : Value} {zs : List Int} (k : Int) (h : NumsAt n₀ w v zs) (hk0 : 0 ≤ k) (hk1 : k ≤ 1000000000000000) (hl : zs.length ≤ 1000000000) :
    Calls Tryz.prog 81 #[v, .int .i64 k] w fun e w' => e = .returned (.int .i64 (k + zs.length)) ∧ NumsAt n₀ w' v (marks k zs.length) ∧ w.grownBy w' v.ownBlock :=
  (markInts_any k (nums_ints.1 h) hk0 hk1 hl).mono fun e w' ⟨h1, h2, h3⟩ => ⟨h1, nums_ints.2 h2, h3⟩
theorem heldNums_yes {n₀ : Nat} {w : World} {v : Value} (k : Int) (n : Nat) (h : NumsAt n₀ w v (marks k n)) (hk0 : 0 ≤ k) (hk1 : k ≤ 1000000000000000) (hl : n ≤ 1000000000) :
    Calls Tryz.prog 86 #[v, .int .i64 k] w fun e w' => e = .returned (.int .i64 (k + n)) ∧ w' = w :=
  heldInts_yes k n (nums_ints.1 h) hk0 hk1 hl

end Go.Proofs.YtifolooecfebfaaGreat

/- A list of records (Smith), or one, that is handed in, opened: what it reads as. No condition. -/
namespace Go.Proofs.YtifolooecfebfaaGreat
open Go.ChangeShapes Go.WideShapes Go.ChangeAt Go.RowKit Go.Deep
set_option linter.unusedVariables false

set_option maxRecDepth 100000 in
theorem trod_smiths {H : Type} {enc : TypeId × Value → H} {W : World} {spare : Nat → Bool} {held : Bool} {n : Nat} {v : Value} {y : DataW H × List MemPlace}
    (h : DataW.trod enc Tryz.prog W 0 spare held n 53 [v] = some y) : ∃ ps, IsSmiths W v ps := by
  refine open_recs (k := 11) (enc := encSmith) Tryz.underlying53 Tryz.underlying144 (by kernel_rfl) rfl (by kernel_rfl) (by omega) ?_ h
  intro cs hl hc
  match cs, hl with
  | [c0, c1, c2, c3, c4, c5, c6, c7, c8, c9, c10], _ =>
    obtain ⟨u0, n0, y0, e0, t0⟩ := hc 0 _ rfl
    obtain ⟨u1, n1, y1, e1, t1⟩ := hc 1 _ rfl
    obtain ⟨u2, n2, y2, e2, t2⟩ := hc 2 _ rfl
    obtain ⟨u3, n3, y3, e3, t3⟩ := hc 3 _ rfl
    obtain ⟨u4, n4, y4, e4, t4⟩ := hc 4 _ rfl
    obtain ⟨u5, n5, y5, e5, t5⟩ := hc 5 _ rfl
    obtain ⟨u6, n6, y6, e6, t6⟩ := hc 6 _ rfl
    obtain ⟨u7, n7, y7, e7, t7⟩ := hc 7 _ rfl
    obtain ⟨u8, n8, y8, e8, t8⟩ := hc 8 _ rfl
    obtain ⟨u9, n9, y9, e9, t9⟩ := hc 9 _ rfl
    obtain ⟨u10, n10, y10, e10, t10⟩ := hc 10 _ rfl
    obtain ⟨z0, q0, _⟩ := DataW.trod_int Tryz.underlying2 t0
    obtain ⟨z1, q1, _⟩ := DataW.trod_int Tryz.underlying2 t1
    obtain ⟨z2, q2, _⟩ := DataW.trod_int Tryz.underlying2 t2
    obtain ⟨z3, q3, _⟩ := DataW.trod_int Tryz.underlying2 t3
    obtain ⟨z4, q4, _⟩ := DataW.trod_int Tryz.underlying2 t4
    obtain ⟨z5, q5, _⟩ := DataW.trod_int Tryz.underlying2 t5
    obtain ⟨z6, q6, _⟩ := DataW.trod_int Tryz.underlying2 t6
    obtain ⟨z7, q7, _⟩ := DataW.trod_int Tryz.underlying2 t7
    obtain ⟨z8, q8, _⟩ := DataW.trod_int Tryz.underlying2 t8
    obtain ⟨z9, q9, _⟩ := DataW.trod_int Tryz.underlying2 t9
    obtain ⟨z10, q10, _⟩ := DataW.trod_int Tryz.underlying2 t10
    cases e0; cases e1; cases e2; cases e3; cases e4; cases e5; cases e6; cases e7; cases e8; cases e9; cases e10; cases q0; cases q1; cases q2; cases q3; cases q4; cases q5; cases q6; cases q7; cases q8; cases q9; cases q10
    exact ⟨(z0, z1, z2, z3, z4, z5, z6, z7, z8, z9, z10), rfl⟩
end Go.Proofs.YtifolooecfebfaaGreat

/- A list of records (Desk), or one, that is handed in, opened: what it reads as. No condition. -/
namespace Go.Proofs.YtifolooecfebfaaGreat
open Go.ChangeShapes Go.WideShapes Go.ChangeAt Go.RowKit Go.Deep
set_option linter.unusedVariables false

set_option maxRecDepth 100000 in
theorem trod_desks {H : Type} {enc : TypeId × Value → H} {W : World} {spare : Nat → Bool} {held : Bool} {n : Nat} {v : Value} {y : DataW H × List MemPlace}
    (h : DataW.trod enc Tryz.prog W 0 spare held n 54 [v] = some y) : ∃ ps, IsDesks W v ps := by
  refine open_recs (k := 3) (enc := encDesk) Tryz.underlying54 Tryz.underlying146 (by kernel_rfl) rfl (by kernel_rfl) (by omega) ?_ h
  intro cs hl hc
  match cs, hl with
  | [c0, c1, c2], _ =>
    obtain ⟨u0, n0, y0, e0, t0⟩ := hc 0 _ rfl
    obtain ⟨u1, n1, y1, e1, t1⟩ := hc 1 _ rfl
    obtain ⟨u2, n2, y2, e2, t2⟩ := hc 2 _ rfl
    obtain ⟨z0, q0, _⟩ := DataW.trod_bool Tryz.underlying4 t0
    obtain ⟨z1, q1, _⟩ := DataW.trod_int Tryz.underlying2 t1
    obtain ⟨z2, q2, _⟩ := DataW.trod_int Tryz.underlying2 t2
    cases e0; cases e1; cases e2; cases q0; cases q1; cases q2
    exact ⟨(z0, z1, z2), rfl⟩
end Go.Proofs.YtifolooecfebfaaGreat

