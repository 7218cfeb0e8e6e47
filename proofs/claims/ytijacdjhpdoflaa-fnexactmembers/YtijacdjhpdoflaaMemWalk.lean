/- The laws on Members and FirstOf: whatever is handed in, each answers as its model, in memory of its own. No condition. -/
import Derived.Test.YtijacdjhpdoflaaMemImpl
namespace Go.Proofs.Ytijacdjhpdoflaa
open Go.ChangeShapes Go.WideShapes Go.ChangeAt Go.RowKit
set_option linter.unusedVariables false

set_option maxHeartbeats 1000000 in
theorem walkFnExactFirstOf (a0 : Int) (w0 : (Lit.int .i64 a0).wf = true) (w : World) :
    Calls Try.prog 7 #[.int .i64 a0] w fun e w' => e = .returned (.bool true) ∧ Below w.heap.size w w' := by
  go_enter Try.func7, Try.ntmps7
  go_wp2_with fail
  refine (specFirstOf_any _ _).mono ?_
  rintro e w1 ⟨rfl, hb1⟩
  go_wp2_with fail
  refine (implFirstOf_any _ _).mono ?_
  rintro e w2 ⟨rfl, hb2⟩
  go_wp2_with fail
  go_ret
  exact ⟨rfl, hb1.trans (hb2.mono hb1.size)⟩

theorem below_row {n₀ B : Nat} {w w' : World} {v : Value} {zs : List Int} (h : IntsAt n₀ w v zs) (hg : w.grownBy w' v.ownBlock) (hB : B ≤ n₀) (hs : n₀ ≤ w.heap.size) : Below B w w' :=
  (Below.refl B w).grown hg (by omega) (fun k e => by have := (h.block_lt e).1; omega)

set_option maxHeartbeats 2000000 in
theorem walkFnExactMembers (a0 : Int) (w0 : (Lit.int .i64 a0).wf = true) (w : World) :
    Calls Try.prog 6 #[.int .i64 a0] w fun e w' => e = .returned (.bool true) ∧ Below w.heap.size w w' := by
  have hml := mems_len a0
  go_enter Try.func6, Try.ntmps6
  go_wp2_with fail
  refine (specMembers_any _ _).mono ?_
  rintro e w1 ⟨v0, rfl, hi0, hb1⟩
  go_wp2_with fail
  refine (implMembers_any _ _).mono ?_
  rintro e w2 ⟨v1, rfl, hi1, hb2⟩
  have i02 := hi0.later hb2
  have B2 : Hid (Below w.heap.size w w2) := hide (hb1.trans (hb2.mono hb1.size))
  go_wp2_with fail
  refine (eqInts_yes hi1 i02).mono ?_
  rintro e w3 ⟨rfl, hs3⟩
  have i03 := i02.still hs3
  have i13 := hi1.still hs3
  have B3 : Hid (Below w.heap.size w w3) := hide ((unhide B2).trans (hs3.below _))
  have hz3 : w3.heap.size = w2.heap.size := by rw [hs3.heap]
  go_wp2_with fail
  refine (markInts_any _ i13 (by omega) (by omega) (by omega)).mono ?_
  rintro e w4 ⟨rfl, i14, hg4⟩
  have hsz : w1.heap.size ≤ w3.heap.size := by have := hb2.size; omega
  have B34 : Below w1.heap.size w3 w4 := below_row i13 hg4 (Nat.le_refl _) hsz
  have i04 : IntsAt w.heap.size w4 v0 (mems a0) := i03.same fun k hk => B34.block k (hi0.block_lt hk).2
  have B4 : Hid (Below w.heap.size w w4) := hide ((unhide B3).trans (B34.mono hb1.size))
  clear i02 i03 i13 hi0 hi1 hs3 hz3 hg4 B34 hsz hb2
  go_wp2_with fail
  refine (heldInts_yes 1 _ i14 (by omega) (by omega) (by omega)).mono ?_
  rintro e w' ⟨rfl, rfl⟩
  go_wp2_with fail
  refine (implMembers_any _ _).mono ?_
  rintro e w5 ⟨v2, rfl, hi2, hb5⟩
  have i05 := i04.later hb5
  have i15 := i14.later hb5
  go_wp2_with fail
  refine (eqInts_yes hi2 i05).mono ?_
  rintro e w6 ⟨rfl, hs6⟩
  have i16 := i15.still hs6
  go_wp2_with fail
  refine (heldInts_yes 1 _ i16 (by omega) (by omega) (by omega)).mono ?_
  rintro e w' ⟨rfl, rfl⟩
  go_wp2_with fail
  go_ret
  exact ⟨rfl, (unhide B4).trans ((hb5.mono (unhide B4).size).trans (hs6.below _))⟩

end Go.Proofs.Ytijacdjhpdoflaa
