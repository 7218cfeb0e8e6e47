/- What the proof rests on, part 9: lists and numbers, how they lie in memory, and contracts of the calls. No condition but those that a theorem names. -/
import Derived.Test.YtffcgajndmhpkaaGreatXv01
import Derived.Test.YtffcgajndmhpkaaGreatXv02
import Derived.Test.YtffcgajndmhpkaaGreatXv03
import Derived.Test.YtffcgajndmhpkaaGreatXv04
import Derived.Test.YtffcgajndmhpkaaGreatXv05
import Derived.Test.YtffcgajndmhpkaaGreatXv08
import Derived.WalkMore
import Derived.Below
import Derived.BigQuiet
import Derived.Lib.QuietBelow
import GoSem.Claim
import GoSem.ClaimJoined
import GoSem.ClaimMapViews
import Derived.JoinedTies
import Derived.KernelRfl
import Derived.RowKit
import Derived.WalkKit
import Derived.ProofKit
import Derived.OpenShut
import Derived.Outline
import Derived.Deep.RegionWith
import Derived.Deep.QuietTactic
import Derived.Laws.OwnMore
import Derived.OwnWalk
import Derived.Maps.AppendAt
import Derived.Lib.SmallJoins
import Derived.Deep.Fields
import Derived.Deep.Slices
import Derived.Laws.StructEq
/- The paces that are enough, as lists: which place is told, and what is known of it. No program, no condition. -/
namespace Go.Proofs.YtffcgajndmhpkaaGreat
open Go.ChangeShapes Go.WideShapes Go.ChangeAt Go.RowKit
set_option linter.unusedVariables false

def enoughB (need : Int) (p : PaceV) : Bool := decide (5 * need ≤ 4 * p.1)
def paceN (need : Int) : List PaceV → Nat
  | [] => 0
  | [_] => 0
  | p :: q :: ps => if enoughB need p then 0 else paceN need (q :: ps) + 1
def paceForV (r : RoomV) (need : Int) : Int := if roomB r && inB need 0 1000000 then paceN need r.2 else -1
theorem paceAt_0 (p : PaceV) (ps : List PaceV) : paceAt (p :: ps) 0 = p := rfl
theorem paceAt_s (p : PaceV) (ps : List PaceV) (k : Nat) : paceAt (p :: ps) (k + 1) = paceAt ps k := by unfold paceAt; simp [List.getD]
theorem enough_t {need : Int} {p : PaceV} (h : 5 * need ≤ 4 * p.1) : enoughB need p = true := decide_eq_true h
theorem enough_f {need : Int} {p : PaceV} (h : 4 * p.1 < 5 * need) : enoughB need p = false := decide_eq_false (by omega)
theorem paceN_eq (need : Int) : ∀ (ps : List PaceV) (k : Nat), k + 1 ≤ ps.length → (∀ j, j < k → enoughB need (paceAt ps j) = false) → (k + 1 = ps.length ∨ enoughB need (paceAt ps k) = true) → paceN need ps = k
  | [], k, hk, _, _ => by simp at hk
  | [p], k, hk, _, _ => by simp at hk; subst hk; rfl
  | p :: q :: ps, 0, _, _, he => by
    rcases he with he | he
    · simp at he
    · rw [paceAt_0] at he; simp [paceN, he]
  | p :: q :: ps, k + 1, hk, hlo, he => by
    have h0 := hlo 0 (by omega)
    rw [paceAt_0] at h0
    have ih := paceN_eq need (q :: ps) k (by simp at hk ⊢; omega) (fun j hj => by have := hlo (j + 1) (by omega); rwa [paceAt_s] at this) (by
      rcases he with he | he
      · left; simp at he ⊢; omega
      · right; rwa [paceAt_s] at he)
    simp [paceN, h0, ih]
theorem room_pace {r : RoomV} (h : roomB r = true) {k : Nat} (hk : k < r.2.length) : 1 ≤ (paceAt r.2 k).1 ∧ (paceAt r.2 k).1 ≤ 1024 ∧ 1 ≤ (paceAt r.2 k).2 ∧ (paceAt r.2 k).2 ≤ 1024 := by
  unfold roomB at h; simp only [Bool.and_eq_true] at h
  have h1 := pacesB_of h.2.2 hk
  unfold stepB paceB at h1; simp only [Bool.and_eq_true] at h1
  have a := inB_of h1.1.1; have b := inB_of h1.1.2
  omega
theorem paceForV_f1 {r : RoomV} {need : Int} (h : roomB r = false) : paceForV r need = -1 := by unfold paceForV; simp [h]
theorem paceForV_f2 {r : RoomV} {need : Int} (h : inB need 0 1000000 = false) : paceForV r need = -1 := by unfold paceForV; simp [h]
theorem paceForV_t {r : RoomV} {need : Int} (h : roomB r = true) (h2 : inB need 0 1000000 = true) : paceForV r need = paceN need r.2 := by unfold paceForV; simp [h, h2]
end Go.Proofs.YtffcgajndmhpkaaGreat

/- Contracts of chapter 7's functions and of their models: what each call returns; and a rule for a scope whose run jumps to several labels. No condition but those that a theorem names. -/
namespace Go.Proofs.YtffcgajndmhpkaaGreat
open Go.ChangeShapes Go.WideShapes Go.ChangeAt Go.RowKit
set_option linter.unusedVariables false

theorem isEnough_any (f need : Int) (w : World) (f0 : 0 ≤ f) (f1 : f ≤ 1000000) (n0 : 0 ≤ need) (n1 : need ≤ 2000000) :
    Calls Tryz.prog 70 #[.int .i64 f, .int .i64 need] w fun e w' => e = .returned (.bool (decide (5 * need ≤ 4 * f))) ∧ w' = w := by
  go_enter Tryz.func70, Tryz.ntmps70
  go_wp2_with fail
  go_ret
  exact ⟨ret_bool rfl, rfl⟩

end Go.Proofs.YtffcgajndmhpkaaGreat

/- What one wants, what is used, which bench is chosen, what all of it costs: as plain lists and numbers. No condition but those that a theorem names. -/
namespace Go.Proofs.YtffcgajndmhpkaaGreat
open Go.ChangeShapes Go.WideShapes Go.ChangeAt Go.RowKit Go.Sort
set_option linter.unusedVariables false

/-- Util within the bounds. -/
def wantS (gs : List GuildV) (s : SmithV) : Int := min (max s.2.2.2.2.2.2.2.2.2.1 (narV (bnd gs s.2.2.2.2.1) s.2.2.2.2.2.1 s.2.2.2.2.2.2.1).1) (narV (bnd gs s.2.2.2.2.1) s.2.2.2.2.2.1 s.2.2.2.2.2.2.1).2
def wantV (m : SmyV) (who : Int) : Int := wantS m.guilds (recAt m.smiths who.toNat)
theorem wantS_bd (gs : List GuildV) (s : SmithV) : 0 ≤ wantS gs s ∧ wantS gs s ≤ 1024 := by
  obtain ⟨b0, b1, b2⟩ := bnd_bd gs s.2.2.2.2.1
  obtain ⟨n0, n1, n2⟩ := narV_bd (lo := s.2.2.2.2.2.1) (hi := s.2.2.2.2.2.2.1) b0 b1 b2
  unfold wantS
  omega
theorem wantV_bd (m : SmyV) (who : Int) : 0 ≤ wantV m who ∧ wantV m who ≤ 1024 := wantS_bd _ _
/-- What all of a queue want, but one. -/
def usedL (m : SmyV) (but : Int) (q : List PaceV) : Int := q.foldl (fun n e => if e.2 = but then n else n + wantV m e.2) 0
theorem usedL_snoc (m : SmyV) (but : Int) (q : List PaceV) (e : PaceV) : usedL m but (q ++ [e]) = if e.2 = but then usedL m but q else usedL m but q + wantV m e.2 := by
  unfold usedL; rw [List.foldl_append]; rfl
theorem usedF_bd (m : SmyV) (but : Int) : ∀ (q : List PaceV) (n : Int), 0 ≤ n → 0 ≤ q.foldl (fun n e => if e.2 = but then n else n + wantV m e.2) n ∧ q.foldl (fun n e => if e.2 = but then n else n + wantV m e.2) n ≤ n + 1024 * q.length
  | [], n, h => ⟨h, by simp⟩
  | e :: q, n, h => by
    have hw := wantV_bd m e.2
    have ih := usedF_bd m but q (if e.2 = but then n else n + wantV m e.2) (by split <;> omega)
    refine ⟨ih.1, Int.le_trans ih.2 ?_⟩
    simp only [List.length_cons, Int.natCast_add, Int.natCast_one]
    split <;> omega
theorem usedL_bd (m : SmyV) (but : Int) (q : List PaceV) : 0 ≤ usedL m but q ∧ usedL m but q ≤ 1024 * q.length := by
  have := usedF_bd m but q 0 (by omega)
  unfold usedL; omega
def usedV (m : SmyV) (b but : Int) : Int := usedL m but (atV m.smiths b m.smiths.length)
theorem usedV_bd (m : SmyV) (b but : Int) : 0 ≤ usedV m b but ∧ usedV m b but ≤ 1024 * m.smiths.length := by
  have h := usedL_bd m but (atV m.smiths b m.smiths.length)
  have hl := atV_len m.smiths b m.smiths.length
  unfold usedV
  refine ⟨h.1, Int.le_trans h.2 ?_⟩
  omega

/-! ### Chapter 13 -/
/-- Of the first k benches those of a room: the greatest that is used at an open one, and all that is used. -/
def usedIn (m : SmyV) (room : Int) : Nat → Int × Int
  | 0 => (0, 0)
  | k + 1 => if (roomN m.rooms k : Int) = room then ((if (recAt m.desks k).1 then max (usedIn m room k).1 (usedV m k (-1)) else (usedIn m room k).1), (usedIn m room k).2 + usedV m k (-1)) else usedIn m room k
theorem usedIn_bd (m : SmyV) (room : Int) (hl : m.smiths.length ≤ 12) : ∀ k : Nat, (0 ≤ (usedIn m room k).1 ∧ (usedIn m room k).1 ≤ 12288) ∧ 0 ≤ (usedIn m room k).2 ∧ (usedIn m room k).2 ≤ 12288 * k
  | 0 => by simp [usedIn]
  | k + 1 => by
    have ih := usedIn_bd m room hl k
    have hu := usedV_bd m k (-1)
    unfold usedIn
    split
    · simp only
      constructor
      · split <;> omega
      · push_cast; omega
    · push_cast; omega
end Go.Proofs.YtffcgajndmhpkaaGreat

/- Whatever is changed, a smithy stays right: each change as plain lists, and that it keeps what is right but for who works. Lists and numbers alone; no condition but those that a theorem names. -/
namespace Go.Proofs.YtffcgajndmhpkaaGreat
open Go.ChangeShapes Go.WideShapes Go.ChangeAt Go.RowKit Go.Sort
set_option linter.unusedVariables false

theorem here_iff {m : SmyV} {s : SmithV} : hereB m s = true ↔ s = zeroS ∨ (presB s = true ∧ s.2.2.2.2.1 < m.guilds.length ∧ s.2.1 < m.desks.length) := by
  unfold hereB smithB
  simp only [Bool.and_eq_true, Bool.or_eq_true, decide_eq_true_eq]
  constructor
  · rintro ⟨hg | hp, hr⟩
    · exact .inl (goneB_of hg)
    · right
      refine ⟨hp, ?_⟩
      rcases hr with e | e
      · have : s.1 = 0 := by simpa using e
        rw [presB_st this] at hp
        cases hp
      · exact e
  · rintro (rfl | ⟨hp, hr⟩)
    · exact ⟨.inl goneB_zero, .inl rfl⟩
    · exact ⟨.inr hp, .inr hr⟩
theorem smy_loose {m : SmyV} (h : smyB m = true) : Loose m := by
  unfold smyB at h
  simp only [Bool.and_eq_true] at h
  exact loose_of h.1

/-- One who is there and not gone: all of its limits. -/
theorem Loose.limits {m : SmyV} (h : Loose m) {k : Nat} (hk : k < m.smiths.length) (hs : (recAt m.smiths k).1 ≠ 0) : presB (recAt m.smiths k) = true ∧ (recAt m.smiths k).2.2.2.2.1 < m.guilds.length ∧ (recAt m.smiths k).2.1 < m.desks.length := by
  rcases here_iff.1 (h.here k hk) with e | e
  · rw [e] at hs; exact absurd rfl hs
  · exact e

end Go.Proofs.YtffcgajndmhpkaaGreat

/- The model's SmithOk: its contract. No condition. -/
namespace Go.Proofs.YtffcgajndmhpkaaGreat
open Go.ChangeShapes Go.WideShapes Go.ChangeAt Go.RowKit Go.Sort
set_option linter.unusedVariables false
attribute [local go_sem ↓] smith_eql smith_neq

theorem specHad_any (n : Int) (w : World) : Calls Tryz.prog 75 #[.int .i64 n] w fun e w' => e = .returned (.bool (inB n (-1000000000000) 1000000000000)) ∧ w' = w := by
  go_enter Tryz.func75, Tryz.ntmps75
  go_wp2_with (go_at_call 32; refine (l1In_any _ _ _ _).mono ?_; rintro e w' ⟨rfl, rfl⟩)
  go_ret
  exact ⟨rfl, rfl⟩

set_option maxRecDepth 100000 in
set_option maxHeartbeats 8000000 in
theorem specSmithOk_any (st be rk my gu lo hi hd ca ut wk : Int) (w : World) : Calls Tryz.prog 53 #[.agg #[.int .i64 st, .int .i64 be, .int .i64 rk, .int .i64 my, .int .i64 gu, .int .i64 lo, .int .i64 hi, .int .i64 hd, .int .i64 ca, .int .i64 ut, .int .i64 wk]] w fun e w' => e = .returned (.bool (smithB (st, be, rk, my, gu, lo, hi, hd, ca, ut, wk))) ∧ Below w.heap.size w w' := by
  by_cases hst : st = 0
  · subst hst
    unfold smithB
    rw [presB_st rfl, Bool.or_false]
    obtain ⟨q, hq⟩ : ∃ q, goneB (0, be, rk, my, gu, lo, hi, hd, ca, ut, wk) = q := ⟨_, rfl⟩
    rw [hq]
    have hz : sameB (0, be, rk, my, gu, lo, hi, hd, ca, ut, wk) (0, 0, 0, 0, 0, 0, 0, 0, 0, 0, 0) = q := hq
    clear hq
    go_enter Tryz.func53, Tryz.ntmps53
    go_wp2_with fail
    go_ret
    exact ⟨rfl, (Below.refl _ _).alloc (Nat.le_refl _) _⟩
  · have hne : (st == 0) = false := by simpa using hst
    unfold smithB
    rw [goneB_st hst, Bool.false_or]
    unfold presB
    simp only
    obtain ⟨x0, x1⟩ := weight_in rk
    obtain ⟨x, hx⟩ : ∃ x, weightV rk = x := ⟨_, rfl⟩
    rw [hx] at x0 x1 ⊢
    have Hw := hide hx
    have hwr : IntKind.i64.wrap (x - 1) = x - 1 := by rw [IntKind.wrap_i64]; omega
    clear hx hst
    cases h0 : inB st 1 3
    · go_enter Tryz.func53, Tryz.ntmps53
      go_wp2_with (first | (go_at_call 32; refine (l1In_any _ _ _ _).mono ?_; rintro e w' ⟨rfl, rfl⟩) | (go_at_call 74; refine (l3Rank_any _ _).mono ?_; rintro e w' ⟨rfl, rfl⟩) | (go_at_call 73; refine (l8Pair_any _ _ _).mono ?_; rintro e w' ⟨rfl, rfl⟩))
      go_ret
      exact ⟨rfl, (Below.refl _ _).alloc (Nat.le_refl _) _⟩
    cases h1 : inB be 0 7
    · go_enter Tryz.func53, Tryz.ntmps53
      go_wp2_with (first | (go_at_call 32; refine (l1In_any _ _ _ _).mono ?_; rintro e w' ⟨rfl, rfl⟩) | (go_at_call 74; refine (l3Rank_any _ _).mono ?_; rintro e w' ⟨rfl, rfl⟩) | (go_at_call 73; refine (l8Pair_any _ _ _).mono ?_; rintro e w' ⟨rfl, rfl⟩))
      go_ret
      exact ⟨rfl, (Below.refl _ _).alloc (Nat.le_refl _) _⟩
    cases h2 : inB rk (-5) 5
    · go_enter Tryz.func53, Tryz.ntmps53
      go_wp2_with (first | (go_at_call 32; refine (l1In_any _ _ _ _).mono ?_; rintro e w' ⟨rfl, rfl⟩) | (go_at_call 74; refine (l3Rank_any _ _).mono ?_; rintro e w' ⟨rfl, rfl⟩) | (go_at_call 73; refine (l8Pair_any _ _ _).mono ?_; rintro e w' ⟨rfl, rfl⟩))
      go_ret
      exact ⟨rfl, (Below.refl _ _).alloc (Nat.le_refl _) _⟩
    cases h3 : inB my 1 255
    · go_enter Tryz.func53, Tryz.ntmps53
      go_wp2_with (first | (go_at_call 32; refine (l1In_any _ _ _ _).mono ?_; rintro e w' ⟨rfl, rfl⟩) | (go_at_call 74; refine (l3Rank_any _ _).mono ?_; rintro e w' ⟨rfl, rfl⟩) | (go_at_call 73; refine (l8Pair_any _ _ _).mono ?_; rintro e w' ⟨rfl, rfl⟩))
      go_ret
      exact ⟨rfl, (Below.refl _ _).alloc (Nat.le_refl _) _⟩
    cases h4 : inB gu (-1) 5
    · go_enter Tryz.func53, Tryz.ntmps53
      go_wp2_with (first | (go_at_call 32; refine (l1In_any _ _ _ _).mono ?_; rintro e w' ⟨rfl, rfl⟩) | (go_at_call 74; refine (l3Rank_any _ _).mono ?_; rintro e w' ⟨rfl, rfl⟩) | (go_at_call 73; refine (l8Pair_any _ _ _).mono ?_; rintro e w' ⟨rfl, rfl⟩))
      go_ret
      exact ⟨rfl, (Below.refl _ _).alloc (Nat.le_refl _) _⟩
    cases h5 : pairB lo hi
    · go_enter Tryz.func53, Tryz.ntmps53
      go_wp2_with (first | (go_at_call 32; refine (l1In_any _ _ _ _).mono ?_; rintro e w' ⟨rfl, rfl⟩) | (go_at_call 74; refine (l3Rank_any _ _).mono ?_; rintro e w' ⟨rfl, rfl⟩) | (go_at_call 73; refine (l8Pair_any _ _ _).mono ?_; rintro e w' ⟨rfl, rfl⟩))
      go_ret
      exact ⟨rfl, (Below.refl _ _).alloc (Nat.le_refl _) _⟩
    cases h6 : inB hd (-1000000000000) 1000000000000
    · go_enter Tryz.func53, Tryz.ntmps53
      go_wp2_with (first | (go_at_call 32; refine (l1In_any _ _ _ _).mono ?_; rintro e w' ⟨rfl, rfl⟩) | (go_at_call 74; refine (l3Rank_any _ _).mono ?_; rintro e w' ⟨rfl, rfl⟩) | (go_at_call 73; refine (l8Pair_any _ _ _).mono ?_; rintro e w' ⟨rfl, rfl⟩))
      go_quiet (first | exact Calls.quiet_of_same (l1In_any _ _ _ _) | exact Calls.quiet_of_same (specHad_any _ _) | exact Calls.quiet_of_same (specWeightOf_v (unhide Hw) _) | exact Calls.quiet_of_same (guildForce_any _ _))
      go_wp2_with fail
      go_ret
      exact ⟨rfl, drewN_below ((Below.refl _ _).alloc (Nat.le_refl _) _) _⟩
    cases h7 : inB ca 0 (x - 1)
    · go_enter Tryz.func53, Tryz.ntmps53
      go_wp2_with (first | (go_at_call 32; refine (l1In_any _ _ _ _).mono ?_; rintro e w' ⟨rfl, rfl⟩) | (go_at_call 74; refine (l3Rank_any _ _).mono ?_; rintro e w' ⟨rfl, rfl⟩) | (go_at_call 73; refine (l8Pair_any _ _ _).mono ?_; rintro e w' ⟨rfl, rfl⟩))
      go_quiet (first | exact Calls.quiet_of_same (l1In_any _ _ _ _) | exact Calls.quiet_of_same (specHad_any _ _) | exact Calls.quiet_of_same (specWeightOf_v (unhide Hw) _) | exact Calls.quiet_of_same (guildForce_any _ _))
      go_wp2_with fail
      go_ret
      exact ⟨rfl, drewN_below ((Below.refl _ _).alloc (Nat.le_refl _) _) _⟩
    cases h8 : inB ut 0 1024
    · go_enter Tryz.func53, Tryz.ntmps53
      go_wp2_with (first | (go_at_call 32; refine (l1In_any _ _ _ _).mono ?_; rintro e w' ⟨rfl, rfl⟩) | (go_at_call 74; refine (l3Rank_any _ _).mono ?_; rintro e w' ⟨rfl, rfl⟩) | (go_at_call 73; refine (l8Pair_any _ _ _).mono ?_; rintro e w' ⟨rfl, rfl⟩))
      go_quiet (first | exact Calls.quiet_of_same (l1In_any _ _ _ _) | exact Calls.quiet_of_same (specHad_any _ _) | exact Calls.quiet_of_same (specWeightOf_v (unhide Hw) _) | exact Calls.quiet_of_same (guildForce_any _ _))
      go_wp2_with fail
      go_ret
      exact ⟨rfl, drewN_below ((Below.refl _ _).alloc (Nat.le_refl _) _) _⟩
    cases h9 : inB wk 0 100000000000
    · go_enter Tryz.func53, Tryz.ntmps53
      go_wp2_with (first | (go_at_call 32; refine (l1In_any _ _ _ _).mono ?_; rintro e w' ⟨rfl, rfl⟩) | (go_at_call 74; refine (l3Rank_any _ _).mono ?_; rintro e w' ⟨rfl, rfl⟩) | (go_at_call 73; refine (l8Pair_any _ _ _).mono ?_; rintro e w' ⟨rfl, rfl⟩))
      go_quiet (first | exact Calls.quiet_of_same (l1In_any _ _ _ _) | exact Calls.quiet_of_same (specHad_any _ _) | exact Calls.quiet_of_same (specWeightOf_v (unhide Hw) _) | exact Calls.quiet_of_same (guildForce_any _ _))
      go_wp2_with fail
      go_ret
      exact ⟨rfl, drewN_below ((Below.refl _ _).alloc (Nat.le_refl _) _) _⟩
    go_enter Tryz.func53, Tryz.ntmps53
    go_wp2_with (first | (go_at_call 32; refine (l1In_any _ _ _ _).mono ?_; rintro e w' ⟨rfl, rfl⟩) | (go_at_call 74; refine (l3Rank_any _ _).mono ?_; rintro e w' ⟨rfl, rfl⟩) | (go_at_call 73; refine (l8Pair_any _ _ _).mono ?_; rintro e w' ⟨rfl, rfl⟩))
    go_quiet (first | exact Calls.quiet_of_same (l1In_any _ _ _ _) | exact Calls.quiet_of_same (specHad_any _ _) | exact Calls.quiet_of_same (specWeightOf_v (unhide Hw) _) | exact Calls.quiet_of_same (guildForce_any _ _))
    go_wp2_with fail
    go_ret
    exact ⟨rfl, drewN_below ((Below.refl _ _).alloc (Nat.le_refl _) _) _⟩

end Go.Proofs.YtffcgajndmhpkaaGreat

/- The model's small checks of a smithy: who is present, and the band. No condition but those that a theorem names. -/
namespace Go.Proofs.YtffcgajndmhpkaaGreat
open Go.ChangeShapes Go.WideShapes Go.ChangeAt Go.RowKit Go.Sort
set_option linter.unusedVariables false

theorem l11Present_any (st be rk my gu lo hi hd ca ut wk : Int) (w : World) : Calls Tryz.prog 31 #[.agg #[.int .i64 st, .int .i64 be, .int .i64 rk, .int .i64 my, .int .i64 gu, .int .i64 lo, .int .i64 hi, .int .i64 hd, .int .i64 ca, .int .i64 ut, .int .i64 wk]] w fun e w' =>
    e = .returned (.bool (presS (st, be, rk, my, gu, lo, hi, hd, ca, ut, wk))) ∧ Below w.heap.size w w' := by
  unfold presS
  simp only
  cases h2 : (st == 2)
  all_goals
    go_enter Tryz.func31, Tryz.ntmps31
    go_wp2_with fail
    go_ret
    exact ⟨by first | rfl | (simp), (Below.refl _ _).alloc (Nat.le_refl _) _⟩

theorem specInBand_any (h m : Int) (w : World) : Calls Tryz.prog 55 #[.int .i64 h, .int .i64 m] w fun e w' => e = .returned (.bool (bandB h m)) ∧ w' = w := by
  unfold bandB
  cases h1 : inB h (-1000000000000) 1000000000000
  · go_enter Tryz.func55, Tryz.ntmps55
    go_wp2_with (first | (go_at_call 75; refine (specHad_any _ _).mono ?_; rintro e w' ⟨rfl, rfl⟩) | (go_at_call 32; refine (l1In_any _ _ _ _).mono ?_; rintro e w' ⟨rfl, rfl⟩))
    go_ret
    exact ⟨rfl, rfl⟩
  cases h2 : inB m (-1000000000000) 1000000000000
  · go_enter Tryz.func55, Tryz.ntmps55
    go_wp2_with (first | (go_at_call 75; refine (specHad_any _ _).mono ?_; rintro e w' ⟨rfl, rfl⟩) | (go_at_call 32; refine (l1In_any _ _ _ _).mono ?_; rintro e w' ⟨rfl, rfl⟩))
    go_ret
    exact ⟨rfl, rfl⟩
  obtain ⟨a0, a1⟩ := inB_of h1
  obtain ⟨b0, b1⟩ := inB_of h2
  go_enter Tryz.func55, Tryz.ntmps55
  go_wp2_with (first | (go_at_call 75; refine (specHad_any _ _).mono ?_; rintro e w' ⟨rfl, rfl⟩) | (go_at_call 32; refine (l1In_any _ _ _ _).mono ?_; rintro e w' ⟨rfl, rfl⟩))
  go_ret
  exact ⟨rfl, rfl⟩

end Go.Proofs.YtffcgajndmhpkaaGreat

/- The model's l11Loose: is a smithy right, but for who works? Its contract, its first part. Condition: the smithy can be read. -/
namespace Go.Proofs.YtffcgajndmhpkaaGreat
open Go.ChangeShapes Go.WideShapes Go.ChangeAt Go.RowKit Go.Sort
set_option linter.unusedVariables false

theorem specHallOk_v {w : World} {v : Value} {rs : List RoomV} {q : Bool} (hq : hallB rs = q) (h : IsRooms w v rs) : Calls Tryz.prog 50 #[.agg #[v]] w fun e w' => e = .returned (.bool q) ∧ Below w.heap.size w w' := by
  have := specHallOk_any h; rw [hq] at this; exact this
theorem specGuildsOk_q {w : World} {v : Value} {ps : List GuildV} {q : Bool} (hq : guildsB ps = q) (h : IsGuilds w v ps) : Calls Tryz.prog 51 #[v] w fun e w' => e = .returned (.bool q) ∧ Below w.heap.size w w' := by
  have := specGuildsOk_any h; rw [hq] at this; exact this
theorem l4Count_v {w : World} {v : Value} {rs : List RoomV} {n : Int} (hn : benchSum rs = n) (h : IsRooms w v rs) (ha : Adds rs) : Calls Tryz.prog 52 #[.agg #[v]] w fun e w' => e = .returned (.int .i64 n) ∧ Below w.heap.size w w' := by
  have := l4Count_any h ha; rw [hn] at this; exact this
theorem l1In_q {x lo hi : Int} {q : Bool} (hq : inB x lo hi = q) (w : World) : Calls Tryz.prog 32 #[.int .i64 x, .int .i64 lo, .int .i64 hi] w fun e w' => e = .returned (.bool q) ∧ Below w.heap.size w w' := by
  have := l1In_any x lo hi w; rw [hq] at this
  exact this.mono fun e w' ⟨h1, h2⟩ => ⟨h1, by rw [h2]; exact Below.refl _ _⟩

theorem specSmithOk_q {st be rk my gu lo hi hd ca ut wk : Int} {q : Bool} (hq : smithB (st, be, rk, my, gu, lo, hi, hd, ca, ut, wk) = q) (w : World) : Calls Tryz.prog 53 #[.agg #[.int .i64 st, .int .i64 be, .int .i64 rk, .int .i64 my, .int .i64 gu, .int .i64 lo, .int .i64 hi, .int .i64 hd, .int .i64 ca, .int .i64 ut, .int .i64 wk]] w fun e w' => e = .returned (.bool q) ∧ Below w.heap.size w w' := by
  have := specSmithOk_any st be rk my gu lo hi hd ca ut wk w; rw [hq] at this; exact this
theorem l11Present_q {st be rk my gu lo hi hd ca ut wk : Int} {q : Bool} (hq : presS (st, be, rk, my, gu, lo, hi, hd, ca, ut, wk) = q) (w : World) : Calls Tryz.prog 31 #[.agg #[.int .i64 st, .int .i64 be, .int .i64 rk, .int .i64 my, .int .i64 gu, .int .i64 lo, .int .i64 hi, .int .i64 hd, .int .i64 ca, .int .i64 ut, .int .i64 wk]] w fun e w' => e = .returned (.bool q) ∧ Below w.heap.size w w' := by
  have := l11Present_any st be rk my gu lo hi hd ca ut wk w; rw [hq] at this; exact this
theorem l2Has_q {s i : Int} {q : Bool} (hq : bitB s i = q) (h0 : 0 ≤ s) (h1 : s ≤ 255) (h2 : 0 ≤ i) (h3 : i ≤ 7) (w : World) : Calls Tryz.prog 54 #[.int .i64 s, .int .i64 i] w fun e w' => e = .returned (.bool q) ∧ Below w.heap.size w w' := by
  have := l2Has_any s i w h0 h1 h2 h3; rw [hq] at this
  exact this.mono fun e w' ⟨h1, h2⟩ => ⟨h1, by rw [h2]; exact Below.refl _ _⟩
theorem specInBand_q {h k : Int} {q : Bool} (hq : bandB h k = q) (w : World) : Calls Tryz.prog 55 #[.int .i64 h, .int .i64 k] w fun e w' => e = .returned (.bool q) ∧ Below w.heap.size w w' := by
  have := specInBand_any h k w; rw [hq] at this
  exact this.mono fun e w' ⟨h1, h2⟩ => ⟨h1, by rw [h2]; exact Below.refl _ _⟩

set_option maxRecDepth 100000 in
set_option maxHeartbeats 16000000 in
theorem l11Loose_any {w : World} {v0 v1 v2 v3 v4 : Value} {m : SmyV} (h : Smy w v0 v1 v2 v3 v4 m) :
    Calls Tryz.prog 30 #[.agg #[v0, v1, v2, v3, v4, .int .i64 m.now]] w fun e w' => e = .returned (.bool (looseB m)) ∧ Below w.heap.size w w' := by
  have Hv := hide (h.alloc (.cells #[v0, v1, v2, v3, v4, .int .i64 m.now] 40))
  obtain ⟨h0, h1, h2, h3, h4⟩ := h
  obtain ⟨a0, p0, rfl, hc0, hm0, r0⟩ := h0
  obtain ⟨a1, p1, rfl, hc1, hm1, _⟩ := h1
  obtain ⟨a2, p2, rfl, hc2, hm2, r2⟩ := h2
  obtain ⟨a3, p3, rfl, hc3, hm3, r3⟩ := h3
  obtain ⟨a4, p4, rfl, hc4, hm4, r4⟩ := h4
  have R0 := hide r0
  have R2 := hide r2
  have R3 := hide r3
  have R4 := hide r4
  clear r0 r2 r3 r4
  go_enter Tryz.func30, Tryz.ntmps30
  go_wp2_with fail
  have BB : Hid (Below w.heap.size w (w.alloc (.cells #[.slice a0 m.rooms.length p0, .slice a1 m.guilds.length p1, .slice a2 m.smiths.length p2, .slice a3 m.desks.length p3, .slice a4 m.paces.length p4, .int .i64 m.now] 40))) := hide ((Below.refl _ _).alloc (Nat.le_refl _) _)
  have kb : Hid (Blk (w.alloc (.cells #[.slice a0 m.rooms.length p0, .slice a1 m.guilds.length p1, .slice a2 m.smiths.length p2, .slice a3 m.desks.length p3, .slice a4 m.paces.length p4, .int .i64 m.now] 40)) w.heap.size 40 #[.slice a0 m.rooms.length p0, .slice a1 m.guilds.length p1, .slice a2 m.smiths.length p2, .slice a3 m.desks.length p3, .slice a4 m.paces.length p4, .int .i64 m.now]) := hide (Blk.new w _ _)
  generalize w.alloc (.cells #[.slice a0 m.rooms.length p0, .slice a1 m.guilds.length p1, .slice a2 m.smiths.length p2, .slice a3 m.desks.length p3, .slice a4 m.paces.length p4, .int .i64 m.now] 40) = W at *
  have c0 := cell_regrown ((unhide kb).cell (i := 0) (v := .slice a0 m.rooms.length p0) rfl)
  have c1 := cell_regrown ((unhide kb).cell (i := 1) (v := .slice a1 m.guilds.length p1) rfl)
  have c2 := cell_regrown ((unhide kb).cell (i := 2) (v := .slice a2 m.smiths.length p2) rfl)
  have c3 := cell_regrown ((unhide kb).cell (i := 3) (v := .slice a3 m.desks.length p3) rfl)
  have c4 := cell_regrown ((unhide kb).cell (i := 4) (v := .slice a4 m.paces.length p4) rfl)
  have c5 := cell_regrown ((unhide kb).cell (i := 5) (v := .int .i64 m.now) rfl)
  cases h0 : hallB m.rooms
  · have Q0 := hide h0
    clear h0
    refine wp_region_quiet_below (by kernel_rfl) (by kernel_rfl) ?_
    repeat (go_big_quiet_step (first | exact Calls.regrown_of (specHallOk_v (unhide Q0) ((unhide Hv).below (below_regrown _ _ _)).rooms)))
    refine wpQuiet_nil ?_
    intro W1 hw'
    have hb : Below W.heap.size W W1 := by
      obtain ⟨⟨dq, osq⟩, hw''⟩ := hw'
      subst hw''
      exact below_regrown _ _ _
    clear hw' c0 c1 c2 c3 c4 c5
    go_wp2_with fail
    go_ret
    exact ⟨ret_bool (looseB_head (by unfold headB; rw [unhide Q0]; rfl)).symm, (unhide BB).trans (hb.mono (unhide BB).size)⟩
  have Q0 := hide h0
  have QA := hide (adds_hall h0)
  clear h0
  cases h1 : guildsB m.guilds
  · have Q1 := hide h1
    clear h1
    refine wp_region_quiet_below (by kernel_rfl) (by kernel_rfl) ?_
    repeat (go_big_quiet_step (first | exact Calls.regrown_of (specHallOk_v (unhide Q0) ((unhide Hv).below (below_regrown _ _ _)).rooms) | exact Calls.regrown_of (specGuildsOk_q (unhide Q1) ((unhide Hv).below (below_regrown _ _ _)).guilds)))
    refine wpQuiet_nil ?_
    intro W1 hw'
    have hb : Below W.heap.size W W1 := by
      obtain ⟨⟨dq, osq⟩, hw''⟩ := hw'
      subst hw''
      exact below_regrown _ _ _
    clear hw' c0 c1 c2 c3 c4 c5
    go_wp2_with fail
    go_ret
    exact ⟨ret_bool (looseB_head (by unfold headB; rw [unhide Q0, unhide Q1]; rfl)).symm, (unhide BB).trans (hb.mono (unhide BB).size)⟩
  have Q1 := hide h1
  clear h1
  by_cases h2 : 12 < m.smiths.length
  · have h2i : (12 : Int) < (m.smiths.length : Int) := by omega
    have h2d : decide ((12 : Int) < (m.smiths.length : Int)) = true := decide_eq_true h2i
    refine wp_region_quiet_below (by kernel_rfl) (by kernel_rfl) ?_
    repeat (go_big_quiet_step (first | exact Calls.regrown_of (specHallOk_v (unhide Q0) ((unhide Hv).below (below_regrown _ _ _)).rooms) | exact Calls.regrown_of (specGuildsOk_q (unhide Q1) ((unhide Hv).below (below_regrown _ _ _)).guilds)))
    refine wpQuiet_nil ?_
    intro W1 hw'
    have hb : Below W.heap.size W W1 := by
      obtain ⟨⟨dq, osq⟩, hw''⟩ := hw'
      subst hw''
      exact below_regrown _ _ _
    clear hw' c0 c1 c2 c3 c4 c5
    go_wp2_with fail
    go_ret
    exact ⟨ret_bool (looseB_head (by unfold headB; rw [unhide Q0, unhide Q1]; simp; intro h9; omega)).symm, (unhide BB).trans (hb.mono (unhide BB).size)⟩
  have h2i : ¬ (12 : Int) < (m.smiths.length : Int) := by omega
  have h2d : decide ((12 : Int) < (m.smiths.length : Int)) = false := decide_eq_false h2i
  obtain ⟨n, hn⟩ : ∃ n, benchSum m.rooms = n := ⟨_, rfl⟩
  have Q3 := hide hn
  clear hn
  by_cases h3 : (m.desks.length : Int) = n
  rotate_left
  · have h3b : ((m.desks.length : Int) != n) = true := by simpa using h3
    refine wp_region_quiet_below (by kernel_rfl) (by kernel_rfl) ?_
    repeat (go_big_quiet_step (first | exact Calls.regrown_of (specHallOk_v (unhide Q0) ((unhide Hv).below (below_regrown _ _ _)).rooms) | exact Calls.regrown_of (specGuildsOk_q (unhide Q1) ((unhide Hv).below (below_regrown _ _ _)).guilds) | exact Calls.regrown_of (l4Count_v (unhide Q3) ((unhide Hv).below (below_regrown _ _ _)).rooms (unhide QA))))
    refine wpQuiet_nil ?_
    intro W1 hw'
    have hb : Below W.heap.size W W1 := by
      obtain ⟨⟨dq, osq⟩, hw''⟩ := hw'
      subst hw''
      exact below_regrown _ _ _
    clear hw' c0 c1 c2 c3 c4 c5
    go_wp2_with fail
    go_ret
    exact ⟨ret_bool (looseB_head (by unfold headB; rw [unhide Q0, unhide Q1, unhide Q3]; simp [h3])).symm, (unhide BB).trans (hb.mono (unhide BB).size)⟩
  have h3b : ((m.desks.length : Int) != n) = false := by simpa using h3
  by_cases h4 : m.paces.length = m.rooms.length
  rotate_left
  · have h4b : ((m.paces.length : Int) != (m.rooms.length : Int)) = true := by simp; omega
    refine wp_region_quiet_below (by kernel_rfl) (by kernel_rfl) ?_
    repeat (go_big_quiet_step (first | exact Calls.regrown_of (specHallOk_v (unhide Q0) ((unhide Hv).below (below_regrown _ _ _)).rooms) | exact Calls.regrown_of (specGuildsOk_q (unhide Q1) ((unhide Hv).below (below_regrown _ _ _)).guilds) | exact Calls.regrown_of (l4Count_v (unhide Q3) ((unhide Hv).below (below_regrown _ _ _)).rooms (unhide QA))))
    refine wpQuiet_nil ?_
    intro W1 hw'
    have hb : Below W.heap.size W W1 := by
      obtain ⟨⟨dq, osq⟩, hw''⟩ := hw'
      subst hw''
      exact below_regrown _ _ _
    clear hw' c0 c1 c2 c3 c4 c5
    go_wp2_with fail
    go_ret
    exact ⟨ret_bool (looseB_head (by unfold headB; rw [unhide Q0, unhide Q1]; simp [h4])).symm, (unhide BB).trans (hb.mono (unhide BB).size)⟩
  have h4b : ((m.paces.length : Int) != (m.rooms.length : Int)) = false := by simp; omega
  cases h5 : inB m.now 0 1000000
  · have Q5 := hide h5
    clear h5
    refine wp_region_quiet_below (by kernel_rfl) (by kernel_rfl) ?_
    repeat (go_big_quiet_step (first | exact Calls.regrown_of (specHallOk_v (unhide Q0) ((unhide Hv).below (below_regrown _ _ _)).rooms) | exact Calls.regrown_of (specGuildsOk_q (unhide Q1) ((unhide Hv).below (below_regrown _ _ _)).guilds) | exact Calls.regrown_of (l4Count_v (unhide Q3) ((unhide Hv).below (below_regrown _ _ _)).rooms (unhide QA)) | exact Calls.regrown_of (l1In_q (unhide Q5) _)))
    refine wpQuiet_nil ?_
    intro W1 hw'
    have hb : Below W.heap.size W W1 := by
      obtain ⟨⟨dq, osq⟩, hw''⟩ := hw'
      subst hw''
      exact below_regrown _ _ _
    clear hw' c0 c1 c2 c3 c4 c5
    go_wp2_with fail
    go_ret
    exact ⟨ret_bool (looseB_head (by unfold headB; rw [unhide Q0, unhide Q1, unhide Q3, unhide Q5]; simp)).symm, (unhide BB).trans (hb.mono (unhide BB).size)⟩
  have Q5 := hide h5
  clear h5
  have QH : Hid (headB m = true) := hide (by unfold headB; rw [unhide Q0, unhide Q1, unhide Q3, unhide Q5]; simp [h3, h4]; omega)
  refine wp_region_quiet_below (by kernel_rfl) (by kernel_rfl) ?_
  repeat (go_big_quiet_step (first | exact Calls.regrown_of (specHallOk_v (unhide Q0) ((unhide Hv).below (below_regrown _ _ _)).rooms) | exact Calls.regrown_of (specGuildsOk_q (unhide Q1) ((unhide Hv).below (below_regrown _ _ _)).guilds) | exact Calls.regrown_of (l4Count_v (unhide Q3) ((unhide Hv).below (below_regrown _ _ _)).rooms (unhide QA)) | exact Calls.regrown_of (l1In_q (unhide Q5) _)))
  refine wpQuiet_nil ?_
  intro W1 hw'
  have hb : Below W.heap.size W W1 := by
    obtain ⟨⟨dq, osq⟩, hw''⟩ := hw'
    subst hw''
    exact below_regrown _ _ _
  clear hw' c0 c1 c2 c3 c4 c5
  replace kb := hide ((unhide kb).below hb (unhide kb).lt)
  replace Hv := hide ((unhide Hv).below hb)
  replace BB := hide ((unhide BB).trans (hb.mono (unhide BB).size))
  clear hb
  have H3 := hide h3
  have H4 := hide h4
  clear Hv Q0 Q1 Q3 Q5 QA h2d h3b h4b h3 h4
  have c3 := (unhide kb).cell (i := 3) (v := .slice a3 m.desks.length p3) rfl
  go_wp2_with fail
  clear c3
  go_loopw [3, 4] (fun o i wr => ∃ k : Nat, k ≤ m.desks.length ∧ o = .bool (upOpen m k) ∧ i = .int .i64 k ∧ upDesks m k = true ∧ Blk wr w.heap.size 40 #[.slice a0 m.rooms.length p0, .slice a1 m.guilds.length p1, .slice a2 m.smiths.length p2, .slice a3 m.desks.length p3, .slice a4 m.paces.length p4, .int .i64 m.now] ∧ Below w.heap.size w wr) (fun _ i _ => m.desks.length - (intOf i).toNat)
  case atStart => exact ⟨0, Nat.zero_le _, rfl, rfl, rfl, unhide kb, unhide BB⟩
  case round =>
    obtain ⟨k, hk, rfl, rfl, hup, kb1, hb1⟩ := hrel
    clear kb BB
    have kb := hide kb1
    have BB := hide hb1
    have Hup := hide hup
    clear kb1 hb1 hup
    obtain ⟨ob, hob⟩ : ∃ b, upOpen m k = b := ⟨_, rfl⟩
    rw [hob]
    have Hob := hide hob
    clear hob
    have c3 := (unhide kb).cell (i := 3) (v := .slice a3 m.desks.length p3) rfl
    by_cases hlt : k < m.desks.length
    · rcases unhide R3 with e0 | ⟨b, off, rfl, hbw, hcl⟩
      · rw [e0] at hlt; simp at hlt
      obtain ⟨d0, d1, d2⟩ := desk_cells hcl hlt
      rw [← (unhide BB).cell (p := ⟨b, off + k * 3, none⟩) hbw] at d0
      rw [← (unhide BB).cell (p := ⟨b, off + k * 3 + 2, none⟩) hbw] at d2
      clear d1 hcl
      have HU := hide (show upDesks m (k + 1) = (upDesks m k && deskB (recAt m.desks k)) from all_up k)
      have HO := hide (show upOpen m (k + 1) = (upOpen m k || (recAt m.desks k).1) from any_up k)
      have HL := hide (looseB_desk (m := m) hlt)
      generalize recAt m.desks k = dd at *
      obtain ⟨op, who, mk⟩ := dd
      simp only at d0 d2
      cases hmk : inB mk (-900000000000) 900000000000
      · cases ob
        all_goals
          go_wp2_with (go_at_call 32; refine (l1In_any _ _ _ _).mono ?_; rintro e w' ⟨rfl, h9⟩; subst w')
          go_ret
          exact ⟨ret_bool (unhide HL hmk).symm, unhide BB⟩
      · cases ob
        all_goals
          go_wp2_with (go_at_call 32; refine (l1In_any _ _ _ _).mono ?_; rintro e w' ⟨rfl, h9⟩; subst w')
          go_roundw
          case rel => exact ⟨k + 1, by omega, by rw [unhide HO, unhide Hob]; simp, by go_num, by rw [unhide HU, unhide Hup]; exact hmk, unhide kb, unhide BB⟩
          case measure => simp [intOf]; omega
    · obtain rfl : k = m.desks.length := by omega
      have QD := Hup
      clear Hup
      have c4 := (unhide kb).cell (i := 4) (v := .slice a4 m.paces.length p4) rfl
      go_wp2_with fail
      clear c3 c4
      go_loopw [5] (fun i wr => ∃ k : Nat, k ≤ m.paces.length ∧ i = .int .i64 k ∧ upPaces m k = true ∧ Blk wr w.heap.size 40 #[.slice a0 m.rooms.length p0, .slice a1 m.guilds.length p1, .slice a2 m.smiths.length p2, .slice a3 m.desks.length p3, .slice a4 m.paces.length p4, .int .i64 m.now] ∧ Below w.heap.size w wr) (fun i _ => m.paces.length - (intOf i).toNat)
      case atStart => exact ⟨0, Nat.zero_le _, rfl, rfl, unhide kb, unhide BB⟩
      case round =>
        obtain ⟨k, hk, rfl, hup, kb1, hb1⟩ := hrel
        clear kb BB
        have kb := hide kb1
        have BB := hide hb1
        have Hup := hide hup
        clear kb1 hb1 hup
        have c0 := (unhide kb).cell (i := 0) (v := .slice a0 m.rooms.length p0) rfl
        have c4 := (unhide kb).cell (i := 4) (v := .slice a4 m.paces.length p4) rfl
        by_cases hlt : k < m.paces.length
        · have hlr : k < m.rooms.length := by have := unhide H4; omega
          rcases unhide R4 with e0 | ⟨b, off, rfl, hbw, hcl⟩
          · rw [e0] at hlt; simp at hlt
          rcases unhide R0 with e0 | ⟨b', off', rfl, hbw', hcl'⟩
          · rw [e0] at hlr; simp at hlr
          have d0 := num_cell hcl hlt
          obtain ⟨_, pv, d1, hip⟩ := hcl' k hlr
          rw [← (unhide BB).cell (p := ⟨b, off + k, none⟩) hbw] at d0
          rw [← (unhide BB).cell (p := ⟨b', off' + k * 2 + 1, none⟩) hbw'] at d1
          obtain ⟨pa, pcap, rfl, hpc, hpm, _⟩ := hip
          clear hcl hcl'
          have HU := hide (show upPaces m (k + 1) = (upPaces m k && paceInB m k) from all_up k)
          have HL := hide (looseB_pace (m := m) hlt)
          have HP := hide (show paceInB m k = inB (recAt m.paces k) 0 (((roomAt m.rooms k).2.length : Int) - 1) from rfl)
          generalize recAt m.paces k = z at *
          generalize (roomAt m.rooms k).2.length = nl at *
          have hwr : IntKind.i64.wrap ((nl : Int) - 1) = (nl : Int) - 1 := by rw [IntKind.wrap_i64]; omega
          cases hz : inB z 0 ((nl : Int) - 1)
          · go_wp2_with fail
            go_quiet (exact Calls.quiet_of_same (l1In_any _ _ _ _))
            go_wp2_with fail
            go_ret
            exact ⟨ret_bool (unhide HL (by rw [unhide HP]; exact hz)).symm, drewN_below (unhide BB) _⟩
          · go_wp2_with fail
            go_quiet (exact Calls.quiet_of_same (l1In_any _ _ _ _))
            go_wp2_with fail
            go_roundw
            case rel => exact ⟨k + 1, by omega, by go_num, by rw [unhide HU, unhide Hup, unhide HP, hz]; rfl, (unhide kb).drewN _, drewN_below (unhide BB) _⟩
            case measure => simp [intOf]; omega
        · obtain rfl : k = m.paces.length := by omega
          have QP := Hup
          clear Hup
          have c2 := (unhide kb).cell (i := 2) (v := .slice a2 m.smiths.length p2) rfl
          go_wp2_with fail
          clear c0 c2 c4
          go_loopw [6] (fun i wr => ∃ k : Nat, k ≤ m.smiths.length ∧ i = .int .i64 k ∧ upSmiths m k = true ∧ Blk wr w.heap.size 40 #[.slice a0 m.rooms.length p0, .slice a1 m.guilds.length p1, .slice a2 m.smiths.length p2, .slice a3 m.desks.length p3, .slice a4 m.paces.length p4, .int .i64 m.now] ∧ Below w.heap.size w wr) (fun i _ => m.smiths.length - (intOf i).toNat)
          case atStart => exact ⟨0, Nat.zero_le _, rfl, rfl, unhide kb, unhide BB⟩
          case round =>
            obtain ⟨k, hk, rfl, hup, kb1, hb1⟩ := hrel
            clear kb BB
            have kb := hide kb1
            have BB := hide hb1
            have Hup := hide hup
            clear kb1 hb1 hup
            have c1 := (unhide kb).cell (i := 1) (v := .slice a1 m.guilds.length p1) rfl
            have c2 := (unhide kb).cell (i := 2) (v := .slice a2 m.smiths.length p2) rfl
            have c3 := (unhide kb).cell (i := 3) (v := .slice a3 m.desks.length p3) rfl
            by_cases hlt : k < m.smiths.length
            · rcases unhide R2 with e0 | ⟨b, off, rfl, hbw, hcl⟩
              · rw [e0] at hlt; simp at hlt
              obtain ⟨d0, d1, d2, d3, d4, d5, d6, d7, d8, d9, d10⟩ := smith_cells hcl hlt
              rw [← (unhide BB).cell (p := ⟨b, off + k * 11, none⟩) hbw] at d0
              rw [← (unhide BB).cell (p := ⟨b, off + k * 11 + 1, none⟩) hbw] at d1
              rw [← (unhide BB).cell (p := ⟨b, off + k * 11 + 2, none⟩) hbw] at d2
              rw [← (unhide BB).cell (p := ⟨b, off + k * 11 + 3, none⟩) hbw] at d3
              rw [← (unhide BB).cell (p := ⟨b, off + k * 11 + 4, none⟩) hbw] at d4
              rw [← (unhide BB).cell (p := ⟨b, off + k * 11 + 5, none⟩) hbw] at d5
              rw [← (unhide BB).cell (p := ⟨b, off + k * 11 + 6, none⟩) hbw] at d6
              rw [← (unhide BB).cell (p := ⟨b, off + k * 11 + 7, none⟩) hbw] at d7
              rw [← (unhide BB).cell (p := ⟨b, off + k * 11 + 8, none⟩) hbw] at d8
              rw [← (unhide BB).cell (p := ⟨b, off + k * 11 + 9, none⟩) hbw] at d9
              rw [← (unhide BB).cell (p := ⟨b, off + k * 11 + 10, none⟩) hbw] at d10
              clear hcl
              have HU := hide (show upSmiths m (k + 1) = (upSmiths m k && (hereB m (recAt m.smiths k) && seatB m (recAt m.smiths k))) from all_up k)
              have HL := hide (looseB_smith (m := m) hlt)
              generalize recAt m.smiths k = ss at *
              obtain ⟨st, be, rk, my, gu, lo, hi, hd, ca, ut, wk⟩ := ss
              simp only at d0 d1 d2 d3 d4 d5 d6 d7 d8 d9 d10
              have hl0 : w.heap.size < wr.heap.size := (unhide kb).lt
              go_wp2_with fail
              clear c1 c2 c3 d0 d1 d2 d3 d4 d5 d6 d7 d8 d9 d10
              obtain ⟨qs, hqs⟩ : ∃ q, smithB (st, be, rk, my, gu, lo, hi, hd, ca, ut, wk) = q := ⟨_, rfl⟩
              have Hqs := hide hqs
              clear hqs
              refine (specSmithOk_q (unhide Hqs) _).mono ?_
              rintro e w1 ⟨rfl, hb⟩
              have ks : Hid (Blk w1 wr.heap.size 67 #[.int .i64 st, .int .i64 be, .int .i64 rk, .int .i64 my, .int .i64 gu, .int .i64 lo, .int .i64 hi, .int .i64 hd, .int .i64 ca, .int .i64 ut, .int .i64 wk]) := hide ((Blk.new wr _ _).below hb (by simp))
              replace kb := hide (((unhide kb).alloc (.cells #[.int .i64 st, .int .i64 be, .int .i64 rk, .int .i64 my, .int .i64 gu, .int .i64 lo, .int .i64 hi, .int .i64 hd, .int .i64 ca, .int .i64 ut, .int .i64 wk] 67)).below hb (by simp; omega))
              replace BB := hide ((((unhide BB).alloc (unhide BB).size (.cells #[.int .i64 st, .int .i64 be, .int .i64 rk, .int .i64 my, .int .i64 gu, .int .i64 lo, .int .i64 hi, .int .i64 hd, .int .i64 ca, .int .i64 ut, .int .i64 wk] 67))).trans (hb.mono (by simp; have := (unhide BB).size; omega)))
              clear hb hl0
              generalize wr.heap.size = sb at *
              have c1 := (unhide kb).cell (i := 1) (v := .slice a1 m.guilds.length p1) rfl
              have c3 := (unhide kb).cell (i := 3) (v := .slice a3 m.desks.length p3) rfl
              have d0 := (unhide ks).cell (i := 0) (v := .int .i64 st) rfl
              have d1 := (unhide ks).cell (i := 1) (v := .int .i64 be) rfl
              have d4 := (unhide ks).cell (i := 4) (v := .int .i64 gu) rfl
              cases qs
              · go_wp2_with fail
                go_ret
                exact ⟨ret_bool (unhide HL (by unfold hereB; rw [unhide Hqs]; rfl)).symm, unhide BB⟩
              · by_cases hst : st = 0
                · subst hst
                  have hne : ((0 : Int) != 0) = false := rfl
                  go_wp2_with fail
                  have Hps : Hid (presS (0, be, rk, my, gu, lo, hi, hd, ca, ut, wk) = false) := hide rfl
                  have e0 := cell_regrown ((unhide ks).cell (i := 0) (v := .int .i64 0) rfl)
                  have e1 := cell_regrown ((unhide ks).cell (i := 1) (v := .int .i64 be) rfl)
                  have e2 := cell_regrown ((unhide ks).cell (i := 2) (v := .int .i64 rk) rfl)
                  have e3 := cell_regrown ((unhide ks).cell (i := 3) (v := .int .i64 my) rfl)
                  have e4 := cell_regrown ((unhide ks).cell (i := 4) (v := .int .i64 gu) rfl)
                  have e5 := cell_regrown ((unhide ks).cell (i := 5) (v := .int .i64 lo) rfl)
                  have e6 := cell_regrown ((unhide ks).cell (i := 6) (v := .int .i64 hi) rfl)
                  have e7 := cell_regrown ((unhide ks).cell (i := 7) (v := .int .i64 hd) rfl)
                  have e8 := cell_regrown ((unhide ks).cell (i := 8) (v := .int .i64 ca) rfl)
                  have e9 := cell_regrown ((unhide ks).cell (i := 9) (v := .int .i64 ut) rfl)
                  have e10 := cell_regrown ((unhide ks).cell (i := 10) (v := .int .i64 wk) rfl)
                  refine wp_region_quiet_below (by kernel_rfl) (by kernel_rfl) ?_
                  repeat (go_big_quiet_step (first | exact Calls.regrown_of (l11Present_q (unhide Hps) _)))
                  refine wpQuiet_nil ?_
                  intro W1 hw'
                  have hb : Below w1.heap.size w1 W1 := by
                    obtain ⟨⟨dq, osq⟩, hw''⟩ := hw'
                    subst hw''
                    exact below_regrown _ _ _
                  clear hw'
                  replace kb := hide ((unhide kb).below hb (unhide kb).lt)
                  replace BB := hide ((unhide BB).trans (hb.mono (unhide BB).size))
                  clear hb
                  go_wp2_with fail
                  go_roundw
                  case rel => exact ⟨k + 1, by omega, by go_num, by rw [unhide HU, unhide Hup]; unfold hereB seatB; rw [unhide Hqs, unhide Hps]; rfl, unhide kb, unhide BB⟩
                  case measure => simp [intOf]; omega
                have hne : (st != 0) = true := by simpa using hst
                by_cases hgu : (m.guilds.length : Int) ≤ gu
                · go_wp2_with fail
                  go_ret
                  exact ⟨ret_bool (unhide HL (by unfold hereB; rw [unhide Hqs]; simp [hst]; intro h9; omega)).symm, unhide BB⟩
                by_cases hbe : (m.desks.length : Int) ≤ be
                · go_wp2_with fail
                  go_ret
                  exact ⟨ret_bool (unhide HL (by unfold hereB; rw [unhide Hqs]; simp [hst]; intro h9; omega)).symm, unhide BB⟩
                go_wp2_with fail
                have Hh : Hid (hereB m (st, be, rk, my, gu, lo, hi, hd, ca, ut, wk) = true) := hide (by unfold hereB; rw [unhide Hqs]; simp; omega)
                obtain ⟨ps, hps⟩ : ∃ q, presS (st, be, rk, my, gu, lo, hi, hd, ca, ut, wk) = q := ⟨_, rfl⟩
                have Hps := hide hps
                clear hps
                have e0 := cell_regrown ((unhide ks).cell (i := 0) (v := .int .i64 st) rfl)
                have e1 := cell_regrown ((unhide ks).cell (i := 1) (v := .int .i64 be) rfl)
                have e2 := cell_regrown ((unhide ks).cell (i := 2) (v := .int .i64 rk) rfl)
                have e3 := cell_regrown ((unhide ks).cell (i := 3) (v := .int .i64 my) rfl)
                have e4 := cell_regrown ((unhide ks).cell (i := 4) (v := .int .i64 gu) rfl)
                have e5 := cell_regrown ((unhide ks).cell (i := 5) (v := .int .i64 lo) rfl)
                have e6 := cell_regrown ((unhide ks).cell (i := 6) (v := .int .i64 hi) rfl)
                have e7 := cell_regrown ((unhide ks).cell (i := 7) (v := .int .i64 hd) rfl)
                have e8 := cell_regrown ((unhide ks).cell (i := 8) (v := .int .i64 ca) rfl)
                have e9 := cell_regrown ((unhide ks).cell (i := 9) (v := .int .i64 ut) rfl)
                have e10 := cell_regrown ((unhide ks).cell (i := 10) (v := .int .i64 wk) rfl)
                have e11 := cell_regrown ((unhide kb).cell (i := 3) (v := .slice a3 m.desks.length p3) rfl)
                cases ps
                · refine wp_region_quiet_below (by kernel_rfl) (by kernel_rfl) ?_
                  repeat (go_big_quiet_step (first | exact Calls.regrown_of (l11Present_q (unhide Hps) _)))
                  refine wpQuiet_nil ?_
                  intro W1 hw'
                  have hb : Below w1.heap.size w1 W1 := by
                    obtain ⟨⟨dq, osq⟩, hw''⟩ := hw'
                    subst hw''
                    exact below_regrown _ _ _
                  clear hw'
                  replace kb := hide ((unhide kb).below hb (unhide kb).lt)
                  replace BB := hide ((unhide BB).trans (hb.mono (unhide BB).size))
                  clear hb
                  go_wp2_with fail
                  go_roundw
                  case rel => exact ⟨k + 1, by omega, by go_num, by rw [unhide HU, unhide Hup]; rw [unhide Hh]; unfold seatB; rw [unhide Hps]; rfl, unhide kb, unhide BB⟩
                  case measure => simp [intOf]; omega
                obtain ⟨b0, b1, b2, m0, m1, _⟩ := hereB_of (unhide Hh) (unhide Hps)
                simp only at b0 b1 b2 m0 m1
                obtain ⟨j, rfl⟩ : ∃ j : Nat, be = j := ⟨be.toNat, by omega⟩
                have hj : j < m.desks.length := by omega
                rcases unhide R3 with e9 | ⟨b', off', rfl, hbw', hcl'⟩
                · rw [e9] at hj; simp at hj
                obtain ⟨t0, _, t2⟩ := desk_cells hcl' hj
                rw [← (unhide BB).cell (p := ⟨b', off' + j * 3, none⟩) hbw'] at t0
                rw [← (unhide BB).cell (p := ⟨b', off' + j * 3 + 2, none⟩) hbw'] at t2
                clear hcl'
                have HS := hide (show seatB m (st, (j : Int), rk, my, gu, lo, hi, hd, ca, ut, wk) = (!presS (st, (j : Int), rk, my, gu, lo, hi, hd, ca, ut, wk) || ((recAt m.desks j).1 && (bitB my j && bandB hd (recAt m.desks j).2.2))) from rfl)
                generalize recAt m.desks j = dd at *
                obtain ⟨op, who, mk⟩ := dd
                simp only at t0 t2
                have t0 := cell_regrown t0
                have t2 := cell_regrown t2
                obtain ⟨qb, hqb⟩ : ∃ q, bitB my j = q := ⟨_, rfl⟩
                have Hbit := hide hqb
                obtain ⟨qd, hqd⟩ : ∃ q, bandB hd mk = q := ⟨_, rfl⟩
                have Hbd := hide hqd
                clear hqb hqd
                have HS2 := unhide HS
                simp only [unhide Hps, unhide Hbit, unhide Hbd] at HS2
                have HS3 := hide HS2
                clear HS HS2
                cases op
                · refine wp_region_quiet_below (by kernel_rfl) (by kernel_rfl) ?_
                  repeat (go_big_quiet_step (first | exact Calls.regrown_of (l11Present_q (unhide Hps) _) | exact Calls.regrown_of (l2Has_q (unhide Hbit) (by omega) (by omega) (by omega) (by omega) _) | exact Calls.regrown_of (specInBand_q (unhide Hbd) _)))
                  refine wpQuiet_nil ?_
                  intro W1 hw'
                  have hb : Below w1.heap.size w1 W1 := by
                    obtain ⟨⟨dq, osq⟩, hw''⟩ := hw'
                    subst hw''
                    exact below_regrown _ _ _
                  clear hw'
                  replace kb := hide ((unhide kb).below hb (unhide kb).lt)
                  replace BB := hide ((unhide BB).trans (hb.mono (unhide BB).size))
                  clear hb
                  go_wp2_with fail
                  go_ret
                  exact ⟨ret_bool (unhide HL (by rw [unhide HS3]; simp)).symm, unhide BB⟩
                cases qb
                · refine wp_region_quiet_below (by kernel_rfl) (by kernel_rfl) ?_
                  repeat (go_big_quiet_step (first | exact Calls.regrown_of (l11Present_q (unhide Hps) _) | exact Calls.regrown_of (l2Has_q (unhide Hbit) (by omega) (by omega) (by omega) (by omega) _) | exact Calls.regrown_of (specInBand_q (unhide Hbd) _)))
                  refine wpQuiet_nil ?_
                  intro W1 hw'
                  have hb : Below w1.heap.size w1 W1 := by
                    obtain ⟨⟨dq, osq⟩, hw''⟩ := hw'
                    subst hw''
                    exact below_regrown _ _ _
                  clear hw'
                  replace kb := hide ((unhide kb).below hb (unhide kb).lt)
                  replace BB := hide ((unhide BB).trans (hb.mono (unhide BB).size))
                  clear hb
                  go_wp2_with fail
                  go_ret
                  exact ⟨ret_bool (unhide HL (by rw [unhide HS3]; simp)).symm, unhide BB⟩
                cases qd
                · refine wp_region_quiet_below (by kernel_rfl) (by kernel_rfl) ?_
                  repeat (go_big_quiet_step (first | exact Calls.regrown_of (l11Present_q (unhide Hps) _) | exact Calls.regrown_of (l2Has_q (unhide Hbit) (by omega) (by omega) (by omega) (by omega) _) | exact Calls.regrown_of (specInBand_q (unhide Hbd) _)))
                  refine wpQuiet_nil ?_
                  intro W1 hw'
                  have hb : Below w1.heap.size w1 W1 := by
                    obtain ⟨⟨dq, osq⟩, hw''⟩ := hw'
                    subst hw''
                    exact below_regrown _ _ _
                  clear hw'
                  replace kb := hide ((unhide kb).below hb (unhide kb).lt)
                  replace BB := hide ((unhide BB).trans (hb.mono (unhide BB).size))
                  clear hb
                  go_wp2_with fail
                  go_ret
                  exact ⟨ret_bool (unhide HL (by rw [unhide HS3]; simp)).symm, unhide BB⟩
                refine wp_region_quiet_below (by kernel_rfl) (by kernel_rfl) ?_
                repeat (go_big_quiet_step (first | exact Calls.regrown_of (l11Present_q (unhide Hps) _) | exact Calls.regrown_of (l2Has_q (unhide Hbit) (by omega) (by omega) (by omega) (by omega) _) | exact Calls.regrown_of (specInBand_q (unhide Hbd) _)))
                refine wpQuiet_nil ?_
                intro W1 hw'
                have hb : Below w1.heap.size w1 W1 := by
                  obtain ⟨⟨dq, osq⟩, hw''⟩ := hw'
                  subst hw''
                  exact below_regrown _ _ _
                clear hw'
                replace kb := hide ((unhide kb).below hb (unhide kb).lt)
                replace BB := hide ((unhide BB).trans (hb.mono (unhide BB).size))
                clear hb
                go_wp2_with fail
                go_roundw
                case rel => exact ⟨k + 1, by omega, by go_num, by rw [unhide HU, unhide Hup]; rw [unhide Hh, unhide HS3]; rfl, unhide kb, unhide BB⟩
                case measure => simp [intOf]; omega
            · obtain rfl : k = m.smiths.length := by omega
              go_wp2_with fail
              go_ret
              exact ⟨ret_bool (by rw [looseB_all (unhide QH) (unhide QD) (unhide QP) (unhide Hup)]; exact (unhide Hob).symm), unhide BB⟩

end Go.Proofs.YtffcgajndmhpkaaGreat

