/- What the proof rests on, part 8: lists and numbers, how they lie in memory, and contracts of the calls. No condition but those that a theorem names. -/
import Derived.Test.YtmhagllddhjgmabGreatXu01
import Derived.Test.YtmhagllddhjgmabGreatXu02
import Derived.Test.YtmhagllddhjgmabGreatXu03
import Derived.Test.YtmhagllddhjgmabGreatXu04
import Derived.Test.YtmhagllddhjgmabGreatXu05
import Derived.Test.YtmhagllddhjgmabGreatXu06
import Derived.Test.YtmhagllddhjgmabGreatXu07
import Derived.WalkKit
import Derived.ProofKit
import Derived.OpenShut
import Derived.Outline
import Derived.Deep.RegionWith
import Derived.Deep.QuietTactic
import Derived.BigQuiet
import Derived.Laws.OwnMore
import Derived.OwnWalk
import Derived.Lib.QuietBelow
import Derived.Maps.AppendAt
import Derived.Lib.SmallJoins
import Derived.Deep.Fields
import Derived.Deep.Slices
/- A smithy in memory: what it reads as, and one that the call itself made. No condition but those that a theorem names. -/
namespace Go.Proofs.YtmhagllddhjgmabGreat
open Go.ChangeShapes Go.WideShapes Go.ChangeAt Go.RowKit Go.Sort
set_option linter.unusedVariables false

structure SmyV where
  rooms : List RoomV
  guilds : List GuildV
  smiths : List SmithV
  desks : List DeskV
  paces : List Int
  now : Int

/-- The five slices read as the smithy's lists. -/
structure Smy (w : World) (v0 v1 v2 v3 v4 : Value) (m : SmyV) : Prop where
  rooms : IsRooms w v0 m.rooms
  guilds : IsGuilds w v1 m.guilds
  smiths : IsSmiths w v2 m.smiths
  desks : IsDesks w v3 m.desks
  paces : IsNums w v4 m.paces
theorem Smy.below {w w' : World} {v0 v1 v2 v3 v4 : Value} {m : SmyV} (h : Smy w v0 v1 v2 v3 v4 m) (hb : Below w.heap.size w w') : Smy w' v0 v1 v2 v3 v4 m :=
  ⟨h.rooms.below hb, h.guilds.below hb, h.smiths.below hb, h.desks.below hb, h.paces.below hb⟩
theorem Smy.alloc {w : World} {v0 v1 v2 v3 v4 : Value} {m : SmyV} (h : Smy w v0 v1 v2 v3 v4 m) (o : Obj) : Smy (w.alloc o) v0 v1 v2 v3 v4 m := h.below ((Below.refl _ _).alloc (Nat.le_refl _) _)

/-- Nothing in it is longer than 2^20. -/
structure SmySmall (m : SmyV) : Prop where
  rooms : Small m.rooms
  guilds : m.guilds.length ≤ 1048576
  smiths : m.smiths.length ≤ 1048576
  desks : m.desks.length ≤ 1048576
  paces : m.paces.length ≤ 1048576

theorem RoomsFrom.below {n₀ : Nat} {w w' : World} {v : Value} {rs : List RoomV} (h : RoomsFrom n₀ w v rs) (hb : Below w.heap.size w w') : RoomsFrom n₀ w' v rs := by
  obtain ⟨a, cap, hv, hc, hm, hr⟩ := h
  refine ⟨a, cap, hv, hc, hm, ?_⟩
  rcases hr with hr | ⟨b, off, ha, h0, hlt, hcl⟩
  · exact .inl hr
  · have hs := hb.size
    refine .inr ⟨b, off, ha, h0, by omega, fun k hk => ?_⟩
    obtain ⟨c0, pv, c1, hp, hj⟩ := hcl k hk
    exact ⟨(hb.cell (p := ⟨b, off + k * 2, none⟩) hlt).trans c0, pv, (hb.cell (p := ⟨b, off + k * 2 + 1, none⟩) hlt).trans c1, hp.below hb, hj⟩
theorem RoomsFrom.mono {n₀ n₁ : Nat} {w : World} {v : Value} {rs : List RoomV} (h : RoomsFrom n₀ w v rs) (hn : n₁ ≤ n₀) : RoomsFrom n₁ w v rs := by
  obtain ⟨a, cap, hv, hc, hm, hr⟩ := h
  refine ⟨a, cap, hv, hc, hm, ?_⟩
  rcases hr with hr | ⟨b, off, ha, h0, hlt, hcl⟩
  · exact .inl hr
  · refine .inr ⟨b, off, ha, by omega, hlt, fun k hk => ?_⟩
    obtain ⟨c0, pv, c1, hp, hj⟩ := hcl k hk
    exact ⟨c0, pv, c1, hp, fun j e => by have := hj j e; omega⟩
theorem RecAt.set_old {α : Type} {t k : Nat} {enc : α → List Value} {n₀ : Nat} {w : World} {v : Value} {xs : List α} (h : RecAt t k enc n₀ w v xs) (g o : Nat) (u : Value) (hg : g < n₀) : RecAt t k enc n₀ (w.setCell ⟨g, o, none⟩ u) v xs :=
  h.same fun i hi => heap_setCell_other w _ i u (by have := (h.lt hi).1; show i ≠ g; omega)

/-- A smithy in memory that the call made: all of it lies in blocks from n₀ on. -/
structure OwnSmy (n₀ : Nat) (w : World) (v0 v1 v2 v3 v4 : Value) (m : SmyV) : Prop where
  rooms : RoomsFrom n₀ w v0 m.rooms
  guilds : GuildsAt n₀ w v1 m.guilds
  smiths : SmithsAt n₀ w v2 m.smiths
  desks : DesksAt n₀ w v3 m.desks
  paces : NumsAt n₀ w v4 m.paces
theorem OwnSmy.smy {n₀ : Nat} {w : World} {v0 v1 v2 v3 v4 : Value} {m : SmyV} (h : OwnSmy n₀ w v0 v1 v2 v3 v4 m) : Smy w v0 v1 v2 v3 v4 m := ⟨h.rooms.rooms, h.guilds.list, h.smiths.list, h.desks.list, h.paces.list⟩
theorem OwnSmy.mono {n₀ n₁ : Nat} {w : World} {v0 v1 v2 v3 v4 : Value} {m : SmyV} (h : OwnSmy n₀ w v0 v1 v2 v3 v4 m) (hn : n₁ ≤ n₀) : OwnSmy n₁ w v0 v1 v2 v3 v4 m :=
  ⟨h.rooms.mono hn, RecAt.mono h.guilds hn, RecAt.mono h.smiths hn, RecAt.mono h.desks hn, RecAt.mono h.paces hn⟩
theorem OwnSmy.set {n₀ : Nat} {w : World} {v0 v1 v2 v3 v4 : Value} {m : SmyV} (h : OwnSmy n₀ w v0 v1 v2 v3 v4 m) (g o : Nat) (u : Value) (hg : g < n₀) : OwnSmy n₀ (w.setCell ⟨g, o, none⟩ u) v0 v1 v2 v3 v4 m :=
  ⟨h.rooms.set g o u hg, RecAt.set_old h.guilds g o u hg, RecAt.set_old h.smiths g o u hg, RecAt.set_old h.desks g o u hg, RecAt.set_old h.paces g o u hg⟩

end Go.Proofs.YtmhagllddhjgmabGreat

/- Contracts of chapter 3's functions and of their models: each returns the plain number that is defined here, at every argument of type int64; nothing in memory is changed. -/
namespace Go.Proofs.YtmhagllddhjgmabGreat
open Go.ChangeShapes Go.WideShapes Go.ChangeAt Go.RowKit
set_option linter.unusedVariables false

/-- The weight of the rank that is k above 0. -/
def lightT (k : Nat) : Int := [1024, 819, 655, 524, 419, 335].getD k 0
/-- The weight of the rank that is k below 0. -/
def heavyT (k : Nat) : Int := [1024, 1280, 1600, 2000, 2500, 3125].getD k 0
def weightV (r : Int) : Int := if inB r (-5) 5 then (if 0 ≤ r then lightT r.toNat else heavyT (-r).toNat) else 0

theorem lightT_all : ∀ k : Fin 5, lightT (k.val + 1) = lightT k.val * 4 / 5 ∧ 0 ≤ lightT k.val ∧ lightT k.val ≤ 1024 := by decide
theorem heavyT_all : ∀ k : Fin 5, heavyT (k.val + 1) = heavyT k.val * 5 / 4 ∧ 0 ≤ heavyT k.val ∧ heavyT k.val ≤ 3125 := by decide
theorem lightT_step {k : Nat} (h : k < 5) : lightT (k + 1) = lightT k * 4 / 5 ∧ 0 ≤ lightT k ∧ lightT k ≤ 1024 := lightT_all ⟨k, h⟩
theorem heavyT_step {k : Nat} (h : k < 5) : heavyT (k + 1) = heavyT k * 5 / 4 ∧ 0 ≤ heavyT k ∧ heavyT k ≤ 3125 := heavyT_all ⟨k, h⟩

theorem ranks {r : Int} (h : inB r (-5) 5 = true) : r = -5 ∨ r = -4 ∨ r = -3 ∨ r = -2 ∨ r = -1 ∨ r = 0 ∨ r = 1 ∨ r = 2 ∨ r = 3 ∨ r = 4 ∨ r = 5 := by
  have := inB_of h
  omega
theorem weightV_none {r : Int} (h : inB r (-5) 5 = false) : weightV r = 0 := by unfold weightV; simp [h]
theorem weightV_up {r : Int} (h : inB r (-5) 5 = true) (h0 : 0 ≤ r) : weightV r = lightT r.toNat := by unfold weightV; simp [h, h0]
theorem weightV_down {r : Int} (h : inB r (-5) 5 = true) (h0 : ¬ 0 ≤ r) : weightV r = heavyT (-r).toNat := by unfold weightV; simp [h, h0]

theorem l3Rank_any (x : Int) (w : World) : Calls Tryz.prog 86 #[.int .i64 x] w fun e w' => e = .returned (.bool (inB x (-5) 5)) ∧ w' = w := by
  go_enter Tryz.func86, Tryz.ntmps86
  go_wp2_with (go_at_call 35; refine (l1In_any _ _ _ _).mono ?_; rintro e w' ⟨rfl, rfl⟩)
  go_ret
  exact ⟨rfl, rfl⟩

set_option maxHeartbeats 400000 in
theorem specWeightOf_any (r : Int) (w : World) : Calls Tryz.prog 88 #[.int .i64 r] w fun e w' => e = .returned (.int .i64 (weightV r)) ∧ w' = w := by
  cases hb : inB r (-5) 5
  · rw [weightV_none hb]
    go_enter Tryz.func88, Tryz.ntmps88
    go_wp2_with (go_at_call 86; refine (l3Rank_any _ _).mono ?_; rintro e w' ⟨rfl, rfl⟩)
    go_ret
    exact ⟨rfl, rfl⟩
  · obtain ⟨r0, r1⟩ := inB_of hb
    by_cases h0 : 0 ≤ r
    · rw [weightV_up hb h0]
      obtain ⟨n, rfl⟩ := Int.eq_ofNat_of_zero_le h0
      rw [Int.toNat_natCast]
      go_enter Tryz.func88, Tryz.ntmps88
      go_wp2_with (go_at_call 86; refine (l3Rank_any _ _).mono ?_; rintro e w' ⟨rfl, rfl⟩)
      go_loop [0, 3] (fun i s => ∃ k : Nat, k ≤ n ∧ i = .int .i64 ((n : Int) - k) ∧ s = .int .i64 (lightT k)) (fun i _ => (intOf i).toNat)
      case atStart => exact ⟨0, Nat.zero_le _, by simp, rfl⟩
      case round =>
        obtain ⟨k, hk, rfl, rfl⟩ := hrel
        by_cases hlt : k < n
        · obtain ⟨hs, f1, f2⟩ := lightT_step (k := k) (by omega)
          have Hs := hide hs
          clear hs
          generalize lightT k = z at *
          go_wp2_with fail
          go_round
          case rel => exact ⟨k + 1, by omega, by go_num, by rw [unhide Hs]⟩
          case measure => simp [intOf]; omega
        · obtain rfl : k = n := by omega
          go_wp2_with fail
          go_loop [0, 3] (fun i s => i = .int .i64 0 ∧ s = .int .i64 (lightT k)) (fun _ _ => 0)
          case atStart => exact ⟨by simp, rfl⟩
          case round =>
            obtain ⟨rfl, rfl⟩ := hrel
            go_wp2_with fail
            go_ret
            exact ⟨rfl, rfl⟩
    · rw [weightV_down hb h0]
      obtain ⟨n, hn⟩ := Int.eq_ofNat_of_zero_le (show 0 ≤ -r by omega)
      obtain rfl : r = -(n : Int) := by omega
      rw [show (-(-(n : Int))).toNat = n by omega]
      clear hn
      go_enter Tryz.func88, Tryz.ntmps88
      go_wp2_with (go_at_call 86; refine (l3Rank_any _ _).mono ?_; rintro e w' ⟨rfl, rfl⟩)
      go_loop [0, 3] (fun i s => i = .int .i64 (-(n : Int)) ∧ s = .int .i64 1024) (fun _ _ => 0)
      case atStart => exact ⟨rfl, rfl⟩
      case round =>
        obtain ⟨rfl, rfl⟩ := hrel
        go_wp2_with fail
        go_loop [0, 3] (fun i s => ∃ k : Nat, k ≤ n ∧ i = .int .i64 ((k : Int) - n) ∧ s = .int .i64 (heavyT k)) (fun i _ => (-(intOf i)).toNat)
        case atStart => exact ⟨0, Nat.zero_le _, by simp, rfl⟩
        case round =>
          obtain ⟨k, hk, rfl, rfl⟩ := hrel
          by_cases hlt : k < n
          · obtain ⟨hs, f1, f2⟩ := heavyT_step (k := k) (by omega)
            have Hs := hide hs
            clear hs
            generalize heavyT k = z at *
            go_wp2_with fail
            go_round
            case rel => exact ⟨k + 1, by omega, by go_num, by rw [unhide Hs]⟩
            case measure => simp [intOf]; omega
          · obtain rfl : k = n := by omega
            go_wp2_with fail
            go_ret
            exact ⟨rfl, rfl⟩

theorem heavier_any {x y : Int} (h0 : 0 ≤ x) (h1 : x ≤ 100000) (h : x * 5 / 4 = y) (w : World) : Calls Tryz.prog 153 #[.int .i64 x] w fun e w' => e = .returned (.int .i64 y) ∧ w' = w := by
  subst h
  go_enter Tryz.func153, Tryz.ntmps153
  go_wp2
  go_ret
  exact ⟨rfl, rfl⟩
theorem lighter_any {x y : Int} (h0 : 0 ≤ x) (h1 : x ≤ 100000) (h : x * 4 / 5 = y) (w : World) : Calls Tryz.prog 154 #[.int .i64 x] w fun e w' => e = .returned (.int .i64 y) ∧ w' = w := by
  subst h
  go_enter Tryz.func154, Tryz.ntmps154
  go_wp2
  go_ret
  exact ⟨rfl, rfl⟩

set_option maxHeartbeats 2000000 in
theorem implWeightOf_any (r : Int) (w : World) : Calls Tryz.prog 151 #[.int .i64 r] w fun e w' => e = .returned (.int .i64 (weightV r)) ∧ w' = w := by
  cases hb : inB r (-5) 5
  · rw [weightV_none hb]
    have hr : r < -5 ∨ 5 < r := by
      by_cases h1 : -5 ≤ r
      · by_cases h2 : r ≤ 5
        · rw [inB_t h1 h2] at hb; cases hb
        · omega
      · omega
    have e1 : ¬ r = -5 := by omega
    have e2 : ¬ r = -4 := by omega
    have e3 : ¬ r = -3 := by omega
    have e4 : ¬ r = -2 := by omega
    have e5 : ¬ r = -1 := by omega
    have e6 : ¬ r = 0 := by omega
    have e7 : ¬ r = 5 := by omega
    have e8 : ¬ r = 4 := by omega
    have e9 : ¬ r = 3 := by omega
    have e10 : ¬ r = 2 := by omega
    have e11 : ¬ r = 1 := by omega
    clear hb hr
    go_enter Tryz.func151, Tryz.ntmps151
    go_wp2_with fail
    go_ret
    exact ⟨rfl, rfl⟩
  · rcases ranks hb with rfl | rfl | rfl | rfl | rfl | rfl | rfl | rfl | rfl | rfl | rfl
    all_goals
      clear hb
      go_enter Tryz.func151, Tryz.ntmps151
      go_wp2_with (first
        | (go_at_call 153; refine (heavier_any (by decide) (by decide) rfl _).mono ?_; rintro e w' ⟨rfl, rfl⟩)
        | (go_at_call 154; refine (lighter_any (by decide) (by decide) rfl _).mono ?_; rintro e w' ⟨rfl, rfl⟩))
      go_ret
      exact ⟨rfl, rfl⟩

end Go.Proofs.YtmhagllddhjgmabGreat

/- Guilds as plain lists of numbers: which are right, their bounds, what lies within them. Lists and numbers alone; no condition but those that a theorem names. -/
namespace Go.Proofs.YtmhagllddhjgmabGreat
open Go.ChangeShapes Go.WideShapes Go.ChangeAt Go.RowKit Go.Sort
set_option linter.unusedVariables false

def pairB (lo hi : Int) : Bool := inB lo 0 1024 && inB hi 0 1024 && decide (lo ≤ hi)
theorem pairB_of {lo hi : Int} (h : pairB lo hi = true) : 0 ≤ lo ∧ lo ≤ 1024 ∧ 0 ≤ hi ∧ hi ≤ 1024 ∧ lo ≤ hi := by
  unfold pairB at h
  simp only [Bool.and_eq_true, decide_eq_true_eq] at h
  obtain ⟨⟨h1, h2⟩, h3⟩ := h
  exact ⟨(inB_of h1).1, (inB_of h1).2, (inB_of h2).1, (inB_of h2).2, h3⟩
def guildB (g : GuildV) (n : Int) : Bool := inB g.1 (-1) (n - 1) && pairB g.2.1 g.2.2
theorem guildB_of {g : GuildV} {n : Int} (h : guildB g n = true) : -1 ≤ g.1 ∧ g.1 ≤ n - 1 ∧ pairB g.2.1 g.2.2 = true := by
  unfold guildB at h
  simp only [Bool.and_eq_true] at h
  exact ⟨(inB_of h.1).1, (inB_of h.1).2, h.2⟩
/-- The first k of them are right. -/
def upToB (ps : List GuildV) (k : Nat) : Bool := (List.range k).all fun i => guildB (recAt ps i) i
theorem upToB_succ (ps : List GuildV) (k : Nat) : upToB ps (k + 1) = (upToB ps k && guildB (recAt ps k) k) := by unfold upToB; rw [List.range_succ, List.all_append]; simp
theorem upToB_f {ps : List GuildV} {k n : Nat} (hk : k < n) (h : guildB (recAt ps k) k = false) : upToB ps n = false := by
  unfold upToB
  rw [List.all_eq_false]
  exact ⟨k, List.mem_range.2 hk, by simp [h]⟩
theorem upToB_at {ps : List GuildV} {k n : Nat} (h : upToB ps n = true) (hk : k < n) : guildB (recAt ps k) k = true := by
  unfold upToB at h
  exact List.all_eq_true.1 h k (List.mem_range.2 hk)
def guildsB (ps : List GuildV) : Bool := upToB ps ps.length && decide (ps.length ≤ 6)
theorem guildsB_of {ps : List GuildV} (h : guildsB ps = true) : upToB ps ps.length = true ∧ ps.length ≤ 6 := by
  unfold guildsB at h
  simpa using h
theorem guildsB_f {ps : List GuildV} {k : Nat} (hk : k < ps.length) (h : guildB (recAt ps k) k = false) : guildsB ps = false := by unfold guildsB; rw [upToB_f hk h]; rfl
theorem guildsB_long {ps : List GuildV} (h : 6 < ps.length) : guildsB ps = false := by unfold guildsB; simp; omega
theorem guildsB_at {ps : List GuildV} (h : guildsB ps = true) {g : Int} (h0 : 0 ≤ g) (h1 : g < ps.length) : -1 ≤ (recAt ps g.toNat).1 ∧ (recAt ps g.toNat).1 ≤ g - 1 ∧ pairB (recAt ps g.toNat).2.1 (recAt ps g.toNat).2.2 = true := by
  have := guildB_of (upToB_at (guildsB_of h).1 (k := g.toNat) (by omega))
  rw [show ((g.toNat : Nat) : Int) = g by omega] at this
  exact this

/-- low and high, each clamped to what is left. -/
def narV (b : Int × Int) (lo hi : Int) : Int × Int := (min (max lo b.1) b.2, min (max hi (min (max lo b.1) b.2)) b.2)
def bndN (ps : List GuildV) : Nat → Int → Int × Int
  | 0, _ => (0, 1024)
  | n + 1, g => if g < 0 then (0, 1024) else narV (bndN ps n (recAt ps g.toNat).1) (recAt ps g.toNat).2.1 (recAt ps g.toNat).2.2
def bnd (ps : List GuildV) (g : Int) : Int × Int := bndN ps (g + 1).toNat g
theorem narV_bd {b : Int × Int} {lo hi : Int} (h0 : 0 ≤ b.1) (h1 : b.1 ≤ b.2) (h2 : b.2 ≤ 1024) : b.1 ≤ (narV b lo hi).1 ∧ (narV b lo hi).1 ≤ (narV b lo hi).2 ∧ (narV b lo hi).2 ≤ b.2 := by
  unfold narV
  refine ⟨?_, ?_, ?_⟩ <;> simp only <;> omega
theorem bndN_bd (ps : List GuildV) : ∀ (n : Nat) (g : Int), 0 ≤ (bndN ps n g).1 ∧ (bndN ps n g).1 ≤ (bndN ps n g).2 ∧ (bndN ps n g).2 ≤ 1024
  | 0, g => by unfold bndN; simp
  | n + 1, g => by
    unfold bndN
    split
    · simp
    · obtain ⟨h0, h1, h2⟩ := bndN_bd ps n (recAt ps g.toNat).1
      obtain ⟨h3, h4, h5⟩ := narV_bd (lo := (recAt ps g.toNat).2.1) (hi := (recAt ps g.toNat).2.2) h0 h1 h2
      exact ⟨by omega, h4, by omega⟩
theorem bnd_bd (ps : List GuildV) (g : Int) : 0 ≤ (bnd ps g).1 ∧ (bnd ps g).1 ≤ (bnd ps g).2 ∧ (bnd ps g).2 ≤ 1024 := bndN_bd ps _ g
theorem bndN_more {ps : List GuildV} (h : guildsB ps = true) : ∀ (n m : Nat) (g : Int), g < n → g < m → g < ps.length → bndN ps n g = bndN ps m g
  | 0, 0, g, _, _, _ => rfl
  | 0, m + 1, g, h1, h2, h3 => by unfold bndN; rw [if_pos (by omega)]
  | n + 1, 0, g, h1, h2, h3 => by unfold bndN; rw [if_pos (by omega)]
  | n + 1, m + 1, g, h1, h2, h3 => by
    unfold bndN
    by_cases h0 : g < 0
    · rw [if_pos h0, if_pos h0]
    · rw [if_neg h0, if_neg h0]
      obtain ⟨a0, a1, _⟩ := guildsB_at h (g := g) (by omega) h3
      rw [bndN_more h n m (recAt ps g.toNat).1 (by omega) (by omega) (by omega)]
theorem bnd_none (ps : List GuildV) {g : Int} (h : g < 0) : bnd ps g = (0, 1024) := by
  unfold bnd
  rw [show (g + 1).toNat = 0 by omega]; rfl
theorem bnd_step {ps : List GuildV} (h : guildsB ps = true) {g : Int} (h0 : 0 ≤ g) (h1 : g < ps.length) : bnd ps g = narV (bnd ps (recAt ps g.toNat).1) (recAt ps g.toNat).2.1 (recAt ps g.toNat).2.2 := by
  obtain ⟨a0, a1, _⟩ := guildsB_at h h0 h1
  unfold bnd
  rw [show (g + 1).toNat = g.toNat + 1 by omega]
  show (if g < 0 then (0, 1024) else _) = _
  rw [if_neg (by omega), bndN_more h g.toNat ((recAt ps g.toNat).1 + 1).toNat _ (by omega) (by omega) (by omega)]
def isB (ps : List GuildV) (g : Int) : Bool := guildsB ps && inB g (-1) ((ps.length : Int) - 1)
def withinV (ps : List GuildV) (g lo hi : Int) : Int × Int := if isB ps g && pairB lo hi then narV (bnd ps g) lo hi else (-1, -1)
theorem withinV_f {ps : List GuildV} {g lo hi : Int} (h : (isB ps g && pairB lo hi) = false) : withinV ps g lo hi = (-1, -1) := by unfold withinV; rw [h]; rfl
theorem withinV_t {ps : List GuildV} {g lo hi : Int} (h : isB ps g = true) (h' : pairB lo hi = true) : withinV ps g lo hi = narV (bnd ps g) lo hi := by unfold withinV; rw [h, h']; rfl
end Go.Proofs.YtmhagllddhjgmabGreat

