/- Part 9 of what the proof rests on. No condition but those that a theorem names. -/
import Derived.Test.YthbbahagpmdooaaGreatDoorXw04
set_option maxHeartbeats 8000000
set_option maxRecDepth 100000
namespace Go.Proofs.YthbbahagpmdooaaGreatDoor
open Go.ChangeShapes Go.WideShapes Go.ChangeAt Go.RowKit
set_option linter.unusedVariables false
def lightT (k : Nat) : Int := [1024, 819, 655, 524, 419, 335].getD k 0
def heavyT (k : Nat) : Int := [1024, 1280, 1600, 2000, 2500, 3125].getD k 0
def weightV (r : Int) : Int := if inB r (-5) 5 then (if 0 ≤ r then lightT r.toNat else heavyT (-r).toNat) else 0
theorem lightT_all : ∀ k : Fin 5, lightT (k.val + 1) = lightT k.val * 4 / 5 ∧ 0 ≤ lightT k.val ∧ lightT k.val ≤ 1024 := by decide
theorem heavyT_all : ∀ k : Fin 5, heavyT (k.val + 1) = heavyT k.val * 5 / 4 ∧ 0 ≤ heavyT k.val ∧ heavyT k.val ≤ 3125 := by decide
theorem lightT_step {k : Nat} (h : k < 5) : lightT (k + 1) = lightT k * 4 / 5 ∧ 0 ≤ lightT k ∧ lightT k ≤ 1024 := lightT_all ⟨k, h⟩
theorem heavyT_step {k : Nat} (h : k < 5) : heavyT (k + 1) = heavyT k * 5 / 4 ∧ 0 ≤ heavyT k ∧ heavyT k ≤ 3125 := heavyT_all ⟨k, h⟩
theorem ranks {r : Int} (h : inB r (-5) 5 = true) : r = -5 ∨ r = -4 ∨ r = -3 ∨ r = -2 ∨ r = -1 ∨ r = 0 ∨ r = 1 ∨ r = 2 ∨ r = 3 ∨ r = 4 ∨ r = 5 := by
 have := inB_of h
 omega
theorem weightV_none {r : Int} (h : inB r (-5) 5 = false) : weightV r = 0 := by unfold weightV; simp [h]
theorem weightV_up {r : Int} (h : inB r (-5) 5 = true) (h0 : 0 ≤ r) : weightV r = lightT r.toNat := by unfold weightV; simp [h, h0]
theorem weightV_down {r : Int} (h : inB r (-5) 5 = true) (h0 : ¬ 0 ≤ r) : weightV r = heavyT (-r).toNat := by unfold weightV; simp [h, h0]
theorem l3Rank_any (x : Int) (w : World) : Calls Tryz.prog 108 #[.int .i64 x] w fun e w' => e = .returned (.bool (inB x (-5) 5)) ∧ w' = w := by
 go_enter Tryz.func108, Tryz.ntmps108
 go_wp2_with (go_at_call 56; refine (l1In_any _ _ _ _).mono ?_; rintro e w' ⟨rfl, rfl⟩)
 go_ret
 exact ⟨rfl, rfl⟩
theorem specWeightOf_any (r : Int) (w : World) : Calls Tryz.prog 111 #[.int .i64 r] w fun e w' => e = .returned (.int .i64 (weightV r)) ∧ w' = w := by
 cases hb : inB r (-5) 5
 ·rw [weightV_none hb]
  go_enter Tryz.func111, Tryz.ntmps111
  go_wp2_with (go_at_call 108; refine (l3Rank_any _ _).mono ?_; rintro e w' ⟨rfl, rfl⟩)
  go_ret
  exact ⟨rfl, rfl⟩
 ·obtain ⟨r0, r1⟩ := inB_of hb
  by_cases h0 : 0 ≤ r
  ·rw [weightV_up hb h0]
   obtain ⟨n, rfl⟩ := Int.eq_ofNat_of_zero_le h0
   rw [Int.toNat_natCast]
   go_enter Tryz.func111, Tryz.ntmps111
   go_wp2_with (go_at_call 108; refine (l3Rank_any _ _).mono ?_; rintro e w' ⟨rfl, rfl⟩)
   go_loop [0, 3] (fun i s => ∃ k : Nat, k ≤ n ∧ i = .int .i64 ((n : Int) - k) ∧ s = .int .i64 (lightT k)) (fun i _ => (intOf i).toNat)
   case atStart => exact ⟨0, Nat.zero_le _, by simp, rfl⟩
   case round =>
    obtain ⟨k, hk, rfl, rfl⟩ := hrel
    by_cases hlt : k < n
    ·obtain ⟨hs, f1, f2⟩ := lightT_step (k := k) (by omega)
     have Hs := hide hs
     clear hs
     generalize lightT k = z at *
     go_wp2_with fail
     go_round
     case rel => exact ⟨k + 1, by omega, by go_num, by rw [uh Hs]⟩
     case measure => simp [intOf]; omega
    ·obtain rfl : k = n := by omega
     go_wp2_with fail
     go_loop [0, 3] (fun i s => i = .int .i64 0 ∧ s = .int .i64 (lightT k)) (fun _ _ => 0)
     case atStart => exact ⟨by simp, rfl⟩
     case round =>
      obtain ⟨rfl, rfl⟩ := hrel
      go_wp2_with fail
      go_ret
      exact ⟨rfl, rfl⟩
  ·rw [weightV_down hb h0]
   obtain ⟨n, hn⟩ := Int.eq_ofNat_of_zero_le (show 0 ≤ -r by omega)
   obtain rfl : r = -(n : Int) := by omega
   rw [show (-(-(n : Int))).toNat = n by omega]
   clear hn
   go_enter Tryz.func111, Tryz.ntmps111
   go_wp2_with (go_at_call 108; refine (l3Rank_any _ _).mono ?_; rintro e w' ⟨rfl, rfl⟩)
   go_loop [0, 3] (fun i s => i = .int .i64 (-(n : Int)) ∧ s = .int .i64 1024) (fun _ _ => 0)
   case atStart => exact ⟨rfl, rfl⟩
   case round =>
    obtain ⟨rfl, rfl⟩ := hrel
    go_wp2_with fail
    go_loop [0, 3] (fun i s => ∃ k : Nat, k ≤ n ∧ i = .int .i64 ((k : Int) - n) ∧ s = .int .i64 (heavyT k)) (fun i _ => (-(intOf i)).toNat)
    case atStart => exact ⟨0, Nat.zero_le _, by simp, rfl⟩
    case round =>
     obtain ⟨k, hk, rfl, rfl⟩ := hrel
     by_cases hlt : k < n
     ·obtain ⟨hs, f1, f2⟩ := heavyT_step (k := k) (by omega)
      have Hs := hide hs
      clear hs
      generalize heavyT k = z at *
      go_wp2_with fail
      go_round
      case rel => exact ⟨k + 1, by omega, by go_num, by rw [uh Hs]⟩
      case measure => simp [intOf]; omega
     ·obtain rfl : k = n := by omega
      go_wp2_with fail
      go_ret
      exact ⟨rfl, rfl⟩
theorem heavier_any {x y : Int} (h0 : 0 ≤ x) (h1 : x ≤ 100000) (h : x * 5 / 4 = y) (w : World) : Calls Tryz.prog 320 #[.int .i64 x] w fun e w' => e = .returned (.int .i64 y) ∧ w' = w := by
 subst h
 go_enter Tryz.func320, Tryz.ntmps320
 go_wp2
 go_ret
 exact ⟨rfl, rfl⟩
theorem lighter_any {x y : Int} (h0 : 0 ≤ x) (h1 : x ≤ 100000) (h : x * 4 / 5 = y) (w : World) : Calls Tryz.prog 321 #[.int .i64 x] w fun e w' => e = .returned (.int .i64 y) ∧ w' = w := by
 subst h
 go_enter Tryz.func321, Tryz.ntmps321
 go_wp2
 go_ret
 exact ⟨rfl, rfl⟩
theorem implWeightOf_any (r : Int) (w : World) : Calls Tryz.prog 301 #[.int .i64 r] w fun e w' => e = .returned (.int .i64 (weightV r)) ∧ w' = w := by
 cases hb : inB r (-5) 5
 ·rw [weightV_none hb]
  have hr : r < -5 ∨ 5 < r := by
   by_cases h1 : -5 ≤ r
   ·by_cases h2 : r ≤ 5
    ·rw [inB_t h1 h2] at hb; cases hb
    ·omega
   ·omega
  have e1 : ¬ r = -5 := by omega
  have e2 : ¬ r = -4 := by omega
  have e3 : ¬ r = -3 := by omega
  have e4 : ¬ r = -2 := by omega
  have e5 : ¬ r = -1 := by omega
  have e6 : ¬ r = 0 := by omega
  have e7 : ¬ r = 5 := by omega
  have e8 : ¬ r = 4 := by omega
  have e9 : ¬ r = 3 := by omega
  have e10 : ¬ r = 2 := by omega
  have e11 : ¬ r = 1 := by omega
  clear hb hr
  go_enter Tryz.func301, Tryz.ntmps301
  go_wp2_with fail
  go_ret
  exact ⟨rfl, rfl⟩
 ·rcases ranks hb with rfl | rfl | rfl | rfl | rfl | rfl | rfl | rfl | rfl | rfl | rfl
  all_goals
   clear hb
   go_enter Tryz.func301, Tryz.ntmps301
   go_wp2_with (first
    | (go_at_call 320; refine (heavier_any (by decide) (by decide) rfl _).mono ?_; rintro e w' ⟨rfl, rfl⟩)
    | (go_at_call 321; refine (lighter_any (by decide) (by decide) rfl _).mono ?_; rintro e w' ⟨rfl, rfl⟩))
   go_ret
   exact ⟨rfl, rfl⟩
open Go.ChangeShapes Go.WideShapes Go.ChangeAt Go.RowKit Go.Sort
def pairB (lo hi : Int) : Bool := inB lo 0 1024 && inB hi 0 1024 && decide (lo ≤ hi)
theorem pairB_of {lo hi : Int} (h : pairB lo hi = true) : 0 ≤ lo ∧ lo ≤ 1024 ∧ 0 ≤ hi ∧ hi ≤ 1024 ∧ lo ≤ hi := by
 unfold pairB at h
 simp only [Bool.and_eq_true, decide_eq_true_eq] at h
 obtain ⟨⟨h1, h2⟩, h3⟩ := h
 exact ⟨(inB_of h1).1, (inB_of h1).2, (inB_of h2).1, (inB_of h2).2, h3⟩
def guildB (g : GuildV) (n : Int) : Bool := inB g.1 (-1) (n - 1) && pairB g.2.1 g.2.2
theorem guildB_of {g : GuildV} {n : Int} (h : guildB g n = true) : -1 ≤ g.1 ∧ g.1 ≤ n - 1 ∧ pairB g.2.1 g.2.2 = true := by
 unfold guildB at h
 simp only [Bool.and_eq_true] at h
 exact ⟨(inB_of h.1).1, (inB_of h.1).2, h.2⟩
def upToB (ps : List GuildV) (k : Nat) : Bool := (List.range k).all fun i => guildB (recAt ps i) i
theorem upToB_succ (ps : List GuildV) (k : Nat) : upToB ps (k + 1) = (upToB ps k && guildB (recAt ps k) k) := by unfold upToB; rw [List.range_succ, List.all_append]; simp
theorem upToB_f {ps : List GuildV} {k n : Nat} (hk : k < n) (h : guildB (recAt ps k) k = false) : upToB ps n = false := by
 unfold upToB
 rw [List.all_eq_false]
 exact ⟨k, List.mem_range.2 hk, by simp [h]⟩
theorem upToB_at {ps : List GuildV} {k n : Nat} (h : upToB ps n = true) (hk : k < n) : guildB (recAt ps k) k = true := by
 unfold upToB at h
 exact List.all_eq_true.1 h k (List.mem_range.2 hk)
def guildsB (ps : List GuildV) : Bool := upToB ps ps.length && decide (ps.length ≤ 6)
theorem guildsB_of {ps : List GuildV} (h : guildsB ps = true) : upToB ps ps.length = true ∧ ps.length ≤ 6 := by
 unfold guildsB at h
 simpa using h
theorem guildsB_f {ps : List GuildV} {k : Nat} (hk : k < ps.length) (h : guildB (recAt ps k) k = false) : guildsB ps = false := by unfold guildsB; rw [upToB_f hk h]; rfl
theorem guildsB_long {ps : List GuildV} (h : 6 < ps.length) : guildsB ps = false := by unfold guildsB; simp; omega
theorem guildsB_at {ps : List GuildV} (h : guildsB ps = true) {g : Int} (h0 : 0 ≤ g) (h1 : g < ps.length) : -1 ≤ (recAt ps g.toNat).1 ∧ (recAt ps g.toNat).1 ≤ g - 1 ∧ pairB (recAt ps g.toNat).2.1 (recAt ps g.toNat).2.2 = true := by
 have := guildB_of (upToB_at (guildsB_of h).1 (k := g.toNat) (by omega))
 rw [show ((g.toNat : Nat) : Int) = g by omega] at this
 exact this
def narV (b : Int × Int) (lo hi : Int) : Int × Int := (min (max lo b.1) b.2, min (max hi (min (max lo b.1) b.2)) b.2)
def bndN (ps : List GuildV) : Nat → Int → Int × Int
 | 0, _ => (0, 1024)
 | n + 1, g => if g < 0 then (0, 1024) else narV (bndN ps n (recAt ps g.toNat).1) (recAt ps g.toNat).2.1 (recAt ps g.toNat).2.2
def bnd (ps : List GuildV) (g : Int) : Int × Int := bndN ps (g + 1).toNat g
theorem narV_bd {b : Int × Int} {lo hi : Int} (h0 : 0 ≤ b.1) (h1 : b.1 ≤ b.2) (h2 : b.2 ≤ 1024) : b.1 ≤ (narV b lo hi).1 ∧ (narV b lo hi).1 ≤ (narV b lo hi).2 ∧ (narV b lo hi).2 ≤ b.2 := by
 unfold narV
 refine ⟨?_, ?_, ?_⟩ <;> simp only <;> omega
theorem bndN_bd (ps : List GuildV) : ∀ (n : Nat) (g : Int), 0 ≤ (bndN ps n g).1 ∧ (bndN ps n g).1 ≤ (bndN ps n g).2 ∧ (bndN ps n g).2 ≤ 1024
 | 0, g => by unfold bndN; simp
 | n + 1, g => by
  unfold bndN
  split
  ·simp
  ·obtain ⟨h0, h1, h2⟩ := bndN_bd ps n (recAt ps g.toNat).1
   obtain ⟨h3, h4, h5⟩ := narV_bd (lo := (recAt ps g.toNat).2.1) (hi := (recAt ps g.toNat).2.2) h0 h1 h2
   exact ⟨by omega, h4, by omega⟩
theorem bnd_bd (ps : List GuildV) (g : Int) : 0 ≤ (bnd ps g).1 ∧ (bnd ps g).1 ≤ (bnd ps g).2 ∧ (bnd ps g).2 ≤ 1024 := bndN_bd ps _ g
theorem bndN_more {ps : List GuildV} (h : guildsB ps = true) : ∀ (n m : Nat) (g : Int), g < n → g < m → g < ps.length → bndN ps n g = bndN ps m g
 | 0, 0, g, _, _, _ => rfl
 | 0, m + 1, g, h1, h2, h3 => by unfold bndN; rw [if_pos (by omega)]
 | n + 1, 0, g, h1, h2, h3 => by unfold bndN; rw [if_pos (by omega)]
 | n + 1, m + 1, g, h1, h2, h3 => by
  unfold bndN
  by_cases h0 : g < 0
  ·rw [if_pos h0, if_pos h0]
  ·rw [if_neg h0, if_neg h0]
   obtain ⟨a0, a1, _⟩ := guildsB_at h (g := g) (by omega) h3
   rw [bndN_more h n m (recAt ps g.toNat).1 (by omega) (by omega) (by omega)]
theorem bnd_none (ps : List GuildV) {g : Int} (h : g < 0) : bnd ps g = (0, 1024) := by
 unfold bnd
 rw [show (g + 1).toNat = 0 by omega]; rfl
theorem bnd_step {ps : List GuildV} (h : guildsB ps = true) {g : Int} (h0 : 0 ≤ g) (h1 : g < ps.length) : bnd ps g = narV (bnd ps (recAt ps g.toNat).1) (recAt ps g.toNat).2.1 (recAt ps g.toNat).2.2 := by
 obtain ⟨a0, a1, _⟩ := guildsB_at h h0 h1
 unfold bnd
 rw [show (g + 1).toNat = g.toNat + 1 by omega]
 show (if g < 0 then (0, 1024) else _) = _
 rw [if_neg (by omega), bndN_more h g.toNat ((recAt ps g.toNat).1 + 1).toNat _ (by omega) (by omega) (by omega)]
def isB (ps : List GuildV) (g : Int) : Bool := guildsB ps && inB g (-1) ((ps.length : Int) - 1)
def withinV (ps : List GuildV) (g lo hi : Int) : Int × Int := if isB ps g && pairB lo hi then narV (bnd ps g) lo hi else (-1, -1)
theorem withinV_f {ps : List GuildV} {g lo hi : Int} (h : (isB ps g && pairB lo hi) = false) : withinV ps g lo hi = (-1, -1) := by unfold withinV; rw [h]; rfl
theorem withinV_t {ps : List GuildV} {g lo hi : Int} (h : isB ps g = true) (h' : pairB lo hi = true) : withinV ps g lo hi = narV (bnd ps g) lo hi := by unfold withinV; rw [h, h']; rfl
theorem pairB_t {lo hi : Int} (h0 : 0 ≤ lo) (h1 : lo ≤ hi) (h2 : hi ≤ 1024) : pairB lo hi = true := by unfold pairB; rw [inB_t h0 (by omega), inB_t (by omega) h2]; simp; omega
theorem pairB_f {lo hi : Int} (h : lo < 0 ∨ hi < lo ∨ 1024 < hi) : pairB lo hi = false := by
 cases e : pairB lo hi
 ·rfl
 ·have := pairB_of e; omega
theorem areBounds_any (lo hi : Int) (w : World) : Calls Tryz.prog 265 #[.int .i64 lo, .int .i64 hi] w fun e w' => e = .returned (.bool (pairB lo hi)) ∧ w' = w := by
 by_cases h1 : 0 ≤ lo
 ·by_cases h2 : lo ≤ hi
  ·by_cases h3 : hi ≤ 1024
   all_goals
    go_enter Tryz.func265, Tryz.ntmps265
    go_wp2
    go_ret
    exact ⟨ret_bool (by first | exact (pairB_t h1 h2 h3).symm | exact (pairB_f (by omega)).symm), rfl⟩
  ·go_enter Tryz.func265, Tryz.ntmps265
   go_wp2
   go_ret
   exact ⟨ret_bool (pairB_f (by omega)).symm, rfl⟩
 ·go_enter Tryz.func265, Tryz.ntmps265
  go_wp2
  go_ret
  exact ⟨ret_bool (pairB_f (by omega)).symm, rfl⟩
theorem guildOk_any (a lo hi n : Int) (w : World) : Calls Tryz.prog 230 #[.agg #[.int .i64 a, .int .i64 lo, .int .i64 hi], .int .i64 n] w fun e w' => e = .returned (.bool (guildB (a, lo, hi) n)) ∧ Below w.heap.size w w' := by
 by_cases h1 : -1 ≤ a
 ·by_cases h2 : a < n
  ·have hg : guildB (a, lo, hi) n = pairB lo hi := by unfold guildB; rw [inB_t h1 (by omega)]; rfl
   rw [hg]; clear hg
   go_enter Tryz.func230, Tryz.ntmps230
   go_wp2_with (go_at_call 265; refine (areBounds_any _ _ _).mono ?_; rintro e w' ⟨rfl, rfl⟩)
   go_ret
   exact ⟨rfl, (Below.refl _ _).alloc (Nat.le_refl _) _⟩
  ·have hg : guildB (a, lo, hi) n = false := by unfold guildB; rw [inB_f (.inr (by omega))]; rfl
   rw [hg]; clear hg
   go_enter Tryz.func230, Tryz.ntmps230
   go_wp2_with fail
   go_ret
   exact ⟨rfl, (Below.refl _ _).alloc (Nat.le_refl _) _⟩
 ·have hg : guildB (a, lo, hi) n = false := by unfold guildB; rw [inB_f (.inl (by omega))]; rfl
  rw [hg]; clear hg
  go_enter Tryz.func230, Tryz.ntmps230
  go_wp2_with fail
  go_ret
  exact ⟨rfl, (Below.refl _ _).alloc (Nat.le_refl _) _⟩
theorem implGuildsOk_any {w : World} {v : Value} {ps : List GuildV} (h : IsGuilds w v ps) :
  Calls Tryz.prog 184 #[v] w fun e w' => e = .returned (.bool (guildsB ps)) ∧ Below w.heap.size w w' := by
 obtain ⟨a, cap, rfl, hc, hm, hr⟩ := h
 have Hr := hide hr
 clear hr
 by_cases hbig : 6 < ps.length
 ·go_enter Tryz.func184, Tryz.ntmps184
  go_wp2_with fail
  go_ret
  exact ⟨ret_bool (guildsB_long hbig).symm, Below.refl _ _⟩
 go_enter Tryz.func184, Tryz.ntmps184
 go_wp2_with fail
 go_loopw [10] (fun i wr => ∃ k : Nat, k ≤ ps.length ∧ i = .int .i64 k ∧ upToB ps k = true ∧ Below w.heap.size w wr) (fun i _ => ps.length - (intOf i).toNat)
 case atStart => exact ⟨0, Nat.zero_le _, rfl, rfl, Below.refl _ _⟩
 case round =>
  obtain ⟨k, hk, rfl, hst, hb⟩ := hrel
  have Hst := hide hst
  have Hb := hide hb
  clear hst
  by_cases hlt : k < ps.length
  ·rcases uh Hr with h0 | ⟨b, off, rfl, hbw, hcl⟩
   ·rw [h0] at hlt; simp at hlt
   have hbr : b < wr.heap.size := Nat.lt_of_lt_of_le hbw hb.size
   obtain ⟨c0, c1, c2⟩ := guild_cells hcl hlt
   rw [← hb.cell (p := ⟨b, off + k * 3, none⟩) hbw] at c0
   rw [← hb.cell (p := ⟨b, off + k * 3 + 1, none⟩) hbw] at c1
   rw [← hb.cell (p := ⟨b, off + k * 3 + 2, none⟩) hbw] at c2
   generalize hp : recAt ps k = p at c0 c1 c2
   have Hp := hide hp
   clear hp
   obtain ⟨x0, x1, x2⟩ := p
   simp only at c0 c1 c2
   have hsz := hb.size
   clear hcl hb
   go_wp2_with fail
   refine (guildOk_any _ _ _ _ _).mono ?_
   rintro e w1 ⟨rfl, hb1⟩
   have Hb1 := hide ((uh Hb).trans (((Below.refl _ _).alloc hsz _).trans (hb1.mono (by simp; omega))))
   clear hb1
   cases hg : guildB (x0, x1, x2) k
   ·go_wp2_with fail
    go_ret
    exact ⟨ret_bool (guildsB_f hlt (by rw [uh Hp]; exact hg)).symm, uh Hb1⟩
   ·go_wp2_with fail
    go_roundw
    case rel => exact ⟨k + 1, by omega, by go_num, by rw [upToB_succ, uh Hst, uh Hp, hg]; rfl, uh Hb1⟩
    case measure => simp [intOf]; omega
  ·obtain rfl : k = ps.length := by omega
   go_wp2_with fail
   go_ret
   exact ⟨ret_bool (by unfold guildsB; rw [uh Hst]; simp; omega), hb⟩
theorem narrowed_any (a lo hi l h : Int) (w : World) : Calls Tryz.prog 323 #[.agg #[.int .i64 a, .int .i64 lo, .int .i64 hi], .int .i64 l, .int .i64 h] w
  fun e w' => e = .returned (.tuple #[.int .i64 (narV (lo, hi) l h).1, .int .i64 (narV (lo, hi) l h).2]) ∧ Below w.heap.size w w' := by
 unfold narV
 go_enter Tryz.func323, Tryz.ntmps323
 go_wp2_with (go_at_call 263; refine (implClamped_any _ _ _ _).mono ?_; rintro e w' ⟨rfl, rfl⟩)
 go_ret2
 exact ⟨rfl, (Below.refl _ _).alloc (Nat.le_refl _) _⟩
theorem settled_any (a lo hi a' l h : Int) (w : World) : Calls Tryz.prog 334 #[.agg #[.int .i64 a, .int .i64 lo, .int .i64 hi, .int .i64 a', .int .i64 l, .int .i64 h]] w
  fun e w' => e = .returned (.agg #[.int .i64 a', .int .i64 (narV (lo, hi) l h).1, .int .i64 (narV (lo, hi) l h).2]) ∧ Below w.heap.size w w' := by
 go_enter Tryz.func334, Tryz.ntmps334
 go_wp2_with fail
 refine (narrowed_any _ _ _ _ _ _).mono ?_
 rintro e w1 ⟨rfl, hb1⟩
 have hz : w.heap.size + 1 < w1.heap.size := by have := hb1.size; simp at this; omega
 have Hb1 := hide hb1
 obtain ⟨hc, hf⟩ := bcell hb1
 clear hb1
 go_wp2_with fail
 exact bodyPost_ret (v := .agg #[.int .i64 a', .int .i64 (narV (lo, hi) l h).1, .int .i64 (narV (lo, hi) l h).2]) (by simp [results, Tryz.results334, go_sem, hc]) rfl
  ⟨rfl, ((((((Below.refl _ _).alloc (Nat.le_refl _) _).alloc (by simp) _).trans ((uh Hb1).mono (by simp; omega))).setCell (by simp) _).setCell (by simp) _).setCell (by simp) _⟩
theorem settledAt_any {ps : List GuildV} (hg : guildsB ps = true) : ∀ (n : Nat) (g : Int) {w : World} {v : Value}, IsGuilds w v ps → -1 ≤ g → g < n → g < ps.length →
  Calls Tryz.prog 322 #[v, .int .i64 g] w fun e w' => ∃ x, e = .returned (.agg #[.int .i64 x, .int .i64 (bnd ps g).1, .int .i64 (bnd ps g).2]) ∧ Below w.heap.size w w' := by
 intro n
 induction n with
 | zero =>
  intro g w v h h0 h1 h2
  obtain rfl : g = -1 := by omega
  rw [bnd_none ps (by omega)]
  obtain ⟨a, cap, rfl, _⟩ := h
  go_enter Tryz.func322, Tryz.ntmps322
  go_wp2_with fail
  exact bodyPost_ret (v := .agg #[.int .i64 (-1), .int .i64 0, .int .i64 1024]) (by simp [results, Tryz.results322, go_sem]) rfl ⟨-1, rfl, (Below.refl _ _).alloc (Nat.le_refl _) _⟩
 | succ n ih =>
  intro g w v h h0 h1 h2
  by_cases hg0 : g = -1
  ·subst hg0
   rw [bnd_none ps (by omega)]
   obtain ⟨a, cap, rfl, _⟩ := h
   go_enter Tryz.func322, Tryz.ntmps322
   go_wp2_with fail
   exact bodyPost_ret (v := .agg #[.int .i64 (-1), .int .i64 0, .int .i64 1024]) (by simp [results, Tryz.results322, go_sem]) rfl ⟨-1, rfl, (Below.refl _ _).alloc (Nat.le_refl _) _⟩
  ·obtain ⟨k, rfl⟩ : ∃ k : Nat, g = k := ⟨g.toNat, by omega⟩
   have hlt : k < ps.length := by omega
   obtain ⟨a0, a1, _⟩ := guildsB_at hg (g := (k : Int)) (by omega) h2
   have hs := bnd_step hg (g := (k : Int)) (by omega) h2
   rw [show ((k : Int)).toNat = k by omega] at a0 a1 hs
   rw [hs]
   clear hs
   have Hi := hide h
   obtain ⟨a, cap, rfl, hc, hm, hr⟩ := h
   rcases hr with hz | ⟨b, off, rfl, hbw, hcl⟩
   ·rw [hz] at hlt; simp at hlt
   obtain ⟨c0, c1, c2⟩ := guild_cells hcl hlt
   clear hcl
   generalize hW : w.alloc (.cells #[.int .i64 0, .int .i64 0, .int .i64 0] 82) = W
   have HB : Hid (Below w.heap.size w W) := hide (by rw [← hW]; exact (Below.refl _ _).alloc (Nat.le_refl _) _)
   have hsz : w.heap.size < W.heap.size := by rw [← hW]; simp
   have hbW : b < W.heap.size := by omega
   rw [← (uh HB).cell (p := ⟨b, off + k * 3, none⟩) hbw] at c0
   rw [← (uh HB).cell (p := ⟨b, off + k * 3 + 1, none⟩) hbw] at c1
   rw [← (uh HB).cell (p := ⟨b, off + k * 3 + 2, none⟩) hbw] at c2
   have D : Hid ((∃ u, W.cell? ⟨w.heap.size, 0, none⟩ = some u) ∧ (∃ u, W.cell? ⟨w.heap.size, 1, none⟩ = some u) ∧ (∃ u, W.cell? ⟨w.heap.size, 2, none⟩ = some u) ∧ W.frozen? ⟨w.heap.size, 0, none⟩ = false ∧ W.frozen? ⟨w.heap.size, 1, none⟩ = false ∧ W.frozen? ⟨w.heap.size, 2, none⟩ = false) :=
    hide (by rw [← hW]; exact ⟨⟨_, by simp; rfl⟩, ⟨_, by simp; rfl⟩, ⟨_, by simp; rfl⟩, by simp, by simp, by simp⟩)
   have HW := hide hW
   clear hW
   have Hc := hide (And.intro c0 (And.intro c1 c2))
   generalize hp : recAt ps k = p at *
   obtain ⟨x0, x1, x2⟩ := p
   simp only at c0 c1 c2 a0 a1
   have ih' := fun (w : World) (v : Value) (h : IsGuilds w v ps) => ih x0 h a0 (by omega) (by omega)
   have Ih := hide ih'
   clear ih ih' hp
   go_enter Tryz.func322, Tryz.ntmps322
   go_wp2_with fail
   rw [uh HW]
   go_region_with (first
    | (go_at_call 322; refine (uh Ih _ _ ?_).mono ?_; (first | exact (uh Hi).below (uh HB) | exact ((uh Hi).below (uh HB)).below ((Below.refl _ _).drew)); rintro e w1 ⟨y, rfl, hb1⟩; have B1 : Hid (Below W.heap.size W w1) := hide (by first | exact hb1 | exact ((Below.refl _ _).drew).trans (hb1.mono (by simp))); have e0 := ((uh B1).cell (p := ⟨b, off + k * 3, none⟩) hbW).trans (uh Hc).1; have e1 := ((uh B1).cell (p := ⟨b, off + k * 3 + 1, none⟩) hbW).trans (uh Hc).2.1; have e2 := ((uh B1).cell (p := ⟨b, off + k * 3 + 2, none⟩) hbW).trans (uh Hc).2.2; clear hb1)
    | (go_at_call 334; refine (settled_any _ _ _ _ _ _ _).mono ?_; rintro e w2 ⟨rfl, hb2⟩; have B2 : Hid (Below W.heap.size W w2) := hide ((uh B1).trans (hb2.mono (uh B1).size)); obtain ⟨⟨u0, q0⟩, ⟨u1, q1⟩, ⟨u2, q2⟩, f0, f1, f2⟩ := uh D; have d0 := ((uh B2).cell (p := ⟨w.heap.size, 0, none⟩) hsz).trans q0; have d1 := ((uh B2).cell (p := ⟨w.heap.size, 1, none⟩) hsz).trans q1; have d2 := ((uh B2).cell (p := ⟨w.heap.size, 2, none⟩) hsz).trans q2; have z0 := ((uh B2).frozen (p := ⟨w.heap.size, 0, none⟩) hsz).trans f0; have z1 := ((uh B2).frozen (p := ⟨w.heap.size, 1, none⟩) hsz).trans f1; have z2 := ((uh B2).frozen (p := ⟨w.heap.size, 2, none⟩) hsz).trans f2; clear hb2 q0 q1 q2 f0 f1 f2))
   all_goals
    go_wp2_with fail
    exact bodyPost_ret (v := .agg #[.int .i64 x0, .int .i64 (narV (bnd ps x0) x1 x2).1, .int .i64 (narV (bnd ps x0) x1 x2).2]) (by simp [results, Tryz.results322, go_sem, d0, d1, d2]) rfl
     ⟨x0, rfl, ((((uh HB).trans ((uh B2).mono (by omega))).setCell (Nat.le_refl _) _).setCell (Nat.le_refl _) _).setCell (Nat.le_refl _) _⟩
theorem implWithin_any {w : World} {v : Value} {ps : List GuildV} (g lo hi : Int) (h : IsGuilds w v ps) :
  Calls Tryz.prog 302 #[v, .int .i64 g, .int .i64 lo, .int .i64 hi] w fun e w' => e = .returned (.tuple #[.int .i64 (withinV ps g lo hi).1, .int .i64 (withinV ps g lo hi).2]) ∧ Below w.heap.size w w' := by
 have Hi := hide h
 obtain ⟨a, cap, rfl, hc, hm, hr⟩ := h
 clear hr
 generalize hW : w.alloc (.cells #[.int .i64 g, .int .i64 lo, .int .i64 hi] 82) = W
 have HB : Hid (Below w.heap.size w W) := hide (by rw [← hW]; exact (Below.refl _ _).alloc (Nat.le_refl _) _)
 have hsz : w.heap.size < W.heap.size := by rw [← hW]; simp
 have D : Hid (W.cell? ⟨w.heap.size, 0, none⟩ = some (.int .i64 g) ∧ W.cell? ⟨w.heap.size, 1, none⟩ = some (.int .i64 lo) ∧ W.cell? ⟨w.heap.size, 2, none⟩ = some (.int .i64 hi)) := hide (by rw [← hW]; simp)
 have HW := hide hW
 clear hW
 have hsv : (guildsB ps && guildB (g, lo, hi) ps.length) = (isB ps g && pairB lo hi) := by unfold guildB isB; rw [Bool.and_assoc]
 cases hG : guildsB ps
 ·rw [withinV_f (by rw [← hsv, hG]; rfl)]
  clear hsv
  go_enter Tryz.func302, Tryz.ntmps302
  go_wp2_with fail
  rw [uh HW]
  refine (implGuildsOk_any ((uh Hi).below (uh HB))).mono ?_
  rw [hG]
  rintro e w1 ⟨rfl, hb1⟩
  have B1 := hide ((uh HB).trans (hb1.mono (by omega)))
  clear hb1
  go_wp2_with fail
  go_ret2
  exact ⟨rfl, uh B1⟩
 ·cases hQ : guildB (g, lo, hi) ps.length
  ·rw [withinV_f (by rw [← hsv, hG, hQ]; rfl)]
   clear hsv
   go_enter Tryz.func302, Tryz.ntmps302
   go_wp2_with fail
   rw [uh HW]
   refine (implGuildsOk_any ((uh Hi).below (uh HB))).mono ?_
   rw [hG]
   rintro e w1 ⟨rfl, hb1⟩
   have d0 := (hb1.cell (p := ⟨w.heap.size, 0, none⟩) hsz).trans (uh D).1
   have d1 := (hb1.cell (p := ⟨w.heap.size, 1, none⟩) hsz).trans (uh D).2.1
   have d2 := (hb1.cell (p := ⟨w.heap.size, 2, none⟩) hsz).trans (uh D).2.2
   have B1 := hide ((uh HB).trans (hb1.mono (by omega)))
   clear hb1
   go_wp2_with fail
   refine (guildOk_any _ _ _ _ _).mono ?_
   rw [hQ]
   rintro e w2 ⟨rfl, hb2⟩
   have B2 := hide ((uh B1).trans (hb2.mono (uh B1).size))
   clear hb2
   go_wp2_with fail
   go_ret2
   exact ⟨rfl, uh B2⟩
  ·obtain ⟨g0, g1, g2⟩ := guildB_of hQ
   have hisB : isB ps g = true := by unfold isB; rw [hG, inB_t g0 (by simpa using g1)]; rfl
   rw [withinV_t hisB g2]
   clear hsv hisB
   have hlt : g < ps.length := by simp only at g1; omega
   simp only at g0
   go_enter Tryz.func302, Tryz.ntmps302
   go_wp2_with fail
   rw [uh HW]
   refine (implGuildsOk_any ((uh Hi).below (uh HB))).mono ?_
   rw [hG]
   rintro e w1 ⟨rfl, hb1⟩
   have d0 := (hb1.cell (p := ⟨w.heap.size, 0, none⟩) hsz).trans (uh D).1
   have d1 := (hb1.cell (p := ⟨w.heap.size, 1, none⟩) hsz).trans (uh D).2.1
   have d2 := (hb1.cell (p := ⟨w.heap.size, 2, none⟩) hsz).trans (uh D).2.2
   have B1 := hide ((uh HB).trans (hb1.mono (by omega)))
   clear hb1
   go_wp2_with fail
   refine (guildOk_any _ _ _ _ _).mono ?_
   rw [hQ]
   rintro e w2 ⟨rfl, hb2⟩
   have B2 := hide ((uh B1).trans (hb2.mono (uh B1).size))
   clear hb2
   go_wp2_with fail
   refine (settledAt_any hG (g + 1).toNat g ((uh Hi).below (uh B2)) g0 (by omega) hlt).mono ?_
   rintro e w3 ⟨x, rfl, hb3⟩
   have B3 := hide ((uh B2).trans (hb3.mono (uh B2).size))
   clear hb3
   go_wp2_with fail
   refine (narrowed_any _ _ _ _ _ _).mono ?_
   rintro e w4 ⟨rfl, hb4⟩
   have B4 := hide ((uh B3).trans (hb4.mono (uh B3).size))
   clear hb4
   go_wp2_with fail
   go_ret2
   exact ⟨rfl, uh B4⟩
theorem drewN_below {B : Nat} {w w' : World} (h : Below B w w') (n : Nat) : Below B w (w'.drewN n) := ⟨h.os, h.tape, h.output, h.size, h.block⟩
theorem guildForce_any (x : Int) (w : World) : Calls Tryz.prog 112 #[.int .i64 x] w fun e w' => e = .returned (.bool (inB x 0 1024)) ∧ w' = w := by
 go_enter Tryz.func112, Tryz.ntmps112
 go_wp2_with (go_at_call 56; refine (l1In_any _ _ _ _).mono ?_; rintro e w' ⟨rfl, rfl⟩)
 go_ret
 exact ⟨rfl, rfl⟩
theorem l8Pair_any (lo hi : Int) (w : World) : Calls Tryz.prog 109 #[.int .i64 lo, .int .i64 hi] w fun e w' => e = .returned (.bool (pairB lo hi)) ∧ w' = w := by
 cases h1 : inB lo 0 1024
 ·have hp : pairB lo hi = false := by unfold pairB; rw [h1]; rfl
  rw [hp]; clear hp
  go_enter Tryz.func109, Tryz.ntmps109
  go_wp2_with (go_at_call 112; refine (guildForce_any _ _).mono ?_; rintro e w' ⟨rfl, rfl⟩)
  go_ret
  exact ⟨rfl, rfl⟩
 ·cases h2 : inB hi 0 1024
  ·have hp : pairB lo hi = false := by unfold pairB; rw [h1, h2]; rfl
   rw [hp]; clear hp
   go_enter Tryz.func109, Tryz.ntmps109
   go_wp2_with (go_at_call 112; refine (guildForce_any _ _).mono ?_; rintro e w' ⟨rfl, rfl⟩)
   go_ret
   exact ⟨rfl, rfl⟩
  ·have hp : pairB lo hi = decide (lo ≤ hi) := by unfold pairB; rw [h1, h2]; rfl
   rw [hp]; clear hp
   by_cases h3 : lo ≤ hi
   all_goals
    go_enter Tryz.func109, Tryz.ntmps109
    go_wp2_with (go_at_call 112; refine (guildForce_any _ _).mono ?_; rintro e w' ⟨rfl, rfl⟩)
    go_ret
    exact ⟨ret_bool (by first | (simp; done) | (simp; omega)), rfl⟩
theorem specGuildsOk_any {w : World} {v : Value} {ps : List GuildV} (h : IsGuilds w v ps) :
  Calls Tryz.prog 122 #[v] w fun e w' => e = .returned (.bool (guildsB ps)) ∧ Below w.heap.size w w' := by
 obtain ⟨a, cap, rfl, hc, hm, hr⟩ := h
 have Hr := hide hr
 clear hr
 go_enter Tryz.func122, Tryz.ntmps122
 go_wp2_with fail
 go_loopw [3] (fun i wr => ∃ k : Nat, k ≤ ps.length ∧ i = .int .i64 k ∧ upToB ps k = true ∧ Below w.heap.size w wr) (fun i _ => ps.length - (intOf i).toNat)
 case atStart => exact ⟨0, Nat.zero_le _, rfl, rfl, Below.refl _ _⟩
 case round =>
  obtain ⟨k, hk, rfl, hst, hb⟩ := hrel
  have Hst := hide hst
  have Hb := hide hb
  clear hst
  by_cases hlt : k < ps.length
  ·rcases uh Hr with h0 | ⟨b, off, rfl, hbw, hcl⟩
   ·rw [h0] at hlt; simp at hlt
   obtain ⟨c0, c1, c2⟩ := guild_cells hcl hlt
   rw [← hb.cell (p := ⟨b, off + k * 3, none⟩) hbw] at c0
   rw [← hb.cell (p := ⟨b, off + k * 3 + 1, none⟩) hbw] at c1
   rw [← hb.cell (p := ⟨b, off + k * 3 + 2, none⟩) hbw] at c2
   generalize hp : recAt ps k = p at c0 c1 c2
   have Hp := hide hp
   clear hp
   obtain ⟨x0, x1, x2⟩ := p
   simp only at c0 c1 c2
   clear hcl hb
   have hg : guildB (x0, x1, x2) k = (inB x0 (-1) ((k : Int) - 1) && pairB x1 x2) := rfl
   have Hg := hide hg
   clear hg
   cases h1 : inB x0 (-1) ((k : Int) - 1)
   ·go_wp2_with fail
    go_quiet (first | exact Calls.quiet_of_same (l1In_any _ _ _ _) | exact Calls.quiet_of_same (l8Pair_any _ _ _))
    go_wp2_with fail
    go_ret
    exact ⟨ret_bool (guildsB_f hlt (by rw [uh Hp, uh Hg, h1]; rfl)).symm, drewN_below (uh Hb) _⟩
   cases h2 : pairB x1 x2
   ·go_wp2_with fail
    go_quiet (first | exact Calls.quiet_of_same (l1In_any _ _ _ _) | exact Calls.quiet_of_same (l8Pair_any _ _ _))
    go_wp2_with fail
    go_ret
    exact ⟨ret_bool (guildsB_f hlt (by rw [uh Hp, uh Hg, h1, h2]; rfl)).symm, drewN_below (uh Hb) _⟩
   ·go_wp2_with fail
    go_quiet (first | exact Calls.quiet_of_same (l1In_any _ _ _ _) | exact Calls.quiet_of_same (l8Pair_any _ _ _))
    go_wp2_with fail
    go_roundw
    case rel => exact ⟨k + 1, by omega, by go_num, by rw [upToB_succ, uh Hst, uh Hp, uh Hg, h1, h2]; rfl, drewN_below (uh Hb) _⟩
    case measure => simp [intOf]; omega
  ·obtain rfl : k = ps.length := by omega
   by_cases hbig : ps.length ≤ 6
   all_goals
    go_wp2_with fail
    go_ret
    exact ⟨ret_bool (by unfold guildsB; rw [uh Hst]; simp; omega), hb⟩
theorem l8Within_of {ps : List GuildV} (g : Int) (lo hi : Int) {w : World} {v : Value} (h : IsGuilds w v ps)
  (hB : Calls Tryz.prog 275 #[v, .int .i64 g] w fun e w' => e = .returned (.tuple #[.int .i64 (bnd ps g).1, .int .i64 (bnd ps g).2]) ∧ Below w.heap.size w w') :
  Calls Tryz.prog 223 #[v, .int .i64 g, .int .i64 lo, .int .i64 hi] w fun e w' => e = .returned (.tuple #[.int .i64 (narV (bnd ps g) lo hi).1, .int .i64 (narV (bnd ps g) lo hi).2]) ∧ Below w.heap.size w w' := by
 have HB := hide hB
 clear hB
 obtain ⟨a, cap, rfl, _⟩ := h
 unfold narV
 go_enter Tryz.func223, Tryz.ntmps223
 go_wp2_with fail
 refine (uh HB).mono ?_
 rintro e w1 ⟨rfl, hb1⟩
 go_wp2_with (go_at_call 224; refine (specClamped_any _ _ _ _).mono ?_; rintro e w' ⟨rfl, rfl⟩)
 go_ret2
 exact ⟨rfl, hb1⟩
theorem l8Bounds_any {ps : List GuildV} (hg : guildsB ps = true) : ∀ (n : Nat) (g : Int) {w : World} {v : Value}, IsGuilds w v ps → -1 ≤ g → g < n → g < ps.length →
  Calls Tryz.prog 275 #[v, .int .i64 g] w fun e w' => e = .returned (.tuple #[.int .i64 (bnd ps g).1, .int .i64 (bnd ps g).2]) ∧ Below w.heap.size w w' := by
 intro n
 induction n with
 | zero =>
  intro g w v h h0 h1 h2
  obtain rfl : g = -1 := by omega
  rw [bnd_none ps (by omega)]
  obtain ⟨a, cap, rfl, _⟩ := h
  go_enter Tryz.func275, Tryz.ntmps275
  go_wp2_with fail
  go_ret2
  exact ⟨rfl, Below.refl _ _⟩
 | succ n ih =>
  intro g w v h h0 h1 h2
  by_cases hg0 : g < 0
  ·obtain rfl : g = -1 := by omega
   rw [bnd_none ps (by omega)]
   obtain ⟨a, cap, rfl, _⟩ := h
   go_enter Tryz.func275, Tryz.ntmps275
   go_wp2_with fail
   go_ret2
   exact ⟨rfl, Below.refl _ _⟩
  ·obtain ⟨k, rfl⟩ : ∃ k : Nat, g = k := ⟨g.toNat, by omega⟩
   have hlt : k < ps.length := by omega
   obtain ⟨a0, a1, _⟩ := guildsB_at hg (g := (k : Int)) (by omega) h2
   have hs := bnd_step hg (g := (k : Int)) (by omega) h2
   rw [show ((k : Int)).toNat = k by omega] at a0 a1 hs
   rw [hs]
   clear hs
   have Hi := hide h
   obtain ⟨a, cap, rfl, hc, hm, hr⟩ := h
   rcases hr with hz | ⟨b, off, rfl, hbw, hcl⟩
   ·rw [hz] at hlt; simp at hlt
   obtain ⟨c0, c1, c2⟩ := guild_cells hcl hlt
   clear hcl
   generalize hp : recAt ps k = p at *
   obtain ⟨x0, x1, x2⟩ := p
   simp only at c0 c1 c2 a0 a1
   have k0 := cell_regrown c0
   have k1 := cell_regrown c1
   have k2 := cell_regrown c2
   have ih' := fun (w' : World) (h : IsGuilds w' (.slice (some ⟨b, off, none⟩) ps.length cap) ps) => l8Within_of x0 x1 x2 h (ih x0 h a0 (by omega) (by omega))
   have Ih := hide ih'
   clear ih ih' hp
   go_enter Tryz.func275, Tryz.ntmps275
   go_wp2_with fail
   refine wp_region_quiet_below (by kernel_rfl) (by kernel_rfl) ?_
   repeat (go_big_quiet_step (exact Calls.regrown_of (uh Ih _ ((uh Hi).below (below_regrown _ _ _)))))
   refine wpQuiet_nil ?_
   intro _ hw'
   obtain ⟨⟨dq, osq⟩, hw''⟩ := hw'
   subst hw''
   go_wp2_with fail
   go_ret2
   exact ⟨rfl, below_regrown _ _ _⟩
def presB (x : SmithV) : Bool :=
 inB x.1 1 3 && (inB x.2.1 0 7 && (inB x.2.2.1 (-5) 5 && (inB x.2.2.2.1 1 255 && (inB x.2.2.2.2.1 (-1) 5 && (pairB x.2.2.2.2.2.1 x.2.2.2.2.2.2.1 && (inB x.2.2.2.2.2.2.2.1 (-1000000000000) 1000000000000 &&
  (inB x.2.2.2.2.2.2.2.2.1 0 (weightV x.2.2.1 - 1) && (inB x.2.2.2.2.2.2.2.2.2.1 0 1024 && inB x.2.2.2.2.2.2.2.2.2.2 0 100000000000))))))))
def zeroS : SmithV := (0, 0, 0, 0, 0, 0, 0, 0, 0, 0, 0)
def sameB (x y : SmithV) : Bool := x.1 == y.1 && (x.2.1 == y.2.1 && (x.2.2.1 == y.2.2.1 && (x.2.2.2.1 == y.2.2.2.1 && (x.2.2.2.2.1 == y.2.2.2.2.1 && (x.2.2.2.2.2.1 == y.2.2.2.2.2.1 && (x.2.2.2.2.2.2.1 == y.2.2.2.2.2.2.1 && (x.2.2.2.2.2.2.2.1 == y.2.2.2.2.2.2.2.1 && (x.2.2.2.2.2.2.2.2.1 == y.2.2.2.2.2.2.2.2.1 && (x.2.2.2.2.2.2.2.2.2.1 == y.2.2.2.2.2.2.2.2.2.1 && (x.2.2.2.2.2.2.2.2.2.2 == y.2.2.2.2.2.2.2.2.2.2))))))))))
theorem sameB_refl (x : SmithV) : sameB x x = true := by unfold sameB; simp
theorem sameB_of {x y : SmithV} (h : sameB x y = true) : x = y := by
 obtain ⟨x0, x1, x2, x3, x4, x5, x6, x7, x8, x9, x10⟩ := x
 obtain ⟨y0, y1, y2, y3, y4, y5, y6, y7, y8, y9, y10⟩ := y
 unfold sameB at h
 simp only [Bool.and_eq_true, beq_iff_eq] at h
 obtain ⟨rfl, rfl, rfl, rfl, rfl, rfl, rfl, rfl, rfl, rfl, rfl⟩ := h
 rfl
def goneB (x : SmithV) : Bool := sameB x zeroS
def smithB (x : SmithV) : Bool := goneB x || presB x
theorem weight_in (r : Int) : 0 ≤ weightV r ∧ weightV r ≤ 3125 := by
 cases h : inB r (-5) 5
 ·rw [weightV_none h]; omega
 ·rcases ranks h with rfl | rfl | rfl | rfl | rfl | rfl | rfl | rfl | rfl | rfl | rfl <;> decide
theorem presB_of {st be rk my gu lo hi hd ca ut wk : Int} (h : presB (st, be, rk, my, gu, lo, hi, hd, ca, ut, wk) = true) : (1 ≤ st ∧ st ≤ 3) ∧ (0 ≤ be ∧ be ≤ 7) ∧ inB rk (-5) 5 = true ∧ (1 ≤ my ∧ my ≤ 255) ∧ (-1 ≤ gu ∧ gu ≤ 5) ∧ pairB lo hi = true ∧ (-1000000000000 ≤ hd ∧ hd ≤ 1000000000000) ∧ (0 ≤ ca ∧ ca ≤ weightV rk - 1) ∧ (0 ≤ ut ∧ ut ≤ 1024) ∧ (0 ≤ wk ∧ wk ≤ 100000000000) := by
 unfold presB at h
 simp only [Bool.and_eq_true] at h
 obtain ⟨h0, h1, h2, h3, h4, h5, h6, h7, h8, h9⟩ := h
 exact ⟨inB_of h0, inB_of h1, h2, inB_of h3, inB_of h4, h5, inB_of h6, inB_of h7, inB_of h8, inB_of h9⟩
theorem goneB_of {x : SmithV} (h : goneB x = true) : x = zeroS := sameB_of h
theorem goneB_zero : goneB zeroS = true := sameB_refl _
theorem goneB_st {x : SmithV} (h : x.1 ≠ 0) : goneB x = false := by
 cases hg : goneB x
 ·rfl
 ·exact absurd (show x.1 = 0 by rw [goneB_of hg]; rfl) h
theorem presB_st {x : SmithV} (h : x.1 = 0) : presB x = false := by
 unfold presB
 rw [h]
 rfl
theorem implSetOk_any (s : Int) (w : World) : Calls Tryz.prog 236 #[.int .i64 s] w fun e w' => e = .returned (.bool (inB s 0 255)) ∧ w' = w := by
 by_cases h1 : 0 ≤ s
 ·by_cases h2 : s ≤ 255
  all_goals
   go_enter Tryz.func236, Tryz.ntmps236
   go_wp2
   go_ret
   exact ⟨ret_bool (by first | exact (inB_t h1 h2).symm | exact (inB_f (by omega)).symm), rfl⟩
 ·go_enter Tryz.func236, Tryz.ntmps236
  go_wp2
  go_ret
  exact ⟨ret_bool (inB_f (by omega)).symm, rfl⟩
theorem isBench_any (i : Int) (w : World) : Calls Tryz.prog 237 #[.int .i64 i] w fun e w' => e = .returned (.bool (inB i 0 7)) ∧ w' = w := by
 by_cases h1 : 0 ≤ i
 ·by_cases h2 : i < 8
  all_goals
   go_enter Tryz.func237, Tryz.ntmps237
   go_wp2
   go_ret
   exact ⟨ret_bool (by first | exact (inB_t h1 (by omega)).symm | exact (inB_f (by omega)).symm), rfl⟩
 ·go_enter Tryz.func237, Tryz.ntmps237
  go_wp2
  go_ret
  exact ⟨ret_bool (inB_f (by omega)).symm, rfl⟩
def bitB (s i : Int) : Bool := decide (s / 2 ^ i.toNat % 2 = 1)
def memB (s i : Int) : Bool := inB s 0 255 && inB i 0 7 && bitB s i
theorem i64_and1 (n : Int) : bits .and .i64 n 1 = n % 2 := by
 have h1 : (BitVec.ofInt 64 1).toNat = 2 ^ 1 - 1 := by decide
 have key : (BitVec.ofInt 64 n &&& BitVec.ofInt 64 1).toNat = (n % ((2 ^ 64 : Nat) : Int)).toNat % 2 ^ 1 := by
  rw [BitVec.toNat_and, BitVec.toNat_ofInt, h1, Nat.and_two_pow_sub_one_eq_mod]
 show IntKind.i64.wrap ((BitVec.ofInt 64 n &&& BitVec.ofInt 64 1).toNat : Nat) = n % 2
 rw [key, IntKind.wrap_i64]
 omega
theorem bit_eq (s i : Int) : (bits .and .i64 (s / 2 ^ i.toNat) 1 == 1) = bitB s i := by rw [i64_and1]; unfold bitB; rfl
theorem memB_f {s i : Int} (h : inB s 0 255 = false ∨ inB i 0 7 = false) : memB s i = false := by unfold memB; rcases h with h | h <;> simp [h]
theorem memB_t {s i : Int} (hs : inB s 0 255 = true) (hi : inB i 0 7 = true) : memB s i = bitB s i := by unfold memB; simp [hs, hi]
theorem l2Has_any (s i : Int) (w : World) (hs : 0 ≤ s) (hs2 : s ≤ 255) (hi : 0 ≤ i) (hi2 : i ≤ 7) : Calls Tryz.prog 57 #[.int .i64 s, .int .i64 i] w fun e w' => e = .returned (.bool (bitB s i)) ∧ w' = w := by
 go_enter Tryz.func57, Tryz.ntmps57
 go_wp2
 go_ret
 exact ⟨ret_bool (bit_eq s i), rfl⟩
theorem implInSet_any (s i : Int) (w : World) : Calls Tryz.prog 192 #[.int .i64 s, .int .i64 i] w fun e w' => e = .returned (.bool (memB s i)) ∧ w' = w := by
 by_cases hb : inB s 0 255 = true
 ·obtain ⟨hs, hs2⟩ := inB_of hb
  by_cases hc : inB i 0 7 = true
  ·obtain ⟨hi, hi2⟩ := inB_of hc
   go_enter Tryz.func192, Tryz.ntmps192
   go_wp2_with (first | (go_at_call 236; refine (implSetOk_any _ _).mono ?_; rintro e w' ⟨rfl, rfl⟩) | (go_at_call 237; refine (isBench_any _ _).mono ?_; rintro e w' ⟨rfl, rfl⟩))
   go_ret
   exact ⟨ret_bool ((bit_eq s i).trans (memB_t hb hc).symm), rfl⟩
  ·have hc' : inB i 0 7 = false := by simpa using hc
   go_enter Tryz.func192, Tryz.ntmps192
   go_wp2_with (first | (go_at_call 236; refine (implSetOk_any _ _).mono ?_; rintro e w' ⟨rfl, rfl⟩) | (go_at_call 237; refine (isBench_any _ _).mono ?_; rintro e w' ⟨rfl, rfl⟩))
   go_ret
   exact ⟨ret_bool (memB_f (.inr hc')).symm, rfl⟩
 ·have hb' : inB s 0 255 = false := by simpa using hb
  go_enter Tryz.func192, Tryz.ntmps192
  go_wp2_with (first | (go_at_call 236; refine (implSetOk_any _ _).mono ?_; rintro e w' ⟨rfl, rfl⟩) | (go_at_call 237; refine (isBench_any _ _).mono ?_; rintro e w' ⟨rfl, rfl⟩))
  go_ret
  exact ⟨ret_bool (memB_f (.inl hb')).symm, rfl⟩
def presS (s : SmithV) : Bool := s.1 == 2 || s.1 == 3
def bandB (had mark : Int) : Bool := inB had (-1000000000000) 1000000000000 && (inB mark (-1000000000000) 1000000000000 && inB (had - mark) (-20000) 63000)
def deskB (d : DeskV) : Bool := inB d.2.2 (-900000000000) 900000000000
def paceInB (m : SmyV) (j : Nat) : Bool := inB (recAt m.paces j) 0 (((roomAt m.rooms j).2.length : Int) - 1)
def hereB (m : SmyV) (s : SmithV) : Bool := smithB s && (s.1 == 0 || (decide (s.2.2.2.2.1 < m.guilds.length) && decide (s.2.1 < m.desks.length)))
def seatB (m : SmyV) (s : SmithV) : Bool := !presS s || ((recAt m.desks s.2.1.toNat).1 && (bitB s.2.2.2.1 s.2.1 && bandB s.2.2.2.2.2.2.2.1 (recAt m.desks s.2.1.toNat).2.2))
def headB (m : SmyV) : Bool := hallB m.rooms && (guildsB m.guilds && (decide (m.smiths.length ≤ 12) && (decide ((m.desks.length : Int) = benchSum m.rooms) && (decide (m.paces.length = m.rooms.length) && inB m.now 0 1000000))))
def upDesks (m : SmyV) (k : Nat) : Bool := (List.range k).all fun j => deskB (recAt m.desks j)
def upOpen (m : SmyV) (k : Nat) : Bool := (List.range k).any fun j => (recAt m.desks j).1
def upPaces (m : SmyV) (k : Nat) : Bool := (List.range k).all fun j => paceInB m j
def upSmiths (m : SmyV) (k : Nat) : Bool := (List.range k).all fun j => hereB m (recAt m.smiths j) && seatB m (recAt m.smiths j)
def looseB (m : SmyV) : Bool := headB m && (upDesks m m.desks.length && (upPaces m m.paces.length && (upSmiths m m.smiths.length && upOpen m m.desks.length)))
theorem all_up {p : Nat → Bool} (k : Nat) : (List.range (k + 1)).all p = ((List.range k).all p && p k) := by rw [List.range_succ, List.all_append]; simp
theorem any_up {p : Nat → Bool} (k : Nat) : (List.range (k + 1)).any p = ((List.range k).any p || p k) := by rw [List.range_succ, List.any_append]; simp
theorem all_no {p : Nat → Bool} {k n : Nat} (hk : k < n) (h : p k = false) : (List.range n).all p = false := by
 rw [List.all_eq_false]
 exact ⟨k, List.mem_range.2 hk, by simp [h]⟩
theorem all_at {p : Nat → Bool} {k n : Nat} (h : (List.range n).all p = true) (hk : k < n) : p k = true := List.all_eq_true.1 h k (List.mem_range.2 hk)
theorem looseB_head {m : SmyV} (h : headB m = false) : looseB m = false := by unfold looseB; rw [h]; rfl
theorem looseB_desk {m : SmyV} {k : Nat} (hk : k < m.desks.length) (h : deskB (recAt m.desks k) = false) : looseB m = false := by
 unfold looseB upDesks
 rw [all_no hk h]; simp
theorem looseB_pace {m : SmyV} {k : Nat} (hk : k < m.paces.length) (h : paceInB m k = false) : looseB m = false := by
 unfold looseB upPaces
 rw [all_no (p := fun j => paceInB m j) hk h]; simp
theorem looseB_smith {m : SmyV} {k : Nat} (hk : k < m.smiths.length) (h : (hereB m (recAt m.smiths k) && seatB m (recAt m.smiths k)) = false) : looseB m = false := by
 unfold looseB upSmiths
 rw [all_no (p := fun j => hereB m (recAt m.smiths j) && seatB m (recAt m.smiths j)) hk h]; simp
theorem looseB_all {m : SmyV} (h1 : headB m = true) (h2 : upDesks m m.desks.length = true) (h3 : upPaces m m.paces.length = true) (h4 : upSmiths m m.smiths.length = true) : looseB m = upOpen m m.desks.length := by
 unfold looseB; rw [h1, h2, h3, h4]; rfl
theorem hereB_of {m : SmyV} {s : SmithV} (h : hereB m s = true) (hp : presS s = true) : 0 ≤ s.2.1 ∧ s.2.1 < m.desks.length ∧ s.2.1 ≤ 7 ∧ 1 ≤ s.2.2.2.1 ∧ s.2.2.2.1 ≤ 255 ∧ s.2.2.2.2.1 < m.guilds.length := by
 obtain ⟨st, be, rk, my, gu, lo, hi, hd, ca, ut, wk⟩ := s
 have hst : st ≠ 0 := by
  intro e
  subst e
  cases hp
 unfold hereB at h
 simp only [Bool.and_eq_true, Bool.or_eq_true, decide_eq_true_eq] at h
 obtain ⟨h1, h2⟩ := h
 rcases h2 with h2 | ⟨h2, h3⟩
 ·exact absurd (by simpa using h2) hst
 ·have hs : smithB (st, be, rk, my, gu, lo, hi, hd, ca, ut, wk) = presB (st, be, rk, my, gu, lo, hi, hd, ca, ut, wk) := by unfold smithB; rw [goneB_st hst, Bool.false_or]
  rw [hs] at h1
  obtain ⟨_, ⟨b0, b1⟩, _, ⟨m0, m1⟩, _⟩ := presB_of h1
  exact ⟨b0, h3, b1, m0, m1, h2⟩
def scanV (ss : List SmithV) (b : Int) : Nat → Option (Int × Bool)
 | 0 => some (-1, false)
 | k + 1 => match scanV ss b k with
  | none => none
  | some (wk, wt) => if (recAt ss k).2.1 = b ∧ presS (recAt ss k) = true then (if (recAt ss k).1 = 2 then some (wk, true) else if 0 ≤ wk then none else some ((k : Int), wt)) else some (wk, wt)
def benchOkB (m : SmyV) (b : Nat) : Bool := match scanV m.smiths b m.smiths.length with
 | none => false
 | some (wk, wt) => (recAt m.desks b).2.1 == wk && !(wt && decide (wk < 0))
def smyB (m : SmyV) : Bool := looseB m && (List.range m.desks.length).all (benchOkB m)
end Go.Proofs.YthbbahagpmdooaaGreatDoor
