/- Part 6 of what the proof rests on. No condition but those that a theorem names. -/
import Derived.Test.YtffcgajndmhpkaaGreatDoorXe03
set_option maxHeartbeats 8000000
set_option maxRecDepth 100000
namespace Go.Proofs.YtffcgajndmhpkaaGreatDoor
open Go.ChangeShapes Go.WideShapes Go.ChangeAt Go.RowKit
set_option linter.unusedVariables false
def lightT (k : Nat) : Int := [1024, 819, 655, 524, 419, 335].getD k 0
def heavyT (k : Nat) : Int := [1024, 1280, 1600, 2000, 2500, 3125].getD k 0
def weightV (r : Int) : Int := if inB r (-5) 5 then (if 0 ≤ r then lightT r.toNat else heavyT (-r).toNat) else 0
theorem lightT_all : ∀ k : Fin 5, lightT (k.val + 1) = lightT k.val * 4 / 5 ∧ 0 ≤ lightT k.val ∧ lightT k.val ≤ 1024 := by decide
theorem heavyT_all : ∀ k : Fin 5, heavyT (k.val + 1) = heavyT k.val * 5 / 4 ∧ 0 ≤ heavyT k.val ∧ heavyT k.val ≤ 3125 := by decide
theorem lightT_step {k : Nat} (h : k < 5) : lightT (k + 1) = lightT k * 4 / 5 ∧ 0 ≤ lightT k ∧ lightT k ≤ 1024 := lightT_all ⟨k, h⟩
theorem heavyT_step {k : Nat} (h : k < 5) : heavyT (k + 1) = heavyT k * 5 / 4 ∧ 0 ≤ heavyT k ∧ heavyT k ≤ 3125 := heavyT_all ⟨k, h⟩
theorem ranks {r : Int} (h : inB r (-5) 5 = true) : r = -5 ∨ r = -4 ∨ r = -3 ∨ r = -2 ∨ r = -1 ∨ r = 0 ∨ r = 1 ∨ r = 2 ∨ r = 3 ∨ r = 4 ∨ r = 5 := by
 have := inB_of h
 omega
theorem weightV_none {r : Int} (h : inB r (-5) 5 = false) : weightV r = 0 := by unfold weightV; simp [h]
theorem weightV_up {r : Int} (h : inB r (-5) 5 = true) (h0 : 0 ≤ r) : weightV r = lightT r.toNat := by unfold weightV; simp [h, h0]
theorem weightV_down {r : Int} (h : inB r (-5) 5 = true) (h0 : ¬ 0 ≤ r) : weightV r = heavyT (-r).toNat := by unfold weightV; simp [h, h0]
theorem l3Rank_any (x : Int) (w : World) : Calls Tryz.prog 159 #[.int .i64 x] w fun e w' => e = .returned (.bool (inB x (-5) 5)) ∧ w' = w := by
 go_enter Tryz.func159, Tryz.ntmps159
 go_wp2_with (go_at_call 40; refine (l1In_any _ _ _ _).mono ?_; rintro e w' ⟨rfl, rfl⟩)
 go_ret
 exact ⟨rfl, rfl⟩
theorem specWeightOf_any (r : Int) (w : World) : Calls Tryz.prog 102 #[.int .i64 r] w fun e w' => e = .returned (.int .i64 (weightV r)) ∧ w' = w := by
 cases hb : inB r (-5) 5
 ·rw [weightV_none hb]
  go_enter Tryz.func102, Tryz.ntmps102
  go_wp2_with (go_at_call 159; refine (l3Rank_any _ _).mono ?_; rintro e w' ⟨rfl, rfl⟩)
  go_ret
  exact ⟨rfl, rfl⟩
 ·obtain ⟨r0, r1⟩ := inB_of hb
  by_cases h0 : 0 ≤ r
  ·rw [weightV_up hb h0]
   obtain ⟨n, rfl⟩ := Int.eq_ofNat_of_zero_le h0
   rw [Int.toNat_natCast]
   go_enter Tryz.func102, Tryz.ntmps102
   go_wp2_with (go_at_call 159; refine (l3Rank_any _ _).mono ?_; rintro e w' ⟨rfl, rfl⟩)
   go_loop [0, 3] (fun i s => ∃ k : Nat, k ≤ n ∧ i = .int .i64 ((n : Int) - k) ∧ s = .int .i64 (lightT k)) (fun i _ => (intOf i).toNat)
   case atStart => exact ⟨0, Nat.zero_le _, by simp, rfl⟩
   case round =>
    obtain ⟨k, hk, rfl, rfl⟩ := hrel
    by_cases hlt : k < n
    ·obtain ⟨hs, f1, f2⟩ := lightT_step (k := k) (by omega)
     have Hs := hide hs
     clear hs
     generalize lightT k = z at *
     go_wp2_with fail
     go_round
     case rel => exact ⟨k + 1, by omega, by go_num, by rw [uh Hs]⟩
     case measure => exact ms
    ·obtain rfl : k = n := by omega
     go_wp2_with fail
     go_loop [0, 3] (fun i s => i = .int .i64 0 ∧ s = .int .i64 (lightT k)) (fun _ _ => 0)
     case atStart => exact ⟨by simp, rfl⟩
     case round =>
      obtain ⟨rfl, rfl⟩ := hrel
      go_wp2_with fail
      go_ret
      exact ⟨rfl, rfl⟩
  ·rw [weightV_down hb h0]
   obtain ⟨n, hn⟩ := Int.eq_ofNat_of_zero_le (show 0 ≤ -r by omega)
   obtain rfl : r = -(n : Int) := by omega
   rw [show (-(-(n : Int))).toNat = n by omega]
   clear hn
   go_enter Tryz.func102, Tryz.ntmps102
   go_wp2_with (go_at_call 159; refine (l3Rank_any _ _).mono ?_; rintro e w' ⟨rfl, rfl⟩)
   go_loop [0, 3] (fun i s => i = .int .i64 (-(n : Int)) ∧ s = .int .i64 1024) (fun _ _ => 0)
   case atStart => exact ⟨rfl, rfl⟩
   case round =>
    obtain ⟨rfl, rfl⟩ := hrel
    go_wp2_with fail
    go_loop [0, 3] (fun i s => ∃ k : Nat, k ≤ n ∧ i = .int .i64 ((k : Int) - n) ∧ s = .int .i64 (heavyT k)) (fun i _ => (-(intOf i)).toNat)
    case atStart => exact ⟨0, Nat.zero_le _, by simp, rfl⟩
    case round =>
     obtain ⟨k, hk, rfl, rfl⟩ := hrel
     by_cases hlt : k < n
     ·obtain ⟨hs, f1, f2⟩ := heavyT_step (k := k) (by omega)
      have Hs := hide hs
      clear hs
      generalize heavyT k = z at *
      go_wp2_with fail
      go_round
      case rel => exact ⟨k + 1, by omega, by go_num, by rw [uh Hs]⟩
      case measure => exact ms
     ·obtain rfl : k = n := by omega
      go_wp2_with fail
      go_ret
      exact ⟨rfl, rfl⟩
theorem heavier_any {x y : Int} (h0 : 0 ≤ x) (h1 : x ≤ 100000) (h : x * 5 / 4 = y) (w : World) : Calls Tryz.prog 294 #[.int .i64 x] w fun e w' => e = .returned (.int .i64 y) ∧ w' = w := by
 subst h
 go_enter Tryz.func294, Tryz.ntmps294
 go_wp2
 go_ret
 exact ⟨rfl, rfl⟩
theorem lighter_any {x y : Int} (h0 : 0 ≤ x) (h1 : x ≤ 100000) (h : x * 4 / 5 = y) (w : World) : Calls Tryz.prog 295 #[.int .i64 x] w fun e w' => e = .returned (.int .i64 y) ∧ w' = w := by
 subst h
 go_enter Tryz.func295, Tryz.ntmps295
 go_wp2
 go_ret
 exact ⟨rfl, rfl⟩
theorem implWeightOf_any (r : Int) (w : World) : Calls Tryz.prog 262 #[.int .i64 r] w fun e w' => e = .returned (.int .i64 (weightV r)) ∧ w' = w := by
 cases hb : inB r (-5) 5
 ·rw [weightV_none hb]
  have hr : r < -5 ∨ 5 < r := by
   by_cases h1 : -5 ≤ r
   ·by_cases h2 : r ≤ 5
    ·rw [inB_t h1 h2] at hb; cases hb
    ·omega
   ·omega
  have e1 : ¬ r = -5 := by omega
  have e2 : ¬ r = -4 := by omega
  have e3 : ¬ r = -3 := by omega
  have e4 : ¬ r = -2 := by omega
  have e5 : ¬ r = -1 := by omega
  have e6 : ¬ r = 0 := by omega
  have e7 : ¬ r = 5 := by omega
  have e8 : ¬ r = 4 := by omega
  have e9 : ¬ r = 3 := by omega
  have e10 : ¬ r = 2 := by omega
  have e11 : ¬ r = 1 := by omega
  clear hb hr
  go_enter Tryz.func262, Tryz.ntmps262
  go_wp2_with fail
  go_ret
  exact ⟨rfl, rfl⟩
 ·rcases ranks hb with rfl | rfl | rfl | rfl | rfl | rfl | rfl | rfl | rfl | rfl | rfl
  all_goals
   clear hb
   go_enter Tryz.func262, Tryz.ntmps262
   go_wp2_with (first
    | (go_at_call 294; refine (heavier_any (by decide) (by decide) rfl _).mono ?_; rintro e w' ⟨rfl, rfl⟩)
    | (go_at_call 295; refine (lighter_any (by decide) (by decide) rfl _).mono ?_; rintro e w' ⟨rfl, rfl⟩))
   go_ret
   exact ⟨rfl, rfl⟩
def okShare (work weight carry : Int) : Bool := inB work 0 1000000000 && (inB weight 1 100000 && inB carry 0 (weight - 1))
def shareN (work weight carry : Int) : Int := if okShare work weight carry then (1024 * work + carry) / weight else -1
def shareL (work weight carry : Int) : Int := if okShare work weight carry then (1024 * work + carry) % weight else 0
theorem okShare_t {a b c : Int} (ha : inB a 0 1000000000 = true) (hb : inB b 1 100000 = true) (hc : inB c 0 (b - 1) = true) : okShare a b c = true := by unfold okShare; simp [ha, hb, hc]
theorem okShare_of {a b c : Int} (h : okShare a b c = true) : 0 ≤ a ∧ a ≤ 1000000000 ∧ 1 ≤ b ∧ b ≤ 100000 ∧ 0 ≤ c ∧ c < b := by
 unfold okShare at h
 simp only [Bool.and_eq_true] at h
 obtain ⟨h1, h2, h3⟩ := h
 have := inB_of h1
 have := inB_of h2
 have := inB_of h3
 omega
theorem okShare_in {a b c : Int} (a0 : 0 ≤ a) (a1 : a ≤ 1000000000) (b0 : 1 ≤ b) (b1 : b ≤ 100000) (c0 : 0 ≤ c) (c1 : c < b) : okShare a b c = true := okShare_t (inB_t a0 a1) (inB_t b0 b1) (inB_t c0 (by omega))
theorem okShare_out {a b c : Int} (h : a < 0 ∨ 1000000000 < a ∨ b < 1 ∨ 100000 < b ∨ c < 0 ∨ b ≤ c) : okShare a b c = false := by
 cases h' : okShare a b c
 ·rfl
 ·have := okShare_of h'; omega
theorem share_yes {a b c : Int} (h : okShare a b c = true) : shareN a b c = (1024 * a + c) / b ∧ shareL a b c = (1024 * a + c) % b := by unfold shareN shareL; simp [h]
theorem canShare_any (a b c : Int) (w : World) : Calls Tryz.prog 293 #[.int .i64 a, .int .i64 b, .int .i64 c] w fun e w' => e = .returned (.bool (okShare a b c)) ∧ w' = w := by
 by_cases h1 : 0 ≤ a
 ·by_cases h2 : a ≤ 1000000000
  ·by_cases h3 : 1 ≤ b
   ·by_cases h4 : b ≤ 100000
    ·by_cases h5 : 0 ≤ c
     ·by_cases h6 : c < b
      ·rw [okShare_in h1 h2 h3 h4 h5 h6]
       go_enter Tryz.func293, Tryz.ntmps293
       go_wp2
       go_ret
       exact ⟨rfl, rfl⟩
      ·rw [okShare_out (by omega)]
       go_enter Tryz.func293, Tryz.ntmps293
       go_wp2
       go_ret
       exact ⟨rfl, rfl⟩
     ·rw [okShare_out (by omega)]
      go_enter Tryz.func293, Tryz.ntmps293
      go_wp2
      go_ret
      exact ⟨rfl, rfl⟩
    ·rw [okShare_out (by omega)]
     go_enter Tryz.func293, Tryz.ntmps293
     go_wp2
     go_ret
     exact ⟨rfl, rfl⟩
   ·rw [okShare_out (by omega)]
    go_enter Tryz.func293, Tryz.ntmps293
    go_wp2
    go_ret
    exact ⟨rfl, rfl⟩
  ·rw [okShare_out (by omega)]
   go_enter Tryz.func293, Tryz.ntmps293
   go_wp2
   go_ret
   exact ⟨rfl, rfl⟩
 ·rw [okShare_out (by omega)]
  go_enter Tryz.func293, Tryz.ntmps293
  go_wp2
  go_ret
  exact ⟨rfl, rfl⟩
open Go.ChangeShapes Go.WideShapes Go.ChangeAt Go.RowKit Go.Sort
def pairB (lo hi : Int) : Bool := inB lo 0 1024 && inB hi 0 1024 && decide (lo ≤ hi)
theorem pairB_of {lo hi : Int} (h : pairB lo hi = true) : 0 ≤ lo ∧ lo ≤ 1024 ∧ 0 ≤ hi ∧ hi ≤ 1024 ∧ lo ≤ hi := by
 unfold pairB at h
 simp only [Bool.and_eq_true, decide_eq_true_eq] at h
 obtain ⟨⟨h1, h2⟩, h3⟩ := h
 exact ⟨(inB_of h1).1, (inB_of h1).2, (inB_of h2).1, (inB_of h2).2, h3⟩
def guildB (g : GuildV) (n : Int) : Bool := inB g.1 (-1) (n - 1) && pairB g.2.1 g.2.2
def upToB (ps : List GuildV) (k : Nat) : Bool := (List.range k).all fun i => guildB (recAt ps i) i
theorem upToB_succ (ps : List GuildV) (k : Nat) : upToB ps (k + 1) = (upToB ps k && guildB (recAt ps k) k) := by unfold upToB; rw [List.range_succ, List.all_append]; simp
theorem upToB_f {ps : List GuildV} {k n : Nat} (hk : k < n) (h : guildB (recAt ps k) k = false) : upToB ps n = false := by
 unfold upToB
 rw [List.all_eq_false]
 exact ⟨k, List.mem_range.2 hk, by simp [h]⟩
def guildsB (ps : List GuildV) : Bool := upToB ps ps.length && decide (ps.length ≤ 6)
theorem guildsB_of {ps : List GuildV} (h : guildsB ps = true) : upToB ps ps.length = true ∧ ps.length ≤ 6 := by
 unfold guildsB at h
 simpa using h
theorem guildsB_f {ps : List GuildV} {k : Nat} (hk : k < ps.length) (h : guildB (recAt ps k) k = false) : guildsB ps = false := by unfold guildsB; rw [upToB_f hk h]; rfl
theorem guildsB_long {ps : List GuildV} (h : 6 < ps.length) : guildsB ps = false := by unfold guildsB; simp; omega
theorem pairB_t {lo hi : Int} (h0 : 0 ≤ lo) (h1 : lo ≤ hi) (h2 : hi ≤ 1024) : pairB lo hi = true := by unfold pairB; rw [inB_t h0 (by omega), inB_t (by omega) h2]; simp; omega
theorem pairB_f {lo hi : Int} (h : lo < 0 ∨ hi < lo ∨ 1024 < hi) : pairB lo hi = false := by
 cases e : pairB lo hi
 ·rfl
 ·have := pairB_of e; omega
theorem areBounds_any (lo hi : Int) (w : World) : Calls Tryz.prog 269 #[.int .i64 lo, .int .i64 hi] w fun e w' => e = .returned (.bool (pairB lo hi)) ∧ w' = w := by
 by_cases h1 : 0 ≤ lo
 ·by_cases h2 : lo ≤ hi
  ·by_cases h3 : hi ≤ 1024
   all_goals
    go_enter Tryz.func269, Tryz.ntmps269
    go_wp2
    go_ret
    exact ⟨ret_bool (by first | exact (pairB_t h1 h2 h3).symm | exact (pairB_f (by omega)).symm), rfl⟩
  ·go_enter Tryz.func269, Tryz.ntmps269
   go_wp2
   go_ret
   exact ⟨ret_bool (pairB_f (by omega)).symm, rfl⟩
 ·go_enter Tryz.func269, Tryz.ntmps269
  go_wp2
  go_ret
  exact ⟨ret_bool (pairB_f (by omega)).symm, rfl⟩
theorem guildOk_any (a lo hi n : Int) (w : World) : Calls Tryz.prog 213 #[.agg #[.int .i64 a, .int .i64 lo, .int .i64 hi], .int .i64 n] w fun e w' => e = .returned (.bool (guildB (a, lo, hi) n)) ∧ Below w.heap.size w w' := by
 by_cases h1 : -1 ≤ a
 ·by_cases h2 : a < n
  ·have hg : guildB (a, lo, hi) n = pairB lo hi := by unfold guildB; rw [inB_t h1 (by omega)]; rfl
   rw [hg]; clear hg
   go_enter Tryz.func213, Tryz.ntmps213
   go_wp2_with (go_at_call 269; refine (areBounds_any _ _ _).mono ?_; rintro e w' ⟨rfl, rfl⟩)
   go_ret
   exact ⟨rfl, (ba _ _)⟩
  ·have hg : guildB (a, lo, hi) n = false := by unfold guildB; rw [inB_f (.inr (by omega))]; rfl
   rw [hg]; clear hg
   go_enter Tryz.func213, Tryz.ntmps213
   go_wp2_with fail
   go_ret
   exact ⟨rfl, (ba _ _)⟩
 ·have hg : guildB (a, lo, hi) n = false := by unfold guildB; rw [inB_f (.inl (by omega))]; rfl
  rw [hg]; clear hg
  go_enter Tryz.func213, Tryz.ntmps213
  go_wp2_with fail
  go_ret
  exact ⟨rfl, (ba _ _)⟩
theorem implGuildsOk_any {w : World} {v : Value} {ps : List GuildV} (h : IsGuilds w v ps) :
  Calls Tryz.prog 165 #[v] w fun e w' => e = .returned (.bool (guildsB ps)) ∧ Below w.heap.size w w' := by
 obtain ⟨a, cap, rfl, hc, hm, hr⟩ := h
 have Hr := hide hr
 clear hr
 by_cases hbig : 6 < ps.length
 ·go_enter Tryz.func165, Tryz.ntmps165
  go_wp2_with fail
  go_ret
  exact ⟨ret_bool (guildsB_long hbig).symm, Below.refl _ _⟩
 go_enter Tryz.func165, Tryz.ntmps165
 go_wp2_with fail
 go_loopw [10] (fun i wr => ∃ k : Nat, k ≤ ps.length ∧ i = .int .i64 k ∧ upToB ps k = true ∧ Below w.heap.size w wr) (fun i _ => ps.length - (intOf i).toNat)
 case atStart => exact ⟨0, Nat.zero_le _, rfl, rfl, Below.refl _ _⟩
 case round =>
  obtain ⟨k, hk, rfl, hst, hb⟩ := hrel
  have Hst := hide hst
  have Hb := hide hb
  clear hst
  by_cases hlt : k < ps.length
  ·rcases uh Hr with h0 | ⟨b, off, rfl, hbw, hcl⟩
   ·rw [h0] at hlt; simp at hlt
   have hbr : b < wr.heap.size := Nat.lt_of_lt_of_le hbw hb.size
   obtain ⟨c0, c1, c2⟩ := guild_cells hcl hlt
   rw [← hb.cell (p := ⟨b, off + k * 3, none⟩) hbw] at c0
   rw [← hb.cell (p := ⟨b, off + k * 3 + 1, none⟩) hbw] at c1
   rw [← hb.cell (p := ⟨b, off + k * 3 + 2, none⟩) hbw] at c2
   generalize hp : recAt ps k = p at c0 c1 c2
   have Hp := hide hp
   clear hp
   obtain ⟨x0, x1, x2⟩ := p
   simp only at c0 c1 c2
   have hsz := hb.size
   clear hcl hb
   go_wp2_with fail
   refine ck (guildOk_any _ _ _ _ _) fun w1 hb1 => ?_
   have Hb1 := hide ((uh Hb).trans (((Below.refl _ _).alloc hsz _).trans (hb1.mono (by simp; omega))))
   clear hb1
   cases hg : guildB (x0, x1, x2) k
   ·go_wp2_with fail
    go_ret
    exact ⟨ret_bool (guildsB_f hlt (by rw [uh Hp]; exact hg)).symm, uh Hb1⟩
   ·go_wp2_with fail
    go_roundw
    case rel => exact ⟨k + 1, by omega, by go_num, by rw [upToB_succ, uh Hst, uh Hp, hg]; rfl, uh Hb1⟩
    case measure => exact ms
  ·obtain rfl : k = ps.length := by omega
   go_wp2_with fail
   go_ret
   exact ⟨ret_bool (by unfold guildsB; rw [uh Hst]; simp; omega), hb⟩
theorem drewN_below {B : Nat} {w w' : World} (h : Below B w w') (n : Nat) : Below B w (w'.drewN n) := ⟨h.os, h.tape, h.output, h.size, h.block⟩
theorem guildForce_any (x : Int) (w : World) : Calls Tryz.prog 49 #[.int .i64 x] w fun e w' => e = .returned (.bool (inB x 0 1024)) ∧ w' = w := by
 go_enter Tryz.func49, Tryz.ntmps49
 go_wp2_with (go_at_call 40; refine (l1In_any _ _ _ _).mono ?_; rintro e w' ⟨rfl, rfl⟩)
 go_ret
 exact ⟨rfl, rfl⟩
theorem l8Pair_any (lo hi : Int) (w : World) : Calls Tryz.prog 160 #[.int .i64 lo, .int .i64 hi] w fun e w' => e = .returned (.bool (pairB lo hi)) ∧ w' = w := by
 cases h1 : inB lo 0 1024
 ·have hp : pairB lo hi = false := by unfold pairB; rw [h1]; rfl
  rw [hp]; clear hp
  go_enter Tryz.func160, Tryz.ntmps160
  go_wp2_with (go_at_call 49; refine (guildForce_any _ _).mono ?_; rintro e w' ⟨rfl, rfl⟩)
  go_ret
  exact ⟨rfl, rfl⟩
 ·cases h2 : inB hi 0 1024
  ·have hp : pairB lo hi = false := by unfold pairB; rw [h1, h2]; rfl
   rw [hp]; clear hp
   go_enter Tryz.func160, Tryz.ntmps160
   go_wp2_with (go_at_call 49; refine (guildForce_any _ _).mono ?_; rintro e w' ⟨rfl, rfl⟩)
   go_ret
   exact ⟨rfl, rfl⟩
  ·have hp : pairB lo hi = decide (lo ≤ hi) := by unfold pairB; rw [h1, h2]; rfl
   rw [hp]; clear hp
   by_cases h3 : lo ≤ hi
   all_goals
    go_enter Tryz.func160, Tryz.ntmps160
    go_wp2_with (go_at_call 49; refine (guildForce_any _ _).mono ?_; rintro e w' ⟨rfl, rfl⟩)
    go_ret
    exact ⟨ret_bool (by first | (simp; done) | (simp; omega)), rfl⟩
theorem specGuildsOk_any {w : World} {v : Value} {ps : List GuildV} (h : IsGuilds w v ps) :
  Calls Tryz.prog 104 #[v] w fun e w' => e = .returned (.bool (guildsB ps)) ∧ Below w.heap.size w w' := by
 obtain ⟨a, cap, rfl, hc, hm, hr⟩ := h
 have Hr := hide hr
 clear hr
 go_enter Tryz.func104, Tryz.ntmps104
 go_wp2_with fail
 go_loopw [3] (fun i wr => ∃ k : Nat, k ≤ ps.length ∧ i = .int .i64 k ∧ upToB ps k = true ∧ Below w.heap.size w wr) (fun i _ => ps.length - (intOf i).toNat)
 case atStart => exact ⟨0, Nat.zero_le _, rfl, rfl, Below.refl _ _⟩
 case round =>
  obtain ⟨k, hk, rfl, hst, hb⟩ := hrel
  have Hst := hide hst
  have Hb := hide hb
  clear hst
  by_cases hlt : k < ps.length
  ·rcases uh Hr with h0 | ⟨b, off, rfl, hbw, hcl⟩
   ·rw [h0] at hlt; simp at hlt
   obtain ⟨c0, c1, c2⟩ := guild_cells hcl hlt
   rw [← hb.cell (p := ⟨b, off + k * 3, none⟩) hbw] at c0
   rw [← hb.cell (p := ⟨b, off + k * 3 + 1, none⟩) hbw] at c1
   rw [← hb.cell (p := ⟨b, off + k * 3 + 2, none⟩) hbw] at c2
   generalize hp : recAt ps k = p at c0 c1 c2
   have Hp := hide hp
   clear hp
   obtain ⟨x0, x1, x2⟩ := p
   simp only at c0 c1 c2
   clear hcl hb
   have hg : guildB (x0, x1, x2) k = (inB x0 (-1) ((k : Int) - 1) && pairB x1 x2) := rfl
   have Hg := hide hg
   clear hg
   cases h1 : inB x0 (-1) ((k : Int) - 1)
   ·go_wp2_with fail
    go_quiet (first | exact Calls.quiet_of_same (l1In_any _ _ _ _) | exact Calls.quiet_of_same (l8Pair_any _ _ _))
    go_wp2_with fail
    go_ret
    exact ⟨ret_bool (guildsB_f hlt (by rw [uh Hp, uh Hg, h1]; rfl)).symm, drewN_below (uh Hb) _⟩
   cases h2 : pairB x1 x2
   ·go_wp2_with fail
    go_quiet (first | exact Calls.quiet_of_same (l1In_any _ _ _ _) | exact Calls.quiet_of_same (l8Pair_any _ _ _))
    go_wp2_with fail
    go_ret
    exact ⟨ret_bool (guildsB_f hlt (by rw [uh Hp, uh Hg, h1, h2]; rfl)).symm, drewN_below (uh Hb) _⟩
   ·go_wp2_with fail
    go_quiet (first | exact Calls.quiet_of_same (l1In_any _ _ _ _) | exact Calls.quiet_of_same (l8Pair_any _ _ _))
    go_wp2_with fail
    go_roundw
    case rel => exact ⟨k + 1, by omega, by go_num, by rw [upToB_succ, uh Hst, uh Hp, uh Hg, h1, h2]; rfl, drewN_below (uh Hb) _⟩
    case measure => exact ms
  ·obtain rfl : k = ps.length := by omega
   by_cases hbig : ps.length ≤ 6
   all_goals
    go_wp2_with fail
    go_ret
    exact ⟨ret_bool (by unfold guildsB; rw [uh Hst]; simp; omega), hb⟩
def presB (x : SmithV) : Bool :=
 inB x.1 1 3 && (inB x.2.1 0 7 && (inB x.2.2.1 (-5) 5 && (inB x.2.2.2.1 1 255 && (inB x.2.2.2.2.1 (-1) 5 && (pairB x.2.2.2.2.2.1 x.2.2.2.2.2.2.1 && (inB x.2.2.2.2.2.2.2.1 (-1000000000000) 1000000000000 &&
  (inB x.2.2.2.2.2.2.2.2.1 0 (weightV x.2.2.1 - 1) && (inB x.2.2.2.2.2.2.2.2.2.1 0 1024 && inB x.2.2.2.2.2.2.2.2.2.2 0 100000000000))))))))
def zeroS : SmithV := (0, 0, 0, 0, 0, 0, 0, 0, 0, 0, 0)
def sameB (x y : SmithV) : Bool := x.1 == y.1 && (x.2.1 == y.2.1 && (x.2.2.1 == y.2.2.1 && (x.2.2.2.1 == y.2.2.2.1 && (x.2.2.2.2.1 == y.2.2.2.2.1 && (x.2.2.2.2.2.1 == y.2.2.2.2.2.1 && (x.2.2.2.2.2.2.1 == y.2.2.2.2.2.2.1 && (x.2.2.2.2.2.2.2.1 == y.2.2.2.2.2.2.2.1 && (x.2.2.2.2.2.2.2.2.1 == y.2.2.2.2.2.2.2.2.1 && (x.2.2.2.2.2.2.2.2.2.1 == y.2.2.2.2.2.2.2.2.2.1 && (x.2.2.2.2.2.2.2.2.2.2 == y.2.2.2.2.2.2.2.2.2.2))))))))))
theorem sameB_refl (x : SmithV) : sameB x x = true := by unfold sameB; simp
theorem sameB_of {x y : SmithV} (h : sameB x y = true) : x = y := by
 obtain ⟨x0, x1, x2, x3, x4, x5, x6, x7, x8, x9, x10⟩ := x
 obtain ⟨y0, y1, y2, y3, y4, y5, y6, y7, y8, y9, y10⟩ := y
 unfold sameB at h
 simp only [Bool.and_eq_true, beq_iff_eq] at h
 obtain ⟨rfl, rfl, rfl, rfl, rfl, rfl, rfl, rfl, rfl, rfl, rfl⟩ := h
 rfl
def goneB (x : SmithV) : Bool := sameB x zeroS
def smithB (x : SmithV) : Bool := goneB x || presB x
theorem weight_in (r : Int) : 0 ≤ weightV r ∧ weightV r ≤ 3125 := by
 cases h : inB r (-5) 5
 ·rw [weightV_none h]; omega
 ·rcases ranks h with rfl | rfl | rfl | rfl | rfl | rfl | rfl | rfl | rfl | rfl | rfl <;> decide
theorem weight_pos {r : Int} (h : inB r (-5) 5 = true) : 335 ≤ weightV r := by
 rcases ranks h with rfl | rfl | rfl | rfl | rfl | rfl | rfl | rfl | rfl | rfl | rfl <;> decide
theorem presB_of {st be rk my gu lo hi hd ca ut wk : Int} (h : presB (st, be, rk, my, gu, lo, hi, hd, ca, ut, wk) = true) : (1 ≤ st ∧ st ≤ 3) ∧ (0 ≤ be ∧ be ≤ 7) ∧ inB rk (-5) 5 = true ∧ (1 ≤ my ∧ my ≤ 255) ∧ (-1 ≤ gu ∧ gu ≤ 5) ∧ pairB lo hi = true ∧ (-1000000000000 ≤ hd ∧ hd ≤ 1000000000000) ∧ (0 ≤ ca ∧ ca ≤ weightV rk - 1) ∧ (0 ≤ ut ∧ ut ≤ 1024) ∧ (0 ≤ wk ∧ wk ≤ 100000000000) := by
 unfold presB at h
 simp only [Bool.and_eq_true] at h
 obtain ⟨h0, h1, h2, h3, h4, h5, h6, h7, h8, h9⟩ := h
 exact ⟨inB_of h0, inB_of h1, h2, inB_of h3, inB_of h4, h5, inB_of h6, inB_of h7, inB_of h8, inB_of h9⟩
theorem goneB_of {x : SmithV} (h : goneB x = true) : x = zeroS := sameB_of h
theorem goneB_zero : goneB zeroS = true := sameB_refl _
theorem goneB_st {x : SmithV} (h : x.1 ≠ 0) : goneB x = false := by
 cases hg : goneB x
 ·rfl
 ·exact absurd (show x.1 = 0 by rw [goneB_of hg]; rfl) h
theorem presB_st {x : SmithV} (h : x.1 = 0) : presB x = false := by
 unfold presB
 rw [h]
 rfl
def putOn (x : SmithV) (work : Int) : SmithV :=
 (x.1, x.2.1, x.2.2.1, x.2.2.2.1, x.2.2.2.2.1, x.2.2.2.2.2.1, x.2.2.2.2.2.2.1, x.2.2.2.2.2.2.2.1 + shareN work (weightV x.2.2.1) x.2.2.2.2.2.2.2.2.1, shareL work (weightV x.2.2.1) x.2.2.2.2.2.2.2.2.1, x.2.2.2.2.2.2.2.2.2.1, x.2.2.2.2.2.2.2.2.2.2 + work)
def chargedV (x : SmithV) (work : Int) : SmithV × Bool :=
 if presB x then (if inB work 0 100000 && presB (putOn x work) then (putOn x work, true) else (x, false)) else (if goneB x then x else zeroS, false)
theorem share_in {work W ca : Int} (w0 : 0 ≤ work) (w1 : work ≤ 100000) (r0 : 335 ≤ W) (r1 : W ≤ 3125) (c0 : 0 ≤ ca) (c1 : ca ≤ W - 1) :
  okShare work W ca = true ∧ 0 ≤ shareN work W ca ∧ shareN work W ca ≤ 400000 ∧ 0 ≤ shareL work W ca ∧ shareL work W ca ≤ W - 1 ∧ shareN work W ca * W + shareL work W ca = 1024 * work + ca := by
 have hk : okShare work W ca = true := okShare_in w0 (by omega) (by omega) (by omega) c0 (by omega)
 obtain ⟨e1, e2⟩ := share_yes hk
 rw [e1, e2]
 have hd := Int.emod_add_mul_ediv (1024 * work + ca) W
 have m0 := Int.emod_nonneg (1024 * work + ca) (show W ≠ 0 by omega)
 have m1 := Int.emod_lt_of_pos (1024 * work + ca) (show 0 < W by omega)
 have q0 : 0 ≤ (1024 * work + ca) / W := Int.ediv_nonneg (by omega) (by omega)
 have q1 : (1024 * work + ca) / W ≤ 400000 := by
  refine Int.le_of_lt_add_one (Int.ediv_lt_of_lt_mul (by omega) ?_)
  have : (335 : Int) * 400001 ≤ W * 400001 := Int.mul_le_mul_of_nonneg_right r0 (by omega)
  have e : (400000 + 1) * W = W * 400001 := by rw [Int.mul_comm]; rfl
  rw [e]
  omega
 refine ⟨hk, q0, q1, m0, by omega, ?_⟩
 rw [Int.mul_comm]
 omega
theorem implSetOk_any (s : Int) (w : World) : Calls Tryz.prog 220 #[.int .i64 s] w fun e w' => e = .returned (.bool (inB s 0 255)) ∧ w' = w := by
 by_cases h1 : 0 ≤ s
 ·by_cases h2 : s ≤ 255
  all_goals
   go_enter Tryz.func220, Tryz.ntmps220
   go_wp2
   go_ret
   exact ⟨ret_bool (by first | exact (inB_t h1 h2).symm | exact (inB_f (by omega)).symm), rfl⟩
 ·go_enter Tryz.func220, Tryz.ntmps220
  go_wp2
  go_ret
  exact ⟨ret_bool (inB_f (by omega)).symm, rfl⟩
theorem isBench_any (i : Int) (w : World) : Calls Tryz.prog 221 #[.int .i64 i] w fun e w' => e = .returned (.bool (inB i 0 7)) ∧ w' = w := by
 by_cases h1 : 0 ≤ i
 ·by_cases h2 : i < 8
  all_goals
   go_enter Tryz.func221, Tryz.ntmps221
   go_wp2
   go_ret
   exact ⟨ret_bool (by first | exact (inB_t h1 (by omega)).symm | exact (inB_f (by omega)).symm), rfl⟩
 ·go_enter Tryz.func221, Tryz.ntmps221
  go_wp2
  go_ret
  exact ⟨ret_bool (inB_f (by omega)).symm, rfl⟩
def bitB (s i : Int) : Bool := decide (s / 2 ^ i.toNat % 2 = 1)
def memB (s i : Int) : Bool := inB s 0 255 && inB i 0 7 && bitB s i
theorem i64_and1 (n : Int) : bits .and .i64 n 1 = n % 2 := by
 have h1 : (BitVec.ofInt 64 1).toNat = 2 ^ 1 - 1 := by decide
 have key : (BitVec.ofInt 64 n &&& BitVec.ofInt 64 1).toNat = (n % ((2 ^ 64 : Nat) : Int)).toNat % 2 ^ 1 := by
  rw [BitVec.toNat_and, BitVec.toNat_ofInt, h1, Nat.and_two_pow_sub_one_eq_mod]
 show IntKind.i64.wrap ((BitVec.ofInt 64 n &&& BitVec.ofInt 64 1).toNat : Nat) = n % 2
 rw [key, IntKind.wrap_i64]
 omega
theorem bit_eq (s i : Int) : (bits .and .i64 (s / 2 ^ i.toNat) 1 == 1) = bitB s i := by rw [i64_and1]; unfold bitB; rfl
theorem memB_f {s i : Int} (h : inB s 0 255 = false ∨ inB i 0 7 = false) : memB s i = false := by unfold memB; rcases h with h | h <;> simp [h]
theorem memB_t {s i : Int} (hs : inB s 0 255 = true) (hi : inB i 0 7 = true) : memB s i = bitB s i := by unfold memB; simp [hs, hi]
theorem l2Has_any (s i : Int) (w : World) (hs : 0 ≤ s) (hs2 : s ≤ 255) (hi : 0 ≤ i) (hi2 : i ≤ 7) : Calls Tryz.prog 106 #[.int .i64 s, .int .i64 i] w fun e w' => e = .returned (.bool (bitB s i)) ∧ w' = w := by
 go_enter Tryz.func106, Tryz.ntmps106
 go_wp2
 go_ret
 exact ⟨ret_bool (bit_eq s i), rfl⟩
theorem implInSet_any (s i : Int) (w : World) : Calls Tryz.prog 174 #[.int .i64 s, .int .i64 i] w fun e w' => e = .returned (.bool (memB s i)) ∧ w' = w := by
 by_cases hb : inB s 0 255 = true
 ·obtain ⟨hs, hs2⟩ := inB_of hb
  by_cases hc : inB i 0 7 = true
  ·obtain ⟨hi, hi2⟩ := inB_of hc
   go_enter Tryz.func174, Tryz.ntmps174
   go_wp2_with (first | (go_at_call 220; refine (implSetOk_any _ _).mono ?_; rintro e w' ⟨rfl, rfl⟩) | (go_at_call 221; refine (isBench_any _ _).mono ?_; rintro e w' ⟨rfl, rfl⟩))
   go_ret
   exact ⟨ret_bool ((bit_eq s i).trans (memB_t hb hc).symm), rfl⟩
  ·have hc' : inB i 0 7 = false := by simpa using hc
   go_enter Tryz.func174, Tryz.ntmps174
   go_wp2_with (first | (go_at_call 220; refine (implSetOk_any _ _).mono ?_; rintro e w' ⟨rfl, rfl⟩) | (go_at_call 221; refine (isBench_any _ _).mono ?_; rintro e w' ⟨rfl, rfl⟩))
   go_ret
   exact ⟨ret_bool (memB_f (.inr hc')).symm, rfl⟩
 ·have hb' : inB s 0 255 = false := by simpa using hb
  go_enter Tryz.func174, Tryz.ntmps174
  go_wp2_with (first | (go_at_call 220; refine (implSetOk_any _ _).mono ?_; rintro e w' ⟨rfl, rfl⟩) | (go_at_call 221; refine (isBench_any _ _).mono ?_; rintro e w' ⟨rfl, rfl⟩))
  go_ret
  exact ⟨ret_bool (memB_f (.inl hb')).symm, rfl⟩
def presS (s : SmithV) : Bool := s.1 == 2 || s.1 == 3
def bandB (had mark : Int) : Bool := inB had (-1000000000000) 1000000000000 && (inB mark (-1000000000000) 1000000000000 && inB (had - mark) (-20000) 63000)
def deskB (d : DeskV) : Bool := inB d.2.2 (-900000000000) 900000000000
def paceInB (m : SmyV) (j : Nat) : Bool := inB (recAt m.paces j) 0 (((roomAt m.rooms j).2.length : Int) - 1)
def hereB (m : SmyV) (s : SmithV) : Bool := smithB s && (s.1 == 0 || (decide (s.2.2.2.2.1 < m.guilds.length) && decide (s.2.1 < m.desks.length)))
def seatB (m : SmyV) (s : SmithV) : Bool := !presS s || ((recAt m.desks s.2.1.toNat).1 && (bitB s.2.2.2.1 s.2.1 && bandB s.2.2.2.2.2.2.2.1 (recAt m.desks s.2.1.toNat).2.2))
def headB (m : SmyV) : Bool := hallB m.rooms && (guildsB m.guilds && (decide (m.smiths.length ≤ 12) && (decide ((m.desks.length : Int) = benchSum m.rooms) && (decide (m.paces.length = m.rooms.length) && inB m.now 0 1000000))))
def upDesks (m : SmyV) (k : Nat) : Bool := (List.range k).all fun j => deskB (recAt m.desks j)
def upOpen (m : SmyV) (k : Nat) : Bool := (List.range k).any fun j => (recAt m.desks j).1
def upPaces (m : SmyV) (k : Nat) : Bool := (List.range k).all fun j => paceInB m j
def upSmiths (m : SmyV) (k : Nat) : Bool := (List.range k).all fun j => hereB m (recAt m.smiths j) && seatB m (recAt m.smiths j)
def looseB (m : SmyV) : Bool := headB m && (upDesks m m.desks.length && (upPaces m m.paces.length && (upSmiths m m.smiths.length && upOpen m m.desks.length)))
theorem all_up {p : Nat → Bool} (k : Nat) : (List.range (k + 1)).all p = ((List.range k).all p && p k) := by rw [List.range_succ, List.all_append]; simp
theorem any_up {p : Nat → Bool} (k : Nat) : (List.range (k + 1)).any p = ((List.range k).any p || p k) := by rw [List.range_succ, List.any_append]; simp
theorem all_no {p : Nat → Bool} {k n : Nat} (hk : k < n) (h : p k = false) : (List.range n).all p = false := by
 rw [List.all_eq_false]
 exact ⟨k, List.mem_range.2 hk, by simp [h]⟩
theorem all_at {p : Nat → Bool} {k n : Nat} (h : (List.range n).all p = true) (hk : k < n) : p k = true := List.all_eq_true.1 h k (List.mem_range.2 hk)
theorem looseB_head {m : SmyV} (h : headB m = false) : looseB m = false := by unfold looseB; rw [h]; rfl
theorem looseB_desk {m : SmyV} {k : Nat} (hk : k < m.desks.length) (h : deskB (recAt m.desks k) = false) : looseB m = false := by
 unfold looseB upDesks
 rw [all_no hk h]; simp
theorem looseB_pace {m : SmyV} {k : Nat} (hk : k < m.paces.length) (h : paceInB m k = false) : looseB m = false := by
 unfold looseB upPaces
 rw [all_no (p := fun j => paceInB m j) hk h]; simp
theorem looseB_smith {m : SmyV} {k : Nat} (hk : k < m.smiths.length) (h : (hereB m (recAt m.smiths k) && seatB m (recAt m.smiths k)) = false) : looseB m = false := by
 unfold looseB upSmiths
 rw [all_no (p := fun j => hereB m (recAt m.smiths j) && seatB m (recAt m.smiths j)) hk h]; simp
theorem looseB_all {m : SmyV} (h1 : headB m = true) (h2 : upDesks m m.desks.length = true) (h3 : upPaces m m.paces.length = true) (h4 : upSmiths m m.smiths.length = true) : looseB m = upOpen m m.desks.length := by
 unfold looseB; rw [h1, h2, h3, h4]; rfl
theorem hereB_of {m : SmyV} {s : SmithV} (h : hereB m s = true) (hp : presS s = true) : 0 ≤ s.2.1 ∧ s.2.1 < m.desks.length ∧ s.2.1 ≤ 7 ∧ 1 ≤ s.2.2.2.1 ∧ s.2.2.2.1 ≤ 255 ∧ s.2.2.2.2.1 < m.guilds.length := by
 obtain ⟨st, be, rk, my, gu, lo, hi, hd, ca, ut, wk⟩ := s
 have hst : st ≠ 0 := by
  intro e
  subst e
  cases hp
 unfold hereB at h
 simp only [Bool.and_eq_true, Bool.or_eq_true, decide_eq_true_eq] at h
 obtain ⟨h1, h2⟩ := h
 rcases h2 with h2 | ⟨h2, h3⟩
 ·exact absurd (by simpa using h2) hst
 ·have hs : smithB (st, be, rk, my, gu, lo, hi, hd, ca, ut, wk) = presB (st, be, rk, my, gu, lo, hi, hd, ca, ut, wk) := by unfold smithB; rw [goneB_st hst, Bool.false_or]
  rw [hs] at h1
  obtain ⟨_, ⟨b0, b1⟩, _, ⟨m0, m1⟩, _⟩ := presB_of h1
  exact ⟨b0, h3, b1, m0, m1, h2⟩
def scanV (ss : List SmithV) (b : Int) : Nat → Option (Int × Bool)
 | 0 => some (-1, false)
 | k + 1 => match scanV ss b k with
  | none => none
  | some (wk, wt) => if (recAt ss k).2.1 = b ∧ presS (recAt ss k) = true then (if (recAt ss k).1 = 2 then some (wk, true) else if 0 ≤ wk then none else some ((k : Int), wt)) else some (wk, wt)
def benchOkB (m : SmyV) (b : Nat) : Bool := match scanV m.smiths b m.smiths.length with
 | none => false
 | some (wk, wt) => (recAt m.desks b).2.1 == wk && !(wt && decide (wk < 0))
def smyB (m : SmyV) : Bool := looseB m && (List.range m.desks.length).all (benchOkB m)
def ltB (a b : PaceV) : Bool := decide (a.1 < b.1 ∨ (a.1 = b.1 ∧ a.2 < b.2))
theorem ltB_t {a b : PaceV} : ltB a b = true ↔ (a.1 < b.1 ∨ (a.1 = b.1 ∧ a.2 < b.2)) := by unfold ltB; exact decide_eq_true_iff
theorem ltB_f {a b : PaceV} : ltB a b = false ↔ ¬ (a.1 < b.1 ∨ (a.1 = b.1 ∧ a.2 < b.2)) := by unfold ltB; exact decide_eq_false_iff_not
theorem ltB_self (a : PaceV) : ltB a a = false := by rw [ltB_f]; omega
theorem ltB_not {a b : PaceV} (h : ltB a b = true) : ltB b a = false := by rw [ltB_t] at h; rw [ltB_f]; omega
theorem ltB_le {a b c : PaceV} (h : ltB b a = false) (k : ltB c b = false) : ltB c a = false := by rw [ltB_f] at *; omega
theorem ltB_lt {a b c : PaceV} (h : ltB a b = true) (k : ltB b c = true) : ltB a c = true := by rw [ltB_t] at *; omega
theorem ltB_eq {a b : PaceV} (h : ltB b a = false) (k : ltB a b = false) : a = b := by
  rw [ltB_f] at *; obtain ⟨a1, a2⟩ := a; obtain ⟨b1, b2⟩ := b; simp only at h k; rw [show a1 = b1 by omega, show a2 = b2 by omega]
def swp (ps : List PaceV) (i j : Nat) : List PaceV := (ps.set i (paceAt ps j)).set j (paceAt ps i)
theorem swp_len (ps : List PaceV) (i j : Nat) : (swp ps i j).length = ps.length := by simp [swp]
theorem paceAt_set {ps : List PaceV} {i : Nat} {x : PaceV} (h : i < ps.length) (k : Nat) : paceAt (ps.set i x) k = if k = i then x else paceAt ps k := by
  unfold paceAt
  by_cases e : k = i
  · subst e; simp [List.getD, h]
  · rw [if_neg e]; simp [List.getD, Ne.symm e]
theorem swp_at {ps : List PaceV} {i j : Nat} (hi : i < ps.length) (hj : j < ps.length) (k : Nat) : paceAt (swp ps i j) k = if k = j then paceAt ps i else if k = i then paceAt ps j else paceAt ps k := by
  unfold swp
  rw [paceAt_set (by simpa using hj), paceAt_set hi]
theorem swp_perm {ps : List PaceV} {i j : Nat} (hi : i < ps.length) (hj : j < ps.length) : (swp ps i j).Perm ps := by
  have := List.set_set_perm hi hj
  unfold swp paceAt
  simpa [List.getD, hi, hj] using this
def HeapTo (ps : List PaceV) (n : Nat) : Prop := ∀ k, 0 < k → k < n → ltB (paceAt ps k) (paceAt ps ((k - 1) / 2)) = false
def UpTo (ps : List PaceV) (n j : Nat) : Prop :=
  (∀ k, 0 < k → k < n → k ≠ j → ltB (paceAt ps k) (paceAt ps ((k - 1) / 2)) = false) ∧
  (∀ k, 0 < k → k < n → (k - 1) / 2 = j → 0 < j → ltB (paceAt ps k) (paceAt ps ((j - 1) / 2)) = false)
def DnTo (ps : List PaceV) (n i0 i : Nat) : Prop :=
  (∀ k, 0 < k → k < n → (k - 1) / 2 ≠ i → (k ≠ i0 ∨ i ≠ i0) → ltB (paceAt ps k) (paceAt ps ((k - 1) / 2)) = false) ∧
  (∀ k, 0 < k → k < n → (k - 1) / 2 = i → 0 < i → ltB (paceAt ps k) (paceAt ps ((i - 1) / 2)) = false)
theorem UpTo.done {ps : List PaceV} {n j : Nat} (h : UpTo ps n j) (hd : j = 0 ∨ ltB (paceAt ps j) (paceAt ps ((j - 1) / 2)) = false) : HeapTo ps n := fun k h0 hn => by
  by_cases e : k = j
  · subst e
    rcases hd with hd | hd
    · omega
    · exact hd
  · exact h.1 k h0 hn e
theorem UpTo.step {ps : List PaceV} {n j : Nat} (h : UpTo ps n j) (hj0 : 0 < j) (hj : j < n) (hn : n ≤ ps.length) (hl : ltB (paceAt ps j) (paceAt ps ((j - 1) / 2)) = true) : UpTo (swp ps ((j - 1) / 2) j) n ((j - 1) / 2) := by
  have hi : (j - 1) / 2 < j := by omega
  have at' := fun k => swp_at (ps := ps) (i := (j - 1) / 2) (j := j) (by omega) (by omega) k
  generalize hi' : (j - 1) / 2 = i at *
  have hp : ltB (paceAt ps i) (paceAt ps j) = false := ltB_not hl
  refine ⟨fun k k0 kn kne => ?_, fun k k0 kn kp i0 => ?_⟩
  · rw [at' k, at' ((k - 1) / 2)]
    by_cases e1 : k = j
    · subst e1
      rw [if_pos rfl, hi', if_neg (by omega), if_pos rfl]
      exact hp
    · rw [if_neg e1, if_neg kne]
      by_cases e2 : (k - 1) / 2 = j
      · rw [if_pos e2]
        have := h.2 k k0 kn e2 hj0
        rwa [hi'] at this
      · rw [if_neg e2]
        by_cases e3 : (k - 1) / 2 = i
        · rw [if_pos e3]
          have := h.1 k k0 kn e1
          rw [e3] at this
          exact ltB_le hp this
        · rw [if_neg e3]
          exact h.1 k k0 kn e1
  · rw [at' k, at' ((i - 1) / 2), if_neg (by omega : (i - 1) / 2 ≠ j), if_neg (by omega : (i - 1) / 2 ≠ i)]
    by_cases e1 : k = j
    · rw [if_pos e1]
      exact h.1 i i0 (by omega) (by omega)
    · rw [if_neg e1, if_neg (by omega)]
      have h1 := h.1 k k0 kn e1
      rw [kp] at h1
      exact ltB_le (h.1 i i0 (by omega) (by omega)) h1
theorem DnTo.still {ps : List PaceV} {n i : Nat} (h : DnTo ps n i i) (hd : ∀ k, 0 < k → k < n → (k - 1) / 2 = i → ltB (paceAt ps k) (paceAt ps i) = false) : UpTo ps n i :=
  ⟨fun k k0 kn kne => by
    by_cases e : (k - 1) / 2 = i
    · rw [e]; exact hd k k0 kn e
    · exact h.1 k k0 kn e (.inl kne), h.2⟩
theorem DnTo.moved {ps : List PaceV} {n i0 i : Nat} (h : DnTo ps n i0 i) (hm : i ≠ i0) (hd : ∀ k, 0 < k → k < n → (k - 1) / 2 = i → ltB (paceAt ps k) (paceAt ps i) = false) : HeapTo ps n := fun k k0 kn => by
  by_cases e : (k - 1) / 2 = i
  · rw [e]; exact hd k k0 kn e
  · exact h.1 k k0 kn e (.inr hm)
theorem DnTo.step {ps : List PaceV} {n i0 i j : Nat} (h : DnTo ps n i0 i) (hi0 : i0 ≤ i) (hj0 : 0 < j) (hji : (j - 1) / 2 = i) (hj : j < n) (hn : n ≤ ps.length) (hl : ltB (paceAt ps j) (paceAt ps i) = true)
    (hm : ∀ k, 0 < k → k < n → (k - 1) / 2 = i → ltB (paceAt ps k) (paceAt ps j) = false) : DnTo (swp ps i j) n i0 j := by
  have at' := fun k => swp_at (ps := ps) (i := i) (j := j) (by omega) (by omega) k
  have hp : ltB (paceAt ps i) (paceAt ps j) = false := ltB_not hl
  refine ⟨fun k k0 kn kne _ => ?_, fun k k0 kn kp _ => ?_⟩
  · rw [at' k, at' ((k - 1) / 2), if_neg kne]
    by_cases e1 : k = j
    · subst e1
      rw [if_pos rfl, if_pos hji]
      exact hp
    · rw [if_neg e1]
      by_cases e2 : k = i
      · subst e2
        rw [if_pos rfl, if_neg (by omega)]
        exact h.2 j hj0 hj hji k0
      · rw [if_neg e2]
        by_cases e3 : (k - 1) / 2 = i
        · rw [if_pos e3]
          exact hm k k0 kn e3
        · rw [if_neg e3]
          exact h.1 k k0 kn e3 (by omega)
  · rw [at' k, at' ((j - 1) / 2), hji, if_neg (by omega : k ≠ j), if_neg (by omega : k ≠ i), if_neg (by omega : i ≠ j), if_pos rfl]
    have := h.1 k k0 kn (by omega) (by omega)
    rwa [kp] at this
theorem HeapTo.least {ps : List PaceV} {n : Nat} (h : HeapTo ps n) : ∀ k, k < n → ltB (paceAt ps k) (paceAt ps 0) = false := by
  intro k
  induction k using Nat.strongRecOn with
  | ind k ih =>
    intro hk
    by_cases e : k = 0
    · subst e; exact ltB_self _
    · exact ltB_le (ih ((k - 1) / 2) (by omega) (by omega)) (h k (by omega) hk)
theorem paceAt_append {ps qs : List PaceV} {k : Nat} (h : k < ps.length) : paceAt (ps ++ qs) k = paceAt ps k := by unfold paceAt; simp [List.getD, List.getElem?_append_left h]
theorem paceAt_take {ps : List PaceV} {n k : Nat} (h : k < n) : paceAt (ps.take n) k = paceAt ps k := by unfold paceAt; simp [List.getD, h]
theorem HeapTo.push {ps : List PaceV} (e : PaceV) (h : HeapTo ps ps.length) : UpTo (ps ++ [e]) (ps.length + 1) ps.length :=
  ⟨fun k k0 kn kne => by rw [paceAt_append (by omega), paceAt_append (by omega)]; exact h k k0 (by omega), fun k k0 kn kp h0 => by omega⟩
theorem HeapTo.swap {ps : List PaceV} {n i : Nat} (h : HeapTo ps (n + 1)) (hl : ps.length = n + 1) (hi : i < n) : DnTo (swp ps i n) n i i := by
  have at' := fun k => swp_at (ps := ps) (i := i) (j := n) (by omega) (by omega) k
  refine ⟨fun k k0 kn kne kd => ?_, fun k k0 kn kp i0 => ?_⟩
  · rw [at' k, at' ((k - 1) / 2), if_neg (by omega), if_neg (by omega), if_neg (by omega), if_neg kne]
    exact h k k0 (by omega)
  · rw [at' k, at' ((i - 1) / 2), if_neg (by omega), if_neg (by omega), if_neg (by omega), if_neg (by omega)]
    have h1 := h k k0 (by omega)
    rw [kp] at h1
    exact ltB_le (h i i0 (by omega)) h1
abbrev Ris (ps : List PaceV) : Prop := ps.Pairwise fun a b => ltB b a = false
theorem ris_eq {ps qs : List PaceV} (h : Ris ps) (k : Ris qs) (hp : ps.Perm qs) : ps = qs :=
  hp.eq_of_pairwise (le := fun a b => ltB b a = false) (fun _ _ _ _ h1 h2 => ltB_eq h1 h2) h k
theorem ris_heap {ps : List PaceV} (h : Ris ps) : HeapTo ps ps.length := fun k k0 kn => by
  have hk : (k - 1) / 2 < k := by omega
  have := List.pairwise_iff_getElem.1 h ((k - 1) / 2) k (by omega) kn hk
  unfold paceAt
  simpa [List.getD, kn, (by omega : (k - 1) / 2 < ps.length)] using this
theorem ris_snoc {ps : List PaceV} {x : PaceV} (h : Ris ps) (hx : ∀ y ∈ ps, ltB x y = false) : Ris (ps ++ [x]) := by
  unfold Ris; rw [List.pairwise_append]
  exact ⟨h, by simp, fun a ha b hb => by obtain rfl : b = x := by simpa using hb
                                         exact hx a ha⟩
theorem take_snoc_last {ps : List PaceV} {n : Nat} (h : ps.length = n + 1) : ps.take n ++ [paceAt ps n] = ps := by
  have e : paceAt ps n = ps[n] := by unfold paceAt; simp [List.getD, h]
  rw [e, ← List.take_succ_eq_append_getElem (by omega), List.take_of_length_le (by omega)]
theorem paceAt_mem {ps : List PaceV} {k : Nat} (h : k < ps.length) : paceAt ps k ∈ ps := by unfold paceAt; simp [List.getD, h]
theorem mem_paceAt {ps : List PaceV} {x : PaceV} (h : x ∈ ps) : ∃ k, k < ps.length ∧ paceAt ps k = x := by
  obtain ⟨k, hk, rfl⟩ := List.getElem_of_mem h
  exact ⟨k, hk, by unfold paceAt; simp [List.getD, hk]⟩
def entB (p : PaceV) : Bool := inB p.1 (-1000000000000) 1000000000000 && inB p.2 0 99
def findV (ps : List PaceV) (who : Int) : Int := match ps.findIdx? (fun p => p.2 == who) with
  | some k => k
  | none => -1
def stepQ (ps : List PaceV) (k : Nat) : Bool := entB (paceAt ps k) && ((k == 0 || ltB (paceAt ps (k - 1)) (paceAt ps k)) && decide (findV (ps.take k) (paceAt ps k).2 < 0))
def queueB (ps : List PaceV) : Bool := decide (ps.length ≤ 100) && (List.range ps.length).all (stepQ ps)
def lessN (e : PaceV) : List PaceV → Nat
  | [] => 0
  | p :: ps => if ltB p e then lessN e ps + 1 else 0
def putV (ps : List PaceV) (e : PaceV) : List PaceV := ps.take (lessN e ps) ++ e :: ps.drop (lessN e ps)
def queuedV (ps : List PaceV) (e : PaceV) : List PaceV × Bool := if queueB ps then if queueB (putV ps e) then (putV ps e, true) else (ps, false) else ([], false)
def firstV (ps : List PaceV) : PaceV × Bool := if queueB ps && decide (0 < ps.length) then (paceAt ps 0, true) else ((0, 0), false)
theorem findV_none {ps : List PaceV} {who : Int} (h : ∀ j, j < ps.length → (paceAt ps j).2 ≠ who) : findV ps who = -1 := by
  unfold findV
  rw [List.findIdx?_eq_none_iff.2]
  intro p hp
  obtain ⟨k, hk, rfl⟩ := mem_paceAt hp
  simpa using h k hk
theorem findV_some {ps : List PaceV} {who : Int} {k : Nat} (hk : k < ps.length) (h : (paceAt ps k).2 = who) (hn : ∀ j, j < k → (paceAt ps j).2 ≠ who) : findV ps who = k := by
  have e : ∀ j (hj : j < ps.length), paceAt ps j = ps[j] := fun j hj => by unfold paceAt; simp [List.getD, hj]
  unfold findV
  rw [List.findIdx?_eq_some_iff_getElem.2 ⟨hk, by rw [← e k hk]; simpa using h, fun j hj => by rw [← e j (by omega)]; simpa using hn j hj⟩]
theorem findV_cases (ps : List PaceV) (who : Int) : (findV ps who = -1 ∧ ∀ j, j < ps.length → (paceAt ps j).2 ≠ who) ∨ ∃ k : Nat, findV ps who = k ∧ k < ps.length ∧ (paceAt ps k).2 = who ∧ ∀ j, j < k → (paceAt ps j).2 ≠ who := by
  have e : ∀ j (hj : j < ps.length), paceAt ps j = ps[j] := fun j hj => by unfold paceAt; simp [List.getD, hj]
  cases hf : ps.findIdx? (fun p => p.2 == who) with
  | none =>
    left
    refine ⟨by unfold findV; rw [hf], fun j hj => ?_⟩
    have := List.findIdx?_eq_none_iff.1 hf _ (paceAt_mem hj)
    simpa using this
  | some k =>
    right
    obtain ⟨hk, h1, h2⟩ := List.findIdx?_eq_some_iff_getElem.1 hf
    refine ⟨k, by unfold findV; rw [hf], hk, by rw [e k hk]; simpa using h1, fun j hj => ?_⟩
    have := h2 j hj
    rw [e j (by omega)]; simpa using this
theorem findV_bd (ps : List PaceV) (who : Int) : -1 ≤ findV ps who ∧ findV ps who < ps.length := by
  rcases findV_cases ps who with ⟨h, _⟩ | ⟨k, h, hk, _⟩ <;> omega
theorem queueB_t {ps : List PaceV} (hl : ps.length ≤ 100) (h : ∀ j, j < ps.length → stepQ ps j = true) : queueB ps = true := by
  unfold queueB; simp only [Bool.and_eq_true, decide_eq_true_eq, List.all_eq_true]; exact ⟨hl, fun j hj => h j (List.mem_range.1 hj)⟩
theorem queueB_f {ps : List PaceV} {j : Nat} (hj : j < ps.length) (h : stepQ ps j = false) : queueB ps = false := by
  unfold queueB; rw [Bool.and_eq_false_iff]; right; rw [List.all_eq_false]; exact ⟨j, List.mem_range.2 hj, by simp [h]⟩
theorem queueB_big {ps : List PaceV} (hl : 100 < ps.length) : queueB ps = false := by
  unfold queueB; rw [Bool.and_eq_false_iff]; left; exact decide_eq_false (by omega)
theorem queueB_of {ps : List PaceV} (h : queueB ps = true) : ps.length ≤ 100 ∧ ∀ j, j < ps.length → stepQ ps j = true := by
  unfold queueB at h; simp only [Bool.and_eq_true, decide_eq_true_eq, List.all_eq_true] at h; exact ⟨h.1, fun j hj => h.2 j (List.mem_range.2 hj)⟩
theorem stepQ_of {ps : List PaceV} {k : Nat} (h : stepQ ps k = true) : entB (paceAt ps k) = true ∧ (0 < k → ltB (paceAt ps (k - 1)) (paceAt ps k) = true) ∧ findV (ps.take k) (paceAt ps k).2 < 0 := by
  unfold stepQ at h; simp only [Bool.and_eq_true, Bool.or_eq_true, decide_eq_true_eq, beq_iff_eq] at h
  exact ⟨h.1, fun h0 => by rcases h.2.1 with e | e; · omega
                           · exact e, h.2.2⟩
structure IsQ (ps : List PaceV) : Prop where
  len : ps.length ≤ 100
  ent : ∀ p ∈ ps, entB p = true
  ord : ps.Pairwise fun a b => ltB a b = true
  who : ps.Pairwise fun a b => a.2 ≠ b.2
theorem ord_of {ps : List PaceV} (h : ∀ k, 0 < k → k < ps.length → ltB (paceAt ps (k - 1)) (paceAt ps k) = true) : ∀ i j, i < j → j < ps.length → ltB (paceAt ps i) (paceAt ps j) = true := by
  intro i j
  induction j with
  | zero => intro h; omega
  | succ j ih =>
    intro hij hj
    have h1 := h (j + 1) (by omega) hj
    by_cases e : i = j
    · subst e; simpa using h1
    · exact ltB_lt (ih (by omega) (by omega)) (by simpa using h1)
theorem isQ_of {ps : List PaceV} (h : queueB ps = true) : IsQ ps := by
  obtain ⟨hl, hs⟩ := queueB_of h
  have e : ∀ j (hj : j < ps.length), paceAt ps j = ps[j] := fun j hj => by unfold paceAt; simp [List.getD, hj]
  refine ⟨hl, fun p hp => ?_, ?_, ?_⟩
  · obtain ⟨k, hk, rfl⟩ := mem_paceAt hp
    exact (stepQ_of (hs k hk)).1
  · rw [List.pairwise_iff_getElem]
    intro i j hi hj hij
    rw [← e i hi, ← e j hj]
    exact ord_of (fun k k0 kn => (stepQ_of (hs k kn)).2.1 k0) i j hij hj
  · rw [List.pairwise_iff_getElem]
    intro i j hi hj hij
    rw [← e i hi, ← e j hj]
    have h3 := (stepQ_of (hs j hj)).2.2
    rcases findV_cases (ps.take j) (paceAt ps j).2 with ⟨_, h4⟩ | ⟨k, h4, _⟩
    · have := h4 i (by simp; omega)
      rwa [paceAt_take hij] at this
    · omega
theorem queueB_isQ {ps : List PaceV} (h : IsQ ps) : queueB ps = true := by
  have e : ∀ j (hj : j < ps.length), paceAt ps j = ps[j] := fun j hj => by unfold paceAt; simp [List.getD, hj]
  refine queueB_t h.len fun j hj => ?_
  unfold stepQ
  simp only [Bool.and_eq_true, Bool.or_eq_true, decide_eq_true_eq, beq_iff_eq]
  refine ⟨h.ent _ (paceAt_mem hj), ?_, ?_⟩
  · by_cases h0 : j = 0
    · exact .inl h0
    · right
      rw [e j hj, e (j - 1) (by omega)]
      exact List.pairwise_iff_getElem.1 h.ord (j - 1) j (by omega) hj (by omega)
  · rw [findV_none (fun i hi => ?_)]
    · omega
    · have hi' : i < j := by simp at hi; omega
      rw [paceAt_take hi', e i (by omega), e j hj]
      exact List.pairwise_iff_getElem.1 h.who i j (by omega) hj hi'
theorem IsQ.ris {ps : List PaceV} (h : IsQ ps) : Ris ps := h.ord.imp fun hab => ltB_not hab
theorem lessN_le (e : PaceV) : ∀ ps : List PaceV, lessN e ps ≤ ps.length
  | [] => Nat.le_refl _
  | p :: ps => by have := lessN_le e ps; unfold lessN; split <;> simp <;> omega
theorem lessN_lt (e : PaceV) : ∀ (ps : List PaceV) (k : Nat), k < lessN e ps → ltB (paceAt ps k) e = true
  | [], k, h => by simp [lessN] at h
  | p :: ps, k, h => by
    unfold lessN at h
    split at h
    · cases k with
      | zero => simpa [paceAt] using ‹ltB p e = true›
      | succ k =>
        have := lessN_lt e ps k (by omega)
        simpa [paceAt] using this
    · omega
theorem lessN_at (e : PaceV) : ∀ (ps : List PaceV), lessN e ps < ps.length → ltB (paceAt ps (lessN e ps)) e = false
  | [], h => by simp at h
  | p :: ps, h => by
    unfold lessN at h ⊢
    by_cases hp : ltB p e = true
    · rw [if_pos hp] at h ⊢
      have := lessN_at e ps (by simpa using h)
      simpa [paceAt] using this
    · rw [if_neg hp] at h ⊢
      simpa [paceAt] using hp
theorem lessN_eq {e : PaceV} {ps : List PaceV} {k : Nat} (hk : k ≤ ps.length) (h : ∀ j, j < k → ltB (paceAt ps j) e = true) (hn : k = ps.length ∨ ltB (paceAt ps k) e = false) : lessN e ps = k := by
  rcases Nat.lt_trichotomy (lessN e ps) k with h1 | h1 | h1
  · have h2 := lessN_at e ps (by omega)
    rw [h _ h1] at h2; cases h2
  · exact h1
  · rcases hn with hn | hn
    · have := lessN_le e ps; omega
    · have := lessN_lt e ps k h1
      rw [hn] at this; cases this
theorem putV_perm (ps : List PaceV) (e : PaceV) : (putV ps e).Perm (ps ++ [e]) := by
  unfold putV
  have h1 : (ps.take (lessN e ps) ++ e :: ps.drop (lessN e ps)).Perm (e :: (ps.take (lessN e ps) ++ ps.drop (lessN e ps))) := List.perm_middle
  rw [List.take_append_drop] at h1
  exact h1.trans (List.perm_append_comm (l₁ := [e]) (l₂ := ps))
theorem putV_len (ps : List PaceV) (e : PaceV) : (putV ps e).length = ps.length + 1 := by have := (putV_perm ps e).length_eq; simpa using this
theorem putV_ris {ps : List PaceV} (h : Ris ps) (e : PaceV) : Ris (putV ps e) := by
  have hle := lessN_le e ps
  have hdr : ∀ y ∈ ps.drop (lessN e ps), ltB y e = false := fun y hy => by
    obtain ⟨k, hk, rfl⟩ := List.getElem_of_mem hy
    have hk' : lessN e ps + k < ps.length := by simp at hk; omega
    rw [List.getElem_drop]
    have h0 := lessN_at e ps (by omega)
    have e0 : paceAt ps (lessN e ps) = ps[lessN e ps]'(by omega) := by unfold paceAt; simp [List.getD, (by omega : lessN e ps < ps.length)]
    rw [e0] at h0
    by_cases hz : k = 0
    · subst hz; simpa using h0
    · have h1 := List.pairwise_iff_getElem.1 h (lessN e ps) (lessN e ps + k) (by omega) hk' (by omega)
      exact ltB_le h0 h1
  have hta : ∀ y ∈ ps.take (lessN e ps), ltB y e = true := fun y hy => by
    obtain ⟨k, hk, rfl⟩ := List.getElem_of_mem hy
    have hk' : k < lessN e ps := by simp at hk; omega
    have := lessN_lt e ps k hk'
    rw [List.getElem_take]
    unfold paceAt at this
    simpa [List.getD, (by omega : k < ps.length)] using this
  unfold putV Ris
  rw [List.pairwise_append, List.pairwise_cons]
  refine ⟨h.sublist (List.take_sublist _ _), ⟨fun y hy => hdr y hy, h.sublist (List.drop_sublist _ _)⟩, fun a ha b hb => ?_⟩
  rcases List.mem_cons.1 hb with rfl | hb
  · exact ltB_not (hta a ha)
  · exact ltB_le (ltB_not (hta a ha)) (hdr b hb)
theorem sorted_put {ps qs : List PaceV} {e : PaceV} (h : IsQ ps) (hq : Ris qs) (hp : qs.Perm (ps ++ [e])) : qs = putV ps e :=
  ris_eq hq (putV_ris h.ris e) (hp.trans (putV_perm ps e).symm)
def atV (ss : List SmithV) (b : Int) : Nat → List PaceV
 | 0 => []
 | k + 1 => if (recAt ss k).2.1 = b ∧ presS (recAt ss k) = true then putV (atV ss b k) ((recAt ss k).2.2.2.2.2.2.2.1, (k : Int)) else atV ss b k
theorem atV_len (ss : List SmithV) (b : Int) : ∀ k, (atV ss b k).length ≤ k
 | 0 => Nat.le_refl _
 | k + 1 => by
  have := atV_len ss b k
  unfold atV
  split
  ·rw [putV_len]; omega
  ·omega
theorem atV_no {ss : List SmithV} {b : Int} {k : Nat} (h : ¬ ((recAt ss k).2.1 = b ∧ presS (recAt ss k) = true)) : atV ss b (k + 1) = atV ss b k := by rw [atV, if_neg h]
theorem atV_yes {ss : List SmithV} {b : Int} {k : Nat} (h1 : (recAt ss k).2.1 = b) (h2 : presS (recAt ss k) = true) : atV ss b (k + 1) = putV (atV ss b k) ((recAt ss k).2.2.2.2.2.2.2.1, (k : Int)) := by rw [atV, if_pos ⟨h1, h2⟩]
def hadS (s : SmithV) : Int := s.2.2.2.2.2.2.2.1
theorem putV_mem {ps : List PaceV} {x e : PaceV} : e ∈ putV ps x ↔ e ∈ ps ∨ e = x := by
 rw [(putV_perm ps x).mem_iff]; simp
theorem atV_mem (ss : List SmithV) (b : Int) (e : PaceV) : ∀ k, e ∈ atV ss b k ↔ ∃ i : Nat, i < k ∧ (recAt ss i).2.1 = b ∧ presS (recAt ss i) = true ∧ e = (hadS (recAt ss i), (i : Int))
 | 0 => by simp [atV]
 | k + 1 => by
  have ih := atV_mem ss b e k
  by_cases h : (recAt ss k).2.1 = b ∧ presS (recAt ss k) = true
  ·rw [atV_yes h.1 h.2, putV_mem, ih]
   constructor
   ·rintro (⟨i, hi, h1, h2, h3⟩ | h3)
    ·exact ⟨i, by omega, h1, h2, h3⟩
    ·exact ⟨k, by omega, h.1, h.2, h3⟩
   ·rintro ⟨i, hi, h1, h2, h3⟩
    by_cases hik : i = k
    ·subst hik; exact .inr h3
    ·exact .inl ⟨i, by omega, h1, h2, h3⟩
  ·rw [atV_no h, ih]
   constructor
   ·rintro ⟨i, hi, h1, h2, h3⟩
    exact ⟨i, by omega, h1, h2, h3⟩
   ·rintro ⟨i, hi, h1, h2, h3⟩
    by_cases hik : i = k
    ·subst hik; exact absurd ⟨h1, h2⟩ h
    ·exact ⟨i, by omega, h1, h2, h3⟩
theorem atV_ris (ss : List SmithV) (b : Int) : ∀ k, Ris (atV ss b k)
 | 0 => List.Pairwise.nil
 | k + 1 => by
  by_cases h : (recAt ss k).2.1 = b ∧ presS (recAt ss k) = true
  ·rw [atV_yes h.1 h.2]; exact putV_ris (atV_ris ss b k) _
  ·rw [atV_no h]; exact atV_ris ss b k
theorem atV_whos (ss : List SmithV) (b : Int) : ∀ k, (atV ss b k).Pairwise fun x y => x.2 ≠ y.2
 | 0 => List.Pairwise.nil
 | k + 1 => by
  by_cases h : (recAt ss k).2.1 = b ∧ presS (recAt ss k) = true
  ·rw [atV_yes h.1 h.2]
   refine (putV_perm (atV ss b k) _).symm.pairwise ?_ (fun h => Ne.symm h)
   rw [List.pairwise_append]
   refine ⟨atV_whos ss b k, by simp, fun x hx y hy => ?_⟩
   obtain rfl : y = _ := by simpa using hy
   obtain ⟨i, hi, _, _, rfl⟩ := (atV_mem ss b x k).1 hx
   show (i : Int) ≠ (k : Int)
   omega
  ·rw [atV_no h]; exact atV_whos ss b k
def Alike (ss ss' : List SmithV) (k : Nat) : Prop := ∀ i, i < k → (recAt ss' i).2.1 = (recAt ss i).2.1 ∧ presS (recAt ss' i) = presS (recAt ss i) ∧ hadS (recAt ss' i) = hadS (recAt ss i)
theorem atV_alike {ss ss' : List SmithV} (b : Int) : ∀ k, Alike ss ss' k → atV ss' b k = atV ss b k
 | 0, _ => rfl
 | k + 1, h => by
  have ih := atV_alike b k (fun i hi => h i (by omega))
  obtain ⟨h1, h2, h3⟩ := h k (by omega)
  unfold atV
  rw [h1, h2, ih, show (recAt ss' k).2.2.2.2.2.2.2.1 = (recAt ss k).2.2.2.2.2.2.2.1 from h3]
def firstAt (ss : List SmithV) (b : Int) : Int := match atV ss b ss.length with
 | [] => -1
 | h :: _ => h.2
theorem firstAt_some {ss : List SmithV} {b : Int} {e : PaceV} {t : List PaceV} (h : atV ss b ss.length = e :: t) : firstAt ss b = e.2 ∧ ∃ i : Nat, i < ss.length ∧ (recAt ss i).2.1 = b ∧ presS (recAt ss i) = true ∧ e = (hadS (recAt ss i), (i : Int)) := by
 refine ⟨by unfold firstAt; rw [h], ?_⟩
 exact (atV_mem ss b e ss.length).1 (by rw [h]; simp)
theorem first_least {ss : List SmithV} {b : Int} {e : PaceV} {t : List PaceV} (h : atV ss b ss.length = e :: t) {i : Nat} (hi : i < ss.length) (h1 : (recAt ss i).2.1 = b) (h2 : presS (recAt ss i) = true) : e.1 ≤ hadS (recAt ss i) := by
 have hm : (hadS (recAt ss i), (i : Int)) ∈ atV ss b ss.length := (atV_mem ss b _ ss.length).2 ⟨i, hi, h1, h2, rfl⟩
 have hr := atV_ris ss b ss.length
 rw [h] at hm hr
 rcases List.mem_cons.1 hm with he | ht
 ·rw [← he]; exact Int.le_refl _
 ·have := (List.pairwise_cons.1 hr).1 _ ht
  rw [ltB_f] at this
  simp only at this
  omega
def hadB (x : Int) : Bool := inB x (-1000000000000) 1000000000000
def inBandB (h m : Int) : Bool := (hadB h && hadB m) && inB (h - m) (-20000) 63000
def markedV (m f : Int) : Int := if hadB m && hadB f then min (max m f) 900000000000 else m
theorem had_of {x : Int} (h : hadB x = true) : -1000000000000 ≤ x ∧ x ≤ 1000000000000 := inB_of h
theorem hads2 (x y : Int) : ([x, y].all fun z => inB z (-1000000000000) 1000000000000) = (hadB x && hadB y) := by simp [hadB]
theorem band_at (h m : Int) : ([h].all fun z => inB z (m - 20000) (m + 63000)) = inB (h - m) (-20000) 63000 := by
 simp only [List.all_cons, List.all_nil, Bool.and_true]
 unfold inB
 congr 1
 exact propext ⟨fun h => by omega, fun h => by omega⟩
theorem hadB_t {x : Int} (h0 : -1000000000000 ≤ x) (h1 : x ≤ 1000000000000) : hadB x = true := inB_t h0 h1
theorem marked_in {m f : Int} (m0 : -1000000000000 ≤ m) (m1 : m ≤ 1000000000000) (f0 : -1000000000000 ≤ f) (f1 : f ≤ 1000000000000) : markedV m f = min (max m f) 900000000000 := by
 unfold markedV; rw [hadB_t m0 m1, hadB_t f0 f1]; rfl
end Go.Proofs.YtffcgajndmhpkaaGreatDoor
