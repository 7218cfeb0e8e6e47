/- What the proof rests on, part 9: lists and numbers, how they lie in memory, and contracts of the calls. No condition but those that a theorem names. -/
import Derived.Test.YtmhagllddhjgmabGreatXu01
import Derived.Test.YtmhagllddhjgmabGreatXu05
import Derived.Test.YtmhagllddhjgmabGreatXu06
import Derived.Test.YtmhagllddhjgmabGreatXu08
import Derived.Lib.QuietBelow
import Derived.Deep.RegionWith
import Derived.Deep.QuietTactic
import Derived.BigQuiet
import Derived.WalkKit
import Derived.ProofKit
import Derived.OpenShut
import Derived.Outline
import Derived.Laws.OwnMore
import Derived.OwnWalk
import Derived.Maps.AppendAt
import Derived.Lib.SmallJoins
/- Contracts of chapter 8's functions and of their models: each returns what the plain lists say and writes into no memory that was there. Condition: the slices can be read, and what a theorem names. -/
namespace Go.Proofs.YtmhagllddhjgmabGreat
open Go.ChangeShapes Go.WideShapes Go.ChangeAt Go.RowKit Go.Sort
set_option linter.unusedVariables false

theorem pairB_t {lo hi : Int} (h0 : 0 ≤ lo) (h1 : lo ≤ hi) (h2 : hi ≤ 1024) : pairB lo hi = true := by unfold pairB; rw [inB_t h0 (by omega), inB_t (by omega) h2]; simp; omega
theorem pairB_f {lo hi : Int} (h : lo < 0 ∨ hi < lo ∨ 1024 < hi) : pairB lo hi = false := by
  cases e : pairB lo hi
  · rfl
  · have := pairB_of e; omega

theorem areBounds_any (lo hi : Int) (w : World) : Calls Tryz.prog 114 #[.int .i64 lo, .int .i64 hi] w fun e w' => e = .returned (.bool (pairB lo hi)) ∧ w' = w := by
  by_cases h1 : 0 ≤ lo
  · by_cases h2 : lo ≤ hi
    · by_cases h3 : hi ≤ 1024
      all_goals
        go_enter Tryz.func114, Tryz.ntmps114
        go_wp2
        go_ret
        exact ⟨ret_bool (by first | exact (pairB_t h1 h2 h3).symm | exact (pairB_f (by omega)).symm), rfl⟩
    · go_enter Tryz.func114, Tryz.ntmps114
      go_wp2
      go_ret
      exact ⟨ret_bool (pairB_f (by omega)).symm, rfl⟩
  · go_enter Tryz.func114, Tryz.ntmps114
    go_wp2
    go_ret
    exact ⟨ret_bool (pairB_f (by omega)).symm, rfl⟩

theorem guildOk_any (a lo hi n : Int) (w : World) : Calls Tryz.prog 78 #[.agg #[.int .i64 a, .int .i64 lo, .int .i64 hi], .int .i64 n] w fun e w' => e = .returned (.bool (guildB (a, lo, hi) n)) ∧ Below w.heap.size w w' := by
  by_cases h1 : -1 ≤ a
  · by_cases h2 : a < n
    · have hg : guildB (a, lo, hi) n = pairB lo hi := by unfold guildB; rw [inB_t h1 (by omega)]; rfl
      rw [hg]; clear hg
      go_enter Tryz.func78, Tryz.ntmps78
      go_wp2_with (go_at_call 114; refine (areBounds_any _ _ _).mono ?_; rintro e w' ⟨rfl, rfl⟩)
      go_ret
      exact ⟨rfl, (Below.refl _ _).alloc (Nat.le_refl _) _⟩
    · have hg : guildB (a, lo, hi) n = false := by unfold guildB; rw [inB_f (.inr (by omega))]; rfl
      rw [hg]; clear hg
      go_enter Tryz.func78, Tryz.ntmps78
      go_wp2_with fail
      go_ret
      exact ⟨rfl, (Below.refl _ _).alloc (Nat.le_refl _) _⟩
  · have hg : guildB (a, lo, hi) n = false := by unfold guildB; rw [inB_f (.inl (by omega))]; rfl
    rw [hg]; clear hg
    go_enter Tryz.func78, Tryz.ntmps78
    go_wp2_with fail
    go_ret
    exact ⟨rfl, (Below.refl _ _).alloc (Nat.le_refl _) _⟩

set_option maxHeartbeats 2000000 in
theorem implGuildsOk_any {w : World} {v : Value} {ps : List GuildV} (h : IsGuilds w v ps) :
    Calls Tryz.prog 77 #[v] w fun e w' => e = .returned (.bool (guildsB ps)) ∧ Below w.heap.size w w' := by
  obtain ⟨a, cap, rfl, hc, hm, hr⟩ := h
  have Hr := hide hr
  clear hr
  by_cases hbig : 6 < ps.length
  · go_enter Tryz.func77, Tryz.ntmps77
    go_wp2_with fail
    go_ret
    exact ⟨ret_bool (guildsB_long hbig).symm, Below.refl _ _⟩
  go_enter Tryz.func77, Tryz.ntmps77
  go_wp2_with fail
  go_loopw [10] (fun i wr => ∃ k : Nat, k ≤ ps.length ∧ i = .int .i64 k ∧ upToB ps k = true ∧ Below w.heap.size w wr) (fun i _ => ps.length - (intOf i).toNat)
  case atStart => exact ⟨0, Nat.zero_le _, rfl, rfl, Below.refl _ _⟩
  case round =>
    obtain ⟨k, hk, rfl, hst, hb⟩ := hrel
    have Hst := hide hst
    have Hb := hide hb
    clear hst
    by_cases hlt : k < ps.length
    · rcases unhide Hr with h0 | ⟨b, off, rfl, hbw, hcl⟩
      · rw [h0] at hlt; simp at hlt
      have hbr : b < wr.heap.size := Nat.lt_of_lt_of_le hbw hb.size
      obtain ⟨c0, c1, c2⟩ := guild_cells hcl hlt
      rw [← hb.cell (p := ⟨b, off + k * 3, none⟩) hbw] at c0
      rw [← hb.cell (p := ⟨b, off + k * 3 + 1, none⟩) hbw] at c1
      rw [← hb.cell (p := ⟨b, off + k * 3 + 2, none⟩) hbw] at c2
      generalize hp : recAt ps k = p at c0 c1 c2
      have Hp := hide hp
      clear hp
      obtain ⟨x0, x1, x2⟩ := p
      simp only at c0 c1 c2
      have hsz := hb.size
      clear hcl hb
      go_wp2_with fail
      refine (guildOk_any _ _ _ _ _).mono ?_
      rintro e w1 ⟨rfl, hb1⟩
      have Hb1 := hide ((unhide Hb).trans (((Below.refl _ _).alloc hsz _).trans (hb1.mono (by simp; omega))))
      clear hb1
      cases hg : guildB (x0, x1, x2) k
      · go_wp2_with fail
        go_ret
        exact ⟨ret_bool (guildsB_f hlt (by rw [unhide Hp]; exact hg)).symm, unhide Hb1⟩
      · go_wp2_with fail
        go_roundw
        case rel => exact ⟨k + 1, by omega, by go_num, by rw [upToB_succ, unhide Hst, unhide Hp, hg]; rfl, unhide Hb1⟩
        case measure => simp [intOf]; omega
    · obtain rfl : k = ps.length := by omega
      go_wp2_with fail
      go_ret
      exact ⟨ret_bool (by unfold guildsB; rw [unhide Hst]; simp; omega), hb⟩

theorem narrowed_any (a lo hi l h : Int) (w : World) : Calls Tryz.prog 80 #[.agg #[.int .i64 a, .int .i64 lo, .int .i64 hi], .int .i64 l, .int .i64 h] w
    fun e w' => e = .returned (.tuple #[.int .i64 (narV (lo, hi) l h).1, .int .i64 (narV (lo, hi) l h).2]) ∧ Below w.heap.size w w' := by
  unfold narV
  go_enter Tryz.func80, Tryz.ntmps80
  go_wp2_with (go_at_call 47; refine (implClamped_any _ _ _ _).mono ?_; rintro e w' ⟨rfl, rfl⟩)
  go_ret2
  exact ⟨rfl, (Below.refl _ _).alloc (Nat.le_refl _) _⟩

set_option maxHeartbeats 1000000 in
theorem settled_any (a lo hi a' l h : Int) (w : World) : Calls Tryz.prog 115 #[.agg #[.int .i64 a, .int .i64 lo, .int .i64 hi, .int .i64 a', .int .i64 l, .int .i64 h]] w
    fun e w' => e = .returned (.agg #[.int .i64 a', .int .i64 (narV (lo, hi) l h).1, .int .i64 (narV (lo, hi) l h).2]) ∧ Below w.heap.size w w' := by
  go_enter Tryz.func115, Tryz.ntmps115
  go_wp2_with fail
  refine (narrowed_any _ _ _ _ _ _).mono ?_
  rintro e w1 ⟨rfl, hb1⟩
  have hz : w.heap.size + 1 < w1.heap.size := by have := hb1.size; simp at this; omega
  have Hb1 := hide hb1
  obtain ⟨hc, hf⟩ := bcell hb1
  clear hb1
  go_wp2_with fail
  exact bodyPost_ret (v := .agg #[.int .i64 a', .int .i64 (narV (lo, hi) l h).1, .int .i64 (narV (lo, hi) l h).2]) (by simp [results, Tryz.results115, go_sem, hc]) rfl
    ⟨rfl, ((((((Below.refl _ _).alloc (Nat.le_refl _) _).alloc (by simp) _).trans ((unhide Hb1).mono (by simp; omega))).setCell (by simp) _).setCell (by simp) _).setCell (by simp) _⟩

set_option maxRecDepth 100000 in
set_option maxHeartbeats 4000000 in
theorem settledAt_any {ps : List GuildV} (hg : guildsB ps = true) : ∀ (n : Nat) (g : Int) {w : World} {v : Value}, IsGuilds w v ps → -1 ≤ g → g < n → g < ps.length →
    Calls Tryz.prog 79 #[v, .int .i64 g] w fun e w' => ∃ x, e = .returned (.agg #[.int .i64 x, .int .i64 (bnd ps g).1, .int .i64 (bnd ps g).2]) ∧ Below w.heap.size w w' := by
  intro n
  induction n with
  | zero =>
    intro g w v h h0 h1 h2
    obtain rfl : g = -1 := by omega
    rw [bnd_none ps (by omega)]
    obtain ⟨a, cap, rfl, _⟩ := h
    go_enter Tryz.func79, Tryz.ntmps79
    go_wp2_with fail
    exact bodyPost_ret (v := .agg #[.int .i64 (-1), .int .i64 0, .int .i64 1024]) (by simp [results, Tryz.results79, go_sem]) rfl ⟨-1, rfl, (Below.refl _ _).alloc (Nat.le_refl _) _⟩
  | succ n ih =>
    intro g w v h h0 h1 h2
    by_cases hg0 : g = -1
    · subst hg0
      rw [bnd_none ps (by omega)]
      obtain ⟨a, cap, rfl, _⟩ := h
      go_enter Tryz.func79, Tryz.ntmps79
      go_wp2_with fail
      exact bodyPost_ret (v := .agg #[.int .i64 (-1), .int .i64 0, .int .i64 1024]) (by simp [results, Tryz.results79, go_sem]) rfl ⟨-1, rfl, (Below.refl _ _).alloc (Nat.le_refl _) _⟩
    · obtain ⟨k, rfl⟩ : ∃ k : Nat, g = k := ⟨g.toNat, by omega⟩
      have hlt : k < ps.length := by omega
      obtain ⟨a0, a1, _⟩ := guildsB_at hg (g := (k : Int)) (by omega) h2
      have hs := bnd_step hg (g := (k : Int)) (by omega) h2
      rw [show ((k : Int)).toNat = k by omega] at a0 a1 hs
      rw [hs]
      clear hs
      have Hi := hide h
      obtain ⟨a, cap, rfl, hc, hm, hr⟩ := h
      rcases hr with hz | ⟨b, off, rfl, hbw, hcl⟩
      · rw [hz] at hlt; simp at hlt
      obtain ⟨c0, c1, c2⟩ := guild_cells hcl hlt
      clear hcl
      generalize hW : w.alloc (.cells #[.int .i64 0, .int .i64 0, .int .i64 0] 78) = W
      have HB : Hid (Below w.heap.size w W) := hide (by rw [← hW]; exact (Below.refl _ _).alloc (Nat.le_refl _) _)
      have hsz : w.heap.size < W.heap.size := by rw [← hW]; simp
      have hbW : b < W.heap.size := by omega
      rw [← (unhide HB).cell (p := ⟨b, off + k * 3, none⟩) hbw] at c0
      rw [← (unhide HB).cell (p := ⟨b, off + k * 3 + 1, none⟩) hbw] at c1
      rw [← (unhide HB).cell (p := ⟨b, off + k * 3 + 2, none⟩) hbw] at c2
      have D : Hid ((∃ u, W.cell? ⟨w.heap.size, 0, none⟩ = some u) ∧ (∃ u, W.cell? ⟨w.heap.size, 1, none⟩ = some u) ∧ (∃ u, W.cell? ⟨w.heap.size, 2, none⟩ = some u) ∧ W.frozen? ⟨w.heap.size, 0, none⟩ = false ∧ W.frozen? ⟨w.heap.size, 1, none⟩ = false ∧ W.frozen? ⟨w.heap.size, 2, none⟩ = false) :=
        hide (by rw [← hW]; exact ⟨⟨_, by simp; rfl⟩, ⟨_, by simp; rfl⟩, ⟨_, by simp; rfl⟩, by simp, by simp, by simp⟩)
      have HW := hide hW
      clear hW
      have Hc := hide (And.intro c0 (And.intro c1 c2))
      generalize hp : recAt ps k = p at *
      obtain ⟨x0, x1, x2⟩ := p
      simp only at c0 c1 c2 a0 a1
      have ih' := fun (w : World) (v : Value) (h : IsGuilds w v ps) => ih x0 h a0 (by omega) (by omega)
      have Ih := hide ih'
      clear ih ih' hp
      go_enter Tryz.func79, Tryz.ntmps79
      go_wp2_with fail
      rw [unhide HW]
      go_region_with (first
        | (go_at_call 79; refine (unhide Ih _ _ ?_).mono ?_; (first | exact (unhide Hi).below (unhide HB) | exact ((unhide Hi).below (unhide HB)).below ((Below.refl _ _).drew)); rintro e w1 ⟨y, rfl, hb1⟩; have B1 : Hid (Below W.heap.size W w1) := hide (by first | exact hb1 | exact ((Below.refl _ _).drew).trans (hb1.mono (by simp))); have e0 := ((unhide B1).cell (p := ⟨b, off + k * 3, none⟩) hbW).trans (unhide Hc).1; have e1 := ((unhide B1).cell (p := ⟨b, off + k * 3 + 1, none⟩) hbW).trans (unhide Hc).2.1; have e2 := ((unhide B1).cell (p := ⟨b, off + k * 3 + 2, none⟩) hbW).trans (unhide Hc).2.2; clear hb1)
        | (go_at_call 115; refine (settled_any _ _ _ _ _ _ _).mono ?_; rintro e w2 ⟨rfl, hb2⟩; have B2 : Hid (Below W.heap.size W w2) := hide ((unhide B1).trans (hb2.mono (unhide B1).size)); obtain ⟨⟨u0, q0⟩, ⟨u1, q1⟩, ⟨u2, q2⟩, f0, f1, f2⟩ := unhide D; have d0 := ((unhide B2).cell (p := ⟨w.heap.size, 0, none⟩) hsz).trans q0; have d1 := ((unhide B2).cell (p := ⟨w.heap.size, 1, none⟩) hsz).trans q1; have d2 := ((unhide B2).cell (p := ⟨w.heap.size, 2, none⟩) hsz).trans q2; have z0 := ((unhide B2).frozen (p := ⟨w.heap.size, 0, none⟩) hsz).trans f0; have z1 := ((unhide B2).frozen (p := ⟨w.heap.size, 1, none⟩) hsz).trans f1; have z2 := ((unhide B2).frozen (p := ⟨w.heap.size, 2, none⟩) hsz).trans f2; clear hb2 q0 q1 q2 f0 f1 f2))
      all_goals
        go_wp2_with fail
        exact bodyPost_ret (v := .agg #[.int .i64 x0, .int .i64 (narV (bnd ps x0) x1 x2).1, .int .i64 (narV (bnd ps x0) x1 x2).2]) (by simp [results, Tryz.results79, go_sem, d0, d1, d2]) rfl
          ⟨x0, rfl, ((((unhide HB).trans ((unhide B2).mono (by omega))).setCell (Nat.le_refl _) _).setCell (Nat.le_refl _) _).setCell (Nat.le_refl _) _⟩

set_option maxHeartbeats 2000000 in
theorem implWithin_any {w : World} {v : Value} {ps : List GuildV} (g lo hi : Int) (h : IsGuilds w v ps) :
    Calls Tryz.prog 46 #[v, .int .i64 g, .int .i64 lo, .int .i64 hi] w fun e w' => e = .returned (.tuple #[.int .i64 (withinV ps g lo hi).1, .int .i64 (withinV ps g lo hi).2]) ∧ Below w.heap.size w w' := by
  have Hi := hide h
  obtain ⟨a, cap, rfl, hc, hm, hr⟩ := h
  clear hr
  generalize hW : w.alloc (.cells #[.int .i64 g, .int .i64 lo, .int .i64 hi] 78) = W
  have HB : Hid (Below w.heap.size w W) := hide (by rw [← hW]; exact (Below.refl _ _).alloc (Nat.le_refl _) _)
  have hsz : w.heap.size < W.heap.size := by rw [← hW]; simp
  have D : Hid (W.cell? ⟨w.heap.size, 0, none⟩ = some (.int .i64 g) ∧ W.cell? ⟨w.heap.size, 1, none⟩ = some (.int .i64 lo) ∧ W.cell? ⟨w.heap.size, 2, none⟩ = some (.int .i64 hi)) := hide (by rw [← hW]; simp)
  have HW := hide hW
  clear hW
  have hsv : (guildsB ps && guildB (g, lo, hi) ps.length) = (isB ps g && pairB lo hi) := by unfold guildB isB; rw [Bool.and_assoc]
  cases hG : guildsB ps
  · rw [withinV_f (by rw [← hsv, hG]; rfl)]
    clear hsv
    go_enter Tryz.func46, Tryz.ntmps46
    go_wp2_with fail
    rw [unhide HW]
    refine (implGuildsOk_any ((unhide Hi).below (unhide HB))).mono ?_
    rw [hG]
    rintro e w1 ⟨rfl, hb1⟩
    have B1 := hide ((unhide HB).trans (hb1.mono (by omega)))
    clear hb1
    go_wp2_with fail
    go_ret2
    exact ⟨rfl, unhide B1⟩
  · cases hQ : guildB (g, lo, hi) ps.length
    · rw [withinV_f (by rw [← hsv, hG, hQ]; rfl)]
      clear hsv
      go_enter Tryz.func46, Tryz.ntmps46
      go_wp2_with fail
      rw [unhide HW]
      refine (implGuildsOk_any ((unhide Hi).below (unhide HB))).mono ?_
      rw [hG]
      rintro e w1 ⟨rfl, hb1⟩
      have d0 := (hb1.cell (p := ⟨w.heap.size, 0, none⟩) hsz).trans (unhide D).1
      have d1 := (hb1.cell (p := ⟨w.heap.size, 1, none⟩) hsz).trans (unhide D).2.1
      have d2 := (hb1.cell (p := ⟨w.heap.size, 2, none⟩) hsz).trans (unhide D).2.2
      have B1 := hide ((unhide HB).trans (hb1.mono (by omega)))
      clear hb1
      go_wp2_with fail
      refine (guildOk_any _ _ _ _ _).mono ?_
      rw [hQ]
      rintro e w2 ⟨rfl, hb2⟩
      have B2 := hide ((unhide B1).trans (hb2.mono (unhide B1).size))
      clear hb2
      go_wp2_with fail
      go_ret2
      exact ⟨rfl, unhide B2⟩
    · obtain ⟨g0, g1, g2⟩ := guildB_of hQ
      have hisB : isB ps g = true := by unfold isB; rw [hG, inB_t g0 (by simpa using g1)]; rfl
      rw [withinV_t hisB g2]
      clear hsv hisB
      have hlt : g < ps.length := by simp only at g1; omega
      simp only at g0
      go_enter Tryz.func46, Tryz.ntmps46
      go_wp2_with fail
      rw [unhide HW]
      refine (implGuildsOk_any ((unhide Hi).below (unhide HB))).mono ?_
      rw [hG]
      rintro e w1 ⟨rfl, hb1⟩
      have d0 := (hb1.cell (p := ⟨w.heap.size, 0, none⟩) hsz).trans (unhide D).1
      have d1 := (hb1.cell (p := ⟨w.heap.size, 1, none⟩) hsz).trans (unhide D).2.1
      have d2 := (hb1.cell (p := ⟨w.heap.size, 2, none⟩) hsz).trans (unhide D).2.2
      have B1 := hide ((unhide HB).trans (hb1.mono (by omega)))
      clear hb1
      go_wp2_with fail
      refine (guildOk_any _ _ _ _ _).mono ?_
      rw [hQ]
      rintro e w2 ⟨rfl, hb2⟩
      have B2 := hide ((unhide B1).trans (hb2.mono (unhide B1).size))
      clear hb2
      go_wp2_with fail
      refine (settledAt_any hG (g + 1).toNat g ((unhide Hi).below (unhide B2)) g0 (by omega) hlt).mono ?_
      rintro e w3 ⟨x, rfl, hb3⟩
      have B3 := hide ((unhide B2).trans (hb3.mono (unhide B2).size))
      clear hb3
      go_wp2_with fail
      refine (narrowed_any _ _ _ _ _ _).mono ?_
      rintro e w4 ⟨rfl, hb4⟩
      have B4 := hide ((unhide B3).trans (hb4.mono (unhide B3).size))
      clear hb4
      go_wp2_with fail
      go_ret2
      exact ⟨rfl, unhide B4⟩

end Go.Proofs.YtmhagllddhjgmabGreat

/- Contracts of chapter 8's models: each returns what the plain lists say and writes into no memory that was there. Condition: the slices can be read, and what a theorem names. -/
namespace Go.Proofs.YtmhagllddhjgmabGreat
open Go.ChangeShapes Go.WideShapes Go.ChangeAt Go.RowKit Go.Sort
set_option linter.unusedVariables false

theorem drewN_below {B : Nat} {w w' : World} (h : Below B w w') (n : Nat) : Below B w (w'.drewN n) := ⟨h.os, h.tape, h.output, h.size, h.block⟩

theorem guildForce_any (x : Int) (w : World) : Calls Tryz.prog 89 #[.int .i64 x] w fun e w' => e = .returned (.bool (inB x 0 1024)) ∧ w' = w := by
  go_enter Tryz.func89, Tryz.ntmps89
  go_wp2_with (go_at_call 35; refine (l1In_any _ _ _ _).mono ?_; rintro e w' ⟨rfl, rfl⟩)
  go_ret
  exact ⟨rfl, rfl⟩

theorem l8Pair_any (lo hi : Int) (w : World) : Calls Tryz.prog 85 #[.int .i64 lo, .int .i64 hi] w fun e w' => e = .returned (.bool (pairB lo hi)) ∧ w' = w := by
  cases h1 : inB lo 0 1024
  · have hp : pairB lo hi = false := by unfold pairB; rw [h1]; rfl
    rw [hp]; clear hp
    go_enter Tryz.func85, Tryz.ntmps85
    go_wp2_with (go_at_call 89; refine (guildForce_any _ _).mono ?_; rintro e w' ⟨rfl, rfl⟩)
    go_ret
    exact ⟨rfl, rfl⟩
  · cases h2 : inB hi 0 1024
    · have hp : pairB lo hi = false := by unfold pairB; rw [h1, h2]; rfl
      rw [hp]; clear hp
      go_enter Tryz.func85, Tryz.ntmps85
      go_wp2_with (go_at_call 89; refine (guildForce_any _ _).mono ?_; rintro e w' ⟨rfl, rfl⟩)
      go_ret
      exact ⟨rfl, rfl⟩
    · have hp : pairB lo hi = decide (lo ≤ hi) := by unfold pairB; rw [h1, h2]; rfl
      rw [hp]; clear hp
      by_cases h3 : lo ≤ hi
      all_goals
        go_enter Tryz.func85, Tryz.ntmps85
        go_wp2_with (go_at_call 89; refine (guildForce_any _ _).mono ?_; rintro e w' ⟨rfl, rfl⟩)
        go_ret
        exact ⟨ret_bool (by first | (simp; done) | (simp; omega)), rfl⟩

set_option maxHeartbeats 2000000 in
theorem specGuildsOk_any {w : World} {v : Value} {ps : List GuildV} (h : IsGuilds w v ps) :
    Calls Tryz.prog 54 #[v] w fun e w' => e = .returned (.bool (guildsB ps)) ∧ Below w.heap.size w w' := by
  obtain ⟨a, cap, rfl, hc, hm, hr⟩ := h
  have Hr := hide hr
  clear hr
  go_enter Tryz.func54, Tryz.ntmps54
  go_wp2_with fail
  go_loopw [3] (fun i wr => ∃ k : Nat, k ≤ ps.length ∧ i = .int .i64 k ∧ upToB ps k = true ∧ Below w.heap.size w wr) (fun i _ => ps.length - (intOf i).toNat)
  case atStart => exact ⟨0, Nat.zero_le _, rfl, rfl, Below.refl _ _⟩
  case round =>
    obtain ⟨k, hk, rfl, hst, hb⟩ := hrel
    have Hst := hide hst
    have Hb := hide hb
    clear hst
    by_cases hlt : k < ps.length
    · rcases unhide Hr with h0 | ⟨b, off, rfl, hbw, hcl⟩
      · rw [h0] at hlt; simp at hlt
      obtain ⟨c0, c1, c2⟩ := guild_cells hcl hlt
      rw [← hb.cell (p := ⟨b, off + k * 3, none⟩) hbw] at c0
      rw [← hb.cell (p := ⟨b, off + k * 3 + 1, none⟩) hbw] at c1
      rw [← hb.cell (p := ⟨b, off + k * 3 + 2, none⟩) hbw] at c2
      generalize hp : recAt ps k = p at c0 c1 c2
      have Hp := hide hp
      clear hp
      obtain ⟨x0, x1, x2⟩ := p
      simp only at c0 c1 c2
      clear hcl hb
      have hg : guildB (x0, x1, x2) k = (inB x0 (-1) ((k : Int) - 1) && pairB x1 x2) := rfl
      have Hg := hide hg
      clear hg
      cases h1 : inB x0 (-1) ((k : Int) - 1)
      · go_wp2_with fail
        go_quiet (first | exact Calls.quiet_of_same (l1In_any _ _ _ _) | exact Calls.quiet_of_same (l8Pair_any _ _ _))
        go_wp2_with fail
        go_ret
        exact ⟨ret_bool (guildsB_f hlt (by rw [unhide Hp, unhide Hg, h1]; rfl)).symm, drewN_below (unhide Hb) _⟩
      cases h2 : pairB x1 x2
      · go_wp2_with fail
        go_quiet (first | exact Calls.quiet_of_same (l1In_any _ _ _ _) | exact Calls.quiet_of_same (l8Pair_any _ _ _))
        go_wp2_with fail
        go_ret
        exact ⟨ret_bool (guildsB_f hlt (by rw [unhide Hp, unhide Hg, h1, h2]; rfl)).symm, drewN_below (unhide Hb) _⟩
      · go_wp2_with fail
        go_quiet (first | exact Calls.quiet_of_same (l1In_any _ _ _ _) | exact Calls.quiet_of_same (l8Pair_any _ _ _))
        go_wp2_with fail
        go_roundw
        case rel => exact ⟨k + 1, by omega, by go_num, by rw [upToB_succ, unhide Hst, unhide Hp, unhide Hg, h1, h2]; rfl, drewN_below (unhide Hb) _⟩
        case measure => simp [intOf]; omega
    · obtain rfl : k = ps.length := by omega
      by_cases hbig : ps.length ≤ 6
      all_goals
        go_wp2_with fail
        go_ret
        exact ⟨ret_bool (by unfold guildsB; rw [unhide Hst]; simp; omega), hb⟩

set_option maxHeartbeats 2000000 in
theorem l8Within_of {ps : List GuildV} (g : Int) (lo hi : Int) {w : World} {v : Value} (h : IsGuilds w v ps)
    (hB : Calls Tryz.prog 92 #[v, .int .i64 g] w fun e w' => e = .returned (.tuple #[.int .i64 (bnd ps g).1, .int .i64 (bnd ps g).2]) ∧ Below w.heap.size w w') :
    Calls Tryz.prog 60 #[v, .int .i64 g, .int .i64 lo, .int .i64 hi] w fun e w' => e = .returned (.tuple #[.int .i64 (narV (bnd ps g) lo hi).1, .int .i64 (narV (bnd ps g) lo hi).2]) ∧ Below w.heap.size w w' := by
  have HB := hide hB
  clear hB
  obtain ⟨a, cap, rfl, _⟩ := h
  unfold narV
  go_enter Tryz.func60, Tryz.ntmps60
  go_wp2_with fail
  refine (unhide HB).mono ?_
  rintro e w1 ⟨rfl, hb1⟩
  go_wp2_with (go_at_call 61; refine (specClamped_any _ _ _ _).mono ?_; rintro e w' ⟨rfl, rfl⟩)
  go_ret2
  exact ⟨rfl, hb1⟩

set_option maxRecDepth 100000 in
set_option maxHeartbeats 4000000 in
theorem l8Bounds_any {ps : List GuildV} (hg : guildsB ps = true) : ∀ (n : Nat) (g : Int) {w : World} {v : Value}, IsGuilds w v ps → -1 ≤ g → g < n → g < ps.length →
    Calls Tryz.prog 92 #[v, .int .i64 g] w fun e w' => e = .returned (.tuple #[.int .i64 (bnd ps g).1, .int .i64 (bnd ps g).2]) ∧ Below w.heap.size w w' := by
  intro n
  induction n with
  | zero =>
    intro g w v h h0 h1 h2
    obtain rfl : g = -1 := by omega
    rw [bnd_none ps (by omega)]
    obtain ⟨a, cap, rfl, _⟩ := h
    go_enter Tryz.func92, Tryz.ntmps92
    go_wp2_with fail
    go_ret2
    exact ⟨rfl, Below.refl _ _⟩
  | succ n ih =>
    intro g w v h h0 h1 h2
    by_cases hg0 : g < 0
    · obtain rfl : g = -1 := by omega
      rw [bnd_none ps (by omega)]
      obtain ⟨a, cap, rfl, _⟩ := h
      go_enter Tryz.func92, Tryz.ntmps92
      go_wp2_with fail
      go_ret2
      exact ⟨rfl, Below.refl _ _⟩
    · obtain ⟨k, rfl⟩ : ∃ k : Nat, g = k := ⟨g.toNat, by omega⟩
      have hlt : k < ps.length := by omega
      obtain ⟨a0, a1, _⟩ := guildsB_at hg (g := (k : Int)) (by omega) h2
      have hs := bnd_step hg (g := (k : Int)) (by omega) h2
      rw [show ((k : Int)).toNat = k by omega] at a0 a1 hs
      rw [hs]
      clear hs
      have Hi := hide h
      obtain ⟨a, cap, rfl, hc, hm, hr⟩ := h
      rcases hr with hz | ⟨b, off, rfl, hbw, hcl⟩
      · rw [hz] at hlt; simp at hlt
      obtain ⟨c0, c1, c2⟩ := guild_cells hcl hlt
      clear hcl
      generalize hp : recAt ps k = p at *
      obtain ⟨x0, x1, x2⟩ := p
      simp only at c0 c1 c2 a0 a1
      have k0 := cell_regrown c0
      have k1 := cell_regrown c1
      have k2 := cell_regrown c2
      have ih' := fun (w' : World) (h : IsGuilds w' (.slice (some ⟨b, off, none⟩) ps.length cap) ps) => l8Within_of x0 x1 x2 h (ih x0 h a0 (by omega) (by omega))
      have Ih := hide ih'
      clear ih ih' hp
      go_enter Tryz.func92, Tryz.ntmps92
      go_wp2_with fail
      refine wp_region_quiet_below (by kernel_rfl) (by kernel_rfl) ?_
      repeat (go_big_quiet_step (exact Calls.regrown_of (unhide Ih _ ((unhide Hi).below (below_regrown _ _ _)))))
      refine wpQuiet_nil ?_
      intro _ hw'
      obtain ⟨⟨dq, osq⟩, hw''⟩ := hw'
      subst hw''
      go_wp2_with fail
      go_ret2
      exact ⟨rfl, below_regrown _ _ _⟩

end Go.Proofs.YtmhagllddhjgmabGreat

