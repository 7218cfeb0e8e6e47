/- What the proof rests on, part 4: lists and numbers, how they lie in memory, and contracts of the calls. No condition but those that a theorem names. -/
import Derived.Test.YtffcgajndmhpkaaGreatXv01
import Derived.Test.YtffcgajndmhpkaaGreatXv02
import Derived.Test.YtffcgajndmhpkaaGreatXv03
import Derived.Lib.QuietBelow
import Derived.Deep.RegionWith
import Derived.Deep.QuietTactic
import Derived.BigQuiet
import GoSem.Claim
import GoSem.ClaimJoined
import GoSem.ClaimMapViews
import Derived.JoinedTies
import Derived.KernelRfl
import Derived.RowKit
import Derived.WalkKit
import Derived.ProofKit
import Derived.OpenShut
import Derived.Outline
import Derived.Laws.OwnMore
import Derived.OwnWalk
import Derived.Maps.AppendAt
import Derived.Lib.SmallJoins
import Derived.Deep.Fields
import Derived.Deep.Slices
/- Contracts of chapter 8's functions and of their models: each returns what the plain lists say and writes into no memory that was there. Condition: the slices can be read, and what a theorem names. -/
namespace Go.Proofs.YtffcgajndmhpkaaGreat
open Go.ChangeShapes Go.WideShapes Go.ChangeAt Go.RowKit Go.Sort
set_option linter.unusedVariables false

theorem pairB_t {lo hi : Int} (h0 : 0 ≤ lo) (h1 : lo ≤ hi) (h2 : hi ≤ 1024) : pairB lo hi = true := by unfold pairB; rw [inB_t h0 (by omega), inB_t (by omega) h2]; simp; omega
theorem pairB_f {lo hi : Int} (h : lo < 0 ∨ hi < lo ∨ 1024 < hi) : pairB lo hi = false := by
  cases e : pairB lo hi
  · rfl
  · have := pairB_of e; omega

theorem areBounds_any (lo hi : Int) (w : World) : Calls Tryz.prog 141 #[.int .i64 lo, .int .i64 hi] w fun e w' => e = .returned (.bool (pairB lo hi)) ∧ w' = w := by
  by_cases h1 : 0 ≤ lo
  · by_cases h2 : lo ≤ hi
    · by_cases h3 : hi ≤ 1024
      all_goals
        go_enter Tryz.func141, Tryz.ntmps141
        go_wp2
        go_ret
        exact ⟨ret_bool (by first | exact (pairB_t h1 h2 h3).symm | exact (pairB_f (by omega)).symm), rfl⟩
    · go_enter Tryz.func141, Tryz.ntmps141
      go_wp2
      go_ret
      exact ⟨ret_bool (pairB_f (by omega)).symm, rfl⟩
  · go_enter Tryz.func141, Tryz.ntmps141
    go_wp2
    go_ret
    exact ⟨ret_bool (pairB_f (by omega)).symm, rfl⟩

theorem guildOk_any (a lo hi n : Int) (w : World) : Calls Tryz.prog 125 #[.agg #[.int .i64 a, .int .i64 lo, .int .i64 hi], .int .i64 n] w fun e w' => e = .returned (.bool (guildB (a, lo, hi) n)) ∧ Below w.heap.size w w' := by
  by_cases h1 : -1 ≤ a
  · by_cases h2 : a < n
    · have hg : guildB (a, lo, hi) n = pairB lo hi := by unfold guildB; rw [inB_t h1 (by omega)]; rfl
      rw [hg]; clear hg
      go_enter Tryz.func125, Tryz.ntmps125
      go_wp2_with (go_at_call 141; refine (areBounds_any _ _ _).mono ?_; rintro e w' ⟨rfl, rfl⟩)
      go_ret
      exact ⟨rfl, (Below.refl _ _).alloc (Nat.le_refl _) _⟩
    · have hg : guildB (a, lo, hi) n = false := by unfold guildB; rw [inB_f (.inr (by omega))]; rfl
      rw [hg]; clear hg
      go_enter Tryz.func125, Tryz.ntmps125
      go_wp2_with fail
      go_ret
      exact ⟨rfl, (Below.refl _ _).alloc (Nat.le_refl _) _⟩
  · have hg : guildB (a, lo, hi) n = false := by unfold guildB; rw [inB_f (.inl (by omega))]; rfl
    rw [hg]; clear hg
    go_enter Tryz.func125, Tryz.ntmps125
    go_wp2_with fail
    go_ret
    exact ⟨rfl, (Below.refl _ _).alloc (Nat.le_refl _) _⟩

set_option maxHeartbeats 2000000 in
theorem implGuildsOk_any {w : World} {v : Value} {ps : List GuildV} (h : IsGuilds w v ps) :
    Calls Tryz.prog 103 #[v] w fun e w' => e = .returned (.bool (guildsB ps)) ∧ Below w.heap.size w w' := by
  obtain ⟨a, cap, rfl, hc, hm, hr⟩ := h
  have Hr := hide hr
  clear hr
  by_cases hbig : 6 < ps.length
  · go_enter Tryz.func103, Tryz.ntmps103
    go_wp2_with fail
    go_ret
    exact ⟨ret_bool (guildsB_long hbig).symm, Below.refl _ _⟩
  go_enter Tryz.func103, Tryz.ntmps103
  go_wp2_with fail
  go_loopw [10] (fun i wr => ∃ k : Nat, k ≤ ps.length ∧ i = .int .i64 k ∧ upToB ps k = true ∧ Below w.heap.size w wr) (fun i _ => ps.length - (intOf i).toNat)
  case atStart => exact ⟨0, Nat.zero_le _, rfl, rfl, Below.refl _ _⟩
  case round =>
    obtain ⟨k, hk, rfl, hst, hb⟩ := hrel
    have Hst := hide hst
    have Hb := hide hb
    clear hst
    by_cases hlt : k < ps.length
    · rcases unhide Hr with h0 | ⟨b, off, rfl, hbw, hcl⟩
      · rw [h0] at hlt; simp at hlt
      have hbr : b < wr.heap.size := Nat.lt_of_lt_of_le hbw hb.size
      obtain ⟨c0, c1, c2⟩ := guild_cells hcl hlt
      rw [← hb.cell (p := ⟨b, off + k * 3, none⟩) hbw] at c0
      rw [← hb.cell (p := ⟨b, off + k * 3 + 1, none⟩) hbw] at c1
      rw [← hb.cell (p := ⟨b, off + k * 3 + 2, none⟩) hbw] at c2
      generalize hp : recAt ps k = p at c0 c1 c2
      have Hp := hide hp
      clear hp
      obtain ⟨x0, x1, x2⟩ := p
      simp only at c0 c1 c2
      have hsz := hb.size
      clear hcl hb
      go_wp2_with fail
      refine (guildOk_any _ _ _ _ _).mono ?_
      rintro e w1 ⟨rfl, hb1⟩
      have Hb1 := hide ((unhide Hb).trans (((Below.refl _ _).alloc hsz _).trans (hb1.mono (by simp; omega))))
      clear hb1
      cases hg : guildB (x0, x1, x2) k
      · go_wp2_with fail
        go_ret
        exact ⟨ret_bool (guildsB_f hlt (by rw [unhide Hp]; exact hg)).symm, unhide Hb1⟩
      · go_wp2_with fail
        go_roundw
        case rel => exact ⟨k + 1, by omega, by go_num, by rw [upToB_succ, unhide Hst, unhide Hp, hg]; rfl, unhide Hb1⟩
        case measure => simp [intOf]; omega
    · obtain rfl : k = ps.length := by omega
      go_wp2_with fail
      go_ret
      exact ⟨ret_bool (by unfold guildsB; rw [unhide Hst]; simp; omega), hb⟩

theorem narrowed_any (a lo hi l h : Int) (w : World) : Calls Tryz.prog 139 #[.agg #[.int .i64 a, .int .i64 lo, .int .i64 hi], .int .i64 l, .int .i64 h] w
    fun e w' => e = .returned (.tuple #[.int .i64 (narV (lo, hi) l h).1, .int .i64 (narV (lo, hi) l h).2]) ∧ Below w.heap.size w w' := by
  unfold narV
  go_enter Tryz.func139, Tryz.ntmps139
  go_wp2_with (go_at_call 119; refine (implClamped_any _ _ _ _).mono ?_; rintro e w' ⟨rfl, rfl⟩)
  go_ret2
  exact ⟨rfl, (Below.refl _ _).alloc (Nat.le_refl _) _⟩

set_option maxHeartbeats 1000000 in
theorem settled_any (a lo hi a' l h : Int) (w : World) : Calls Tryz.prog 145 #[.agg #[.int .i64 a, .int .i64 lo, .int .i64 hi, .int .i64 a', .int .i64 l, .int .i64 h]] w
    fun e w' => e = .returned (.agg #[.int .i64 a', .int .i64 (narV (lo, hi) l h).1, .int .i64 (narV (lo, hi) l h).2]) ∧ Below w.heap.size w w' := by
  go_enter Tryz.func145, Tryz.ntmps145
  go_wp2_with fail
  refine (narrowed_any _ _ _ _ _ _).mono ?_
  rintro e w1 ⟨rfl, hb1⟩
  have hz : w.heap.size + 1 < w1.heap.size := by have := hb1.size; simp at this; omega
  have Hb1 := hide hb1
  obtain ⟨hc, hf⟩ := bcell hb1
  clear hb1
  go_wp2_with fail
  exact bodyPost_ret (v := .agg #[.int .i64 a', .int .i64 (narV (lo, hi) l h).1, .int .i64 (narV (lo, hi) l h).2]) (by simp [results, Tryz.results145, go_sem, hc]) rfl
    ⟨rfl, ((((((Below.refl _ _).alloc (Nat.le_refl _) _).alloc (by simp) _).trans ((unhide Hb1).mono (by simp; omega))).setCell (by simp) _).setCell (by simp) _).setCell (by simp) _⟩

set_option maxRecDepth 100000 in
set_option maxHeartbeats 4000000 in
theorem settledAt_any {ps : List GuildV} (hg : guildsB ps = true) : ∀ (n : Nat) (g : Int) {w : World} {v : Value}, IsGuilds w v ps → -1 ≤ g → g < n → g < ps.length →
    Calls Tryz.prog 138 #[v, .int .i64 g] w fun e w' => ∃ x, e = .returned (.agg #[.int .i64 x, .int .i64 (bnd ps g).1, .int .i64 (bnd ps g).2]) ∧ Below w.heap.size w w' := by
  intro n
  induction n with
  | zero =>
    intro g w v h h0 h1 h2
    obtain rfl : g = -1 := by omega
    rw [bnd_none ps (by omega)]
    obtain ⟨a, cap, rfl, _⟩ := h
    go_enter Tryz.func138, Tryz.ntmps138
    go_wp2_with fail
    exact bodyPost_ret (v := .agg #[.int .i64 (-1), .int .i64 0, .int .i64 1024]) (by simp [results, Tryz.results138, go_sem]) rfl ⟨-1, rfl, (Below.refl _ _).alloc (Nat.le_refl _) _⟩
  | succ n ih =>
    intro g w v h h0 h1 h2
    by_cases hg0 : g = -1
    · subst hg0
      rw [bnd_none ps (by omega)]
      obtain ⟨a, cap, rfl, _⟩ := h
      go_enter Tryz.func138, Tryz.ntmps138
      go_wp2_with fail
      exact bodyPost_ret (v := .agg #[.int .i64 (-1), .int .i64 0, .int .i64 1024]) (by simp [results, Tryz.results138, go_sem]) rfl ⟨-1, rfl, (Below.refl _ _).alloc (Nat.le_refl _) _⟩
    · obtain ⟨k, rfl⟩ : ∃ k : Nat, g = k := ⟨g.toNat, by omega⟩
      have hlt : k < ps.length := by omega
      obtain ⟨a0, a1, _⟩ := guildsB_at hg (g := (k : Int)) (by omega) h2
      have hs := bnd_step hg (g := (k : Int)) (by omega) h2
      rw [show ((k : Int)).toNat = k by omega] at a0 a1 hs
      rw [hs]
      clear hs
      have Hi := hide h
      obtain ⟨a, cap, rfl, hc, hm, hr⟩ := h
      rcases hr with hz | ⟨b, off, rfl, hbw, hcl⟩
      · rw [hz] at hlt; simp at hlt
      obtain ⟨c0, c1, c2⟩ := guild_cells hcl hlt
      clear hcl
      generalize hW : w.alloc (.cells #[.int .i64 0, .int .i64 0, .int .i64 0] 76) = W
      have HB : Hid (Below w.heap.size w W) := hide (by rw [← hW]; exact (Below.refl _ _).alloc (Nat.le_refl _) _)
      have hsz : w.heap.size < W.heap.size := by rw [← hW]; simp
      have hbW : b < W.heap.size := by omega
      rw [← (unhide HB).cell (p := ⟨b, off + k * 3, none⟩) hbw] at c0
      rw [← (unhide HB).cell (p := ⟨b, off + k * 3 + 1, none⟩) hbw] at c1
      rw [← (unhide HB).cell (p := ⟨b, off + k * 3 + 2, none⟩) hbw] at c2
      have D : Hid ((∃ u, W.cell? ⟨w.heap.size, 0, none⟩ = some u) ∧ (∃ u, W.cell? ⟨w.heap.size, 1, none⟩ = some u) ∧ (∃ u, W.cell? ⟨w.heap.size, 2, none⟩ = some u) ∧ W.frozen? ⟨w.heap.size, 0, none⟩ = false ∧ W.frozen? ⟨w.heap.size, 1, none⟩ = false ∧ W.frozen? ⟨w.heap.size, 2, none⟩ = false) :=
        hide (by rw [← hW]; exact ⟨⟨_, by simp; rfl⟩, ⟨_, by simp; rfl⟩, ⟨_, by simp; rfl⟩, by simp, by simp, by simp⟩)
      have HW := hide hW
      clear hW
      have Hc := hide (And.intro c0 (And.intro c1 c2))
      generalize hp : recAt ps k = p at *
      obtain ⟨x0, x1, x2⟩ := p
      simp only at c0 c1 c2 a0 a1
      have ih' := fun (w : World) (v : Value) (h : IsGuilds w v ps) => ih x0 h a0 (by omega) (by omega)
      have Ih := hide ih'
      clear ih ih' hp
      go_enter Tryz.func138, Tryz.ntmps138
      go_wp2_with fail
      rw [unhide HW]
      go_region_with (first
        | (go_at_call 138; refine (unhide Ih _ _ ?_).mono ?_; (first | exact (unhide Hi).below (unhide HB) | exact ((unhide Hi).below (unhide HB)).below ((Below.refl _ _).drew)); rintro e w1 ⟨y, rfl, hb1⟩; have B1 : Hid (Below W.heap.size W w1) := hide (by first | exact hb1 | exact ((Below.refl _ _).drew).trans (hb1.mono (by simp))); have e0 := ((unhide B1).cell (p := ⟨b, off + k * 3, none⟩) hbW).trans (unhide Hc).1; have e1 := ((unhide B1).cell (p := ⟨b, off + k * 3 + 1, none⟩) hbW).trans (unhide Hc).2.1; have e2 := ((unhide B1).cell (p := ⟨b, off + k * 3 + 2, none⟩) hbW).trans (unhide Hc).2.2; clear hb1)
        | (go_at_call 145; refine (settled_any _ _ _ _ _ _ _).mono ?_; rintro e w2 ⟨rfl, hb2⟩; have B2 : Hid (Below W.heap.size W w2) := hide ((unhide B1).trans (hb2.mono (unhide B1).size)); obtain ⟨⟨u0, q0⟩, ⟨u1, q1⟩, ⟨u2, q2⟩, f0, f1, f2⟩ := unhide D; have d0 := ((unhide B2).cell (p := ⟨w.heap.size, 0, none⟩) hsz).trans q0; have d1 := ((unhide B2).cell (p := ⟨w.heap.size, 1, none⟩) hsz).trans q1; have d2 := ((unhide B2).cell (p := ⟨w.heap.size, 2, none⟩) hsz).trans q2; have z0 := ((unhide B2).frozen (p := ⟨w.heap.size, 0, none⟩) hsz).trans f0; have z1 := ((unhide B2).frozen (p := ⟨w.heap.size, 1, none⟩) hsz).trans f1; have z2 := ((unhide B2).frozen (p := ⟨w.heap.size, 2, none⟩) hsz).trans f2; clear hb2 q0 q1 q2 f0 f1 f2))
      all_goals
        go_wp2_with fail
        exact bodyPost_ret (v := .agg #[.int .i64 x0, .int .i64 (narV (bnd ps x0) x1 x2).1, .int .i64 (narV (bnd ps x0) x1 x2).2]) (by simp [results, Tryz.results138, go_sem, d0, d1, d2]) rfl
          ⟨x0, rfl, ((((unhide HB).trans ((unhide B2).mono (by omega))).setCell (Nat.le_refl _) _).setCell (Nat.le_refl _) _).setCell (Nat.le_refl _) _⟩

set_option maxHeartbeats 2000000 in
theorem implWithin_any {w : World} {v : Value} {ps : List GuildV} (g lo hi : Int) (h : IsGuilds w v ps) :
    Calls Tryz.prog 118 #[v, .int .i64 g, .int .i64 lo, .int .i64 hi] w fun e w' => e = .returned (.tuple #[.int .i64 (withinV ps g lo hi).1, .int .i64 (withinV ps g lo hi).2]) ∧ Below w.heap.size w w' := by
  have Hi := hide h
  obtain ⟨a, cap, rfl, hc, hm, hr⟩ := h
  clear hr
  generalize hW : w.alloc (.cells #[.int .i64 g, .int .i64 lo, .int .i64 hi] 76) = W
  have HB : Hid (Below w.heap.size w W) := hide (by rw [← hW]; exact (Below.refl _ _).alloc (Nat.le_refl _) _)
  have hsz : w.heap.size < W.heap.size := by rw [← hW]; simp
  have D : Hid (W.cell? ⟨w.heap.size, 0, none⟩ = some (.int .i64 g) ∧ W.cell? ⟨w.heap.size, 1, none⟩ = some (.int .i64 lo) ∧ W.cell? ⟨w.heap.size, 2, none⟩ = some (.int .i64 hi)) := hide (by rw [← hW]; simp)
  have HW := hide hW
  clear hW
  have hsv : (guildsB ps && guildB (g, lo, hi) ps.length) = (isB ps g && pairB lo hi) := by unfold guildB isB; rw [Bool.and_assoc]
  cases hG : guildsB ps
  · rw [withinV_f (by rw [← hsv, hG]; rfl)]
    clear hsv
    go_enter Tryz.func118, Tryz.ntmps118
    go_wp2_with fail
    rw [unhide HW]
    refine (implGuildsOk_any ((unhide Hi).below (unhide HB))).mono ?_
    rw [hG]
    rintro e w1 ⟨rfl, hb1⟩
    have B1 := hide ((unhide HB).trans (hb1.mono (by omega)))
    clear hb1
    go_wp2_with fail
    go_ret2
    exact ⟨rfl, unhide B1⟩
  · cases hQ : guildB (g, lo, hi) ps.length
    · rw [withinV_f (by rw [← hsv, hG, hQ]; rfl)]
      clear hsv
      go_enter Tryz.func118, Tryz.ntmps118
      go_wp2_with fail
      rw [unhide HW]
      refine (implGuildsOk_any ((unhide Hi).below (unhide HB))).mono ?_
      rw [hG]
      rintro e w1 ⟨rfl, hb1⟩
      have d0 := (hb1.cell (p := ⟨w.heap.size, 0, none⟩) hsz).trans (unhide D).1
      have d1 := (hb1.cell (p := ⟨w.heap.size, 1, none⟩) hsz).trans (unhide D).2.1
      have d2 := (hb1.cell (p := ⟨w.heap.size, 2, none⟩) hsz).trans (unhide D).2.2
      have B1 := hide ((unhide HB).trans (hb1.mono (by omega)))
      clear hb1
      go_wp2_with fail
      refine (guildOk_any _ _ _ _ _).mono ?_
      rw [hQ]
      rintro e w2 ⟨rfl, hb2⟩
      have B2 := hide ((unhide B1).trans (hb2.mono (unhide B1).size))
      clear hb2
      go_wp2_with fail
      go_ret2
      exact ⟨rfl, unhide B2⟩
    · obtain ⟨g0, g1, g2⟩ := guildB_of hQ
      have hisB : isB ps g = true := by unfold isB; rw [hG, inB_t g0 (by simpa using g1)]; rfl
      rw [withinV_t hisB g2]
      clear hsv hisB
      have hlt : g < ps.length := by simp only at g1; omega
      simp only at g0
      go_enter Tryz.func118, Tryz.ntmps118
      go_wp2_with fail
      rw [unhide HW]
      refine (implGuildsOk_any ((unhide Hi).below (unhide HB))).mono ?_
      rw [hG]
      rintro e w1 ⟨rfl, hb1⟩
      have d0 := (hb1.cell (p := ⟨w.heap.size, 0, none⟩) hsz).trans (unhide D).1
      have d1 := (hb1.cell (p := ⟨w.heap.size, 1, none⟩) hsz).trans (unhide D).2.1
      have d2 := (hb1.cell (p := ⟨w.heap.size, 2, none⟩) hsz).trans (unhide D).2.2
      have B1 := hide ((unhide HB).trans (hb1.mono (by omega)))
      clear hb1
      go_wp2_with fail
      refine (guildOk_any _ _ _ _ _).mono ?_
      rw [hQ]
      rintro e w2 ⟨rfl, hb2⟩
      have B2 := hide ((unhide B1).trans (hb2.mono (unhide B1).size))
      clear hb2
      go_wp2_with fail
      refine (settledAt_any hG (g + 1).toNat g ((unhide Hi).below (unhide B2)) g0 (by omega) hlt).mono ?_
      rintro e w3 ⟨x, rfl, hb3⟩
      have B3 := hide ((unhide B2).trans (hb3.mono (unhide B2).size))
      clear hb3
      go_wp2_with fail
      refine (narrowed_any _ _ _ _ _ _).mono ?_
      rintro e w4 ⟨rfl, hb4⟩
      have B4 := hide ((unhide B3).trans (hb4.mono (unhide B3).size))
      clear hb4
      go_wp2_with fail
      go_ret2
      exact ⟨rfl, unhide B4⟩

end Go.Proofs.YtffcgajndmhpkaaGreat

/- Contracts of chapter 8's models: each returns what the plain lists say and writes into no memory that was there. Condition: the slices can be read, and what a theorem names. -/
namespace Go.Proofs.YtffcgajndmhpkaaGreat
open Go.ChangeShapes Go.WideShapes Go.ChangeAt Go.RowKit Go.Sort
set_option linter.unusedVariables false

theorem drewN_below {B : Nat} {w w' : World} (h : Below B w w') (n : Nat) : Below B w (w'.drewN n) := ⟨h.os, h.tape, h.output, h.size, h.block⟩

theorem guildForce_any (x : Int) (w : World) : Calls Tryz.prog 77 #[.int .i64 x] w fun e w' => e = .returned (.bool (inB x 0 1024)) ∧ w' = w := by
  go_enter Tryz.func77, Tryz.ntmps77
  go_wp2_with (go_at_call 32; refine (l1In_any _ _ _ _).mono ?_; rintro e w' ⟨rfl, rfl⟩)
  go_ret
  exact ⟨rfl, rfl⟩

theorem l8Pair_any (lo hi : Int) (w : World) : Calls Tryz.prog 73 #[.int .i64 lo, .int .i64 hi] w fun e w' => e = .returned (.bool (pairB lo hi)) ∧ w' = w := by
  cases h1 : inB lo 0 1024
  · have hp : pairB lo hi = false := by unfold pairB; rw [h1]; rfl
    rw [hp]; clear hp
    go_enter Tryz.func73, Tryz.ntmps73
    go_wp2_with (go_at_call 77; refine (guildForce_any _ _).mono ?_; rintro e w' ⟨rfl, rfl⟩)
    go_ret
    exact ⟨rfl, rfl⟩
  · cases h2 : inB hi 0 1024
    · have hp : pairB lo hi = false := by unfold pairB; rw [h1, h2]; rfl
      rw [hp]; clear hp
      go_enter Tryz.func73, Tryz.ntmps73
      go_wp2_with (go_at_call 77; refine (guildForce_any _ _).mono ?_; rintro e w' ⟨rfl, rfl⟩)
      go_ret
      exact ⟨rfl, rfl⟩
    · have hp : pairB lo hi = decide (lo ≤ hi) := by unfold pairB; rw [h1, h2]; rfl
      rw [hp]; clear hp
      by_cases h3 : lo ≤ hi
      all_goals
        go_enter Tryz.func73, Tryz.ntmps73
        go_wp2_with (go_at_call 77; refine (guildForce_any _ _).mono ?_; rintro e w' ⟨rfl, rfl⟩)
        go_ret
        exact ⟨ret_bool (by first | (simp; done) | (simp; omega)), rfl⟩

set_option maxHeartbeats 2000000 in
theorem specGuildsOk_any {w : World} {v : Value} {ps : List GuildV} (h : IsGuilds w v ps) :
    Calls Tryz.prog 51 #[v] w fun e w' => e = .returned (.bool (guildsB ps)) ∧ Below w.heap.size w w' := by
  obtain ⟨a, cap, rfl, hc, hm, hr⟩ := h
  have Hr := hide hr
  clear hr
  go_enter Tryz.func51, Tryz.ntmps51
  go_wp2_with fail
  go_loopw [3] (fun i wr => ∃ k : Nat, k ≤ ps.length ∧ i = .int .i64 k ∧ upToB ps k = true ∧ Below w.heap.size w wr) (fun i _ => ps.length - (intOf i).toNat)
  case atStart => exact ⟨0, Nat.zero_le _, rfl, rfl, Below.refl _ _⟩
  case round =>
    obtain ⟨k, hk, rfl, hst, hb⟩ := hrel
    have Hst := hide hst
    have Hb := hide hb
    clear hst
    by_cases hlt : k < ps.length
    · rcases unhide Hr with h0 | ⟨b, off, rfl, hbw, hcl⟩
      · rw [h0] at hlt; simp at hlt
      obtain ⟨c0, c1, c2⟩ := guild_cells hcl hlt
      rw [← hb.cell (p := ⟨b, off + k * 3, none⟩) hbw] at c0
      rw [← hb.cell (p := ⟨b, off + k * 3 + 1, none⟩) hbw] at c1
      rw [← hb.cell (p := ⟨b, off + k * 3 + 2, none⟩) hbw] at c2
      generalize hp : recAt ps k = p at c0 c1 c2
      have Hp := hide hp
      clear hp
      obtain ⟨x0, x1, x2⟩ := p
      simp only at c0 c1 c2
      clear hcl hb
      have hg : guildB (x0, x1, x2) k = (inB x0 (-1) ((k : Int) - 1) && pairB x1 x2) := rfl
      have Hg := hide hg
      clear hg
      cases h1 : inB x0 (-1) ((k : Int) - 1)
      · go_wp2_with fail
        go_quiet (first | exact Calls.quiet_of_same (l1In_any _ _ _ _) | exact Calls.quiet_of_same (l8Pair_any _ _ _))
        go_wp2_with fail
        go_ret
        exact ⟨ret_bool (guildsB_f hlt (by rw [unhide Hp, unhide Hg, h1]; rfl)).symm, drewN_below (unhide Hb) _⟩
      cases h2 : pairB x1 x2
      · go_wp2_with fail
        go_quiet (first | exact Calls.quiet_of_same (l1In_any _ _ _ _) | exact Calls.quiet_of_same (l8Pair_any _ _ _))
        go_wp2_with fail
        go_ret
        exact ⟨ret_bool (guildsB_f hlt (by rw [unhide Hp, unhide Hg, h1, h2]; rfl)).symm, drewN_below (unhide Hb) _⟩
      · go_wp2_with fail
        go_quiet (first | exact Calls.quiet_of_same (l1In_any _ _ _ _) | exact Calls.quiet_of_same (l8Pair_any _ _ _))
        go_wp2_with fail
        go_roundw
        case rel => exact ⟨k + 1, by omega, by go_num, by rw [upToB_succ, unhide Hst, unhide Hp, unhide Hg, h1, h2]; rfl, drewN_below (unhide Hb) _⟩
        case measure => simp [intOf]; omega
    · obtain rfl : k = ps.length := by omega
      by_cases hbig : ps.length ≤ 6
      all_goals
        go_wp2_with fail
        go_ret
        exact ⟨ret_bool (by unfold guildsB; rw [unhide Hst]; simp; omega), hb⟩

set_option maxHeartbeats 2000000 in
theorem l8Within_of {ps : List GuildV} (g : Int) (lo hi : Int) {w : World} {v : Value} (h : IsGuilds w v ps)
    (hB : Calls Tryz.prog 123 #[v, .int .i64 g] w fun e w' => e = .returned (.tuple #[.int .i64 (bnd ps g).1, .int .i64 (bnd ps g).2]) ∧ Below w.heap.size w w') :
    Calls Tryz.prog 100 #[v, .int .i64 g, .int .i64 lo, .int .i64 hi] w fun e w' => e = .returned (.tuple #[.int .i64 (narV (bnd ps g) lo hi).1, .int .i64 (narV (bnd ps g) lo hi).2]) ∧ Below w.heap.size w w' := by
  have HB := hide hB
  clear hB
  obtain ⟨a, cap, rfl, _⟩ := h
  unfold narV
  go_enter Tryz.func100, Tryz.ntmps100
  go_wp2_with fail
  refine (unhide HB).mono ?_
  rintro e w1 ⟨rfl, hb1⟩
  go_wp2_with (go_at_call 101; refine (specClamped_any _ _ _ _).mono ?_; rintro e w' ⟨rfl, rfl⟩)
  go_ret2
  exact ⟨rfl, hb1⟩

set_option maxRecDepth 100000 in
set_option maxHeartbeats 4000000 in
theorem l8Bounds_any {ps : List GuildV} (hg : guildsB ps = true) : ∀ (n : Nat) (g : Int) {w : World} {v : Value}, IsGuilds w v ps → -1 ≤ g → g < n → g < ps.length →
    Calls Tryz.prog 123 #[v, .int .i64 g] w fun e w' => e = .returned (.tuple #[.int .i64 (bnd ps g).1, .int .i64 (bnd ps g).2]) ∧ Below w.heap.size w w' := by
  intro n
  induction n with
  | zero =>
    intro g w v h h0 h1 h2
    obtain rfl : g = -1 := by omega
    rw [bnd_none ps (by omega)]
    obtain ⟨a, cap, rfl, _⟩ := h
    go_enter Tryz.func123, Tryz.ntmps123
    go_wp2_with fail
    go_ret2
    exact ⟨rfl, Below.refl _ _⟩
  | succ n ih =>
    intro g w v h h0 h1 h2
    by_cases hg0 : g < 0
    · obtain rfl : g = -1 := by omega
      rw [bnd_none ps (by omega)]
      obtain ⟨a, cap, rfl, _⟩ := h
      go_enter Tryz.func123, Tryz.ntmps123
      go_wp2_with fail
      go_ret2
      exact ⟨rfl, Below.refl _ _⟩
    · obtain ⟨k, rfl⟩ : ∃ k : Nat, g = k := ⟨g.toNat, by omega⟩
      have hlt : k < ps.length := by omega
      obtain ⟨a0, a1, _⟩ := guildsB_at hg (g := (k : Int)) (by omega) h2
      have hs := bnd_step hg (g := (k : Int)) (by omega) h2
      rw [show ((k : Int)).toNat = k by omega] at a0 a1 hs
      rw [hs]
      clear hs
      have Hi := hide h
      obtain ⟨a, cap, rfl, hc, hm, hr⟩ := h
      rcases hr with hz | ⟨b, off, rfl, hbw, hcl⟩
      · rw [hz] at hlt; simp at hlt
      obtain ⟨c0, c1, c2⟩ := guild_cells hcl hlt
      clear hcl
      generalize hp : recAt ps k = p at *
      obtain ⟨x0, x1, x2⟩ := p
      simp only at c0 c1 c2 a0 a1
      have k0 := cell_regrown c0
      have k1 := cell_regrown c1
      have k2 := cell_regrown c2
      have ih' := fun (w' : World) (h : IsGuilds w' (.slice (some ⟨b, off, none⟩) ps.length cap) ps) => l8Within_of x0 x1 x2 h (ih x0 h a0 (by omega) (by omega))
      have Ih := hide ih'
      clear ih ih' hp
      go_enter Tryz.func123, Tryz.ntmps123
      go_wp2_with fail
      refine wp_region_quiet_below (by kernel_rfl) (by kernel_rfl) ?_
      repeat (go_big_quiet_step (exact Calls.regrown_of (unhide Ih _ ((unhide Hi).below (below_regrown _ _ _)))))
      refine wpQuiet_nil ?_
      intro _ hw'
      obtain ⟨⟨dq, osq⟩, hw''⟩ := hw'
      subst hw''
      go_wp2_with fail
      go_ret2
      exact ⟨rfl, below_regrown _ _ _⟩

end Go.Proofs.YtffcgajndmhpkaaGreat

/- Smiths as eleven plain numbers: which are right, which are gone, what they are when charged and with another rank. Numbers alone; no condition but those that a theorem names. -/
namespace Go.Proofs.YtffcgajndmhpkaaGreat
open Go.ChangeShapes Go.WideShapes Go.ChangeAt Go.RowKit Go.Sort
set_option linter.unusedVariables false

/-- Each number is within its limits. -/
def presB (x : SmithV) : Bool :=
  inB x.1 1 3 && (inB x.2.1 0 7 && (inB x.2.2.1 (-5) 5 && (inB x.2.2.2.1 1 255 && (inB x.2.2.2.2.1 (-1) 5 && (pairB x.2.2.2.2.2.1 x.2.2.2.2.2.2.1 && (inB x.2.2.2.2.2.2.2.1 (-1000000000000) 1000000000000 &&
    (inB x.2.2.2.2.2.2.2.2.1 0 (weightV x.2.2.1 - 1) && (inB x.2.2.2.2.2.2.2.2.2.1 0 1024 && inB x.2.2.2.2.2.2.2.2.2.2 0 100000000000))))))))
/-- All are zero. -/
def zeroS : SmithV := (0, 0, 0, 0, 0, 0, 0, 0, 0, 0, 0)
/-- Number by number alike. -/
def sameB (x y : SmithV) : Bool := x.1 == y.1 && (x.2.1 == y.2.1 && (x.2.2.1 == y.2.2.1 && (x.2.2.2.1 == y.2.2.2.1 && (x.2.2.2.2.1 == y.2.2.2.2.1 && (x.2.2.2.2.2.1 == y.2.2.2.2.2.1 && (x.2.2.2.2.2.2.1 == y.2.2.2.2.2.2.1 && (x.2.2.2.2.2.2.2.1 == y.2.2.2.2.2.2.2.1 && (x.2.2.2.2.2.2.2.2.1 == y.2.2.2.2.2.2.2.2.1 && (x.2.2.2.2.2.2.2.2.2.1 == y.2.2.2.2.2.2.2.2.2.1 && (x.2.2.2.2.2.2.2.2.2.2 == y.2.2.2.2.2.2.2.2.2.2))))))))))
theorem sameB_refl (x : SmithV) : sameB x x = true := by unfold sameB; simp
theorem sameB_of {x y : SmithV} (h : sameB x y = true) : x = y := by
  obtain ⟨x0, x1, x2, x3, x4, x5, x6, x7, x8, x9, x10⟩ := x
  obtain ⟨y0, y1, y2, y3, y4, y5, y6, y7, y8, y9, y10⟩ := y
  unfold sameB at h
  simp only [Bool.and_eq_true, beq_iff_eq] at h
  obtain ⟨rfl, rfl, rfl, rfl, rfl, rfl, rfl, rfl, rfl, rfl, rfl⟩ := h
  rfl
def goneB (x : SmithV) : Bool := sameB x zeroS
def smithB (x : SmithV) : Bool := goneB x || presB x
theorem weight_in (r : Int) : 0 ≤ weightV r ∧ weightV r ≤ 3125 := by
  cases h : inB r (-5) 5
  · rw [weightV_none h]; omega
  · rcases ranks h with rfl | rfl | rfl | rfl | rfl | rfl | rfl | rfl | rfl | rfl | rfl <;> decide
theorem presB_of {st be rk my gu lo hi hd ca ut wk : Int} (h : presB (st, be, rk, my, gu, lo, hi, hd, ca, ut, wk) = true) : (1 ≤ st ∧ st ≤ 3) ∧ (0 ≤ be ∧ be ≤ 7) ∧ inB rk (-5) 5 = true ∧ (1 ≤ my ∧ my ≤ 255) ∧ (-1 ≤ gu ∧ gu ≤ 5) ∧ pairB lo hi = true ∧ (-1000000000000 ≤ hd ∧ hd ≤ 1000000000000) ∧ (0 ≤ ca ∧ ca ≤ weightV rk - 1) ∧ (0 ≤ ut ∧ ut ≤ 1024) ∧ (0 ≤ wk ∧ wk ≤ 100000000000) := by
  unfold presB at h
  simp only [Bool.and_eq_true] at h
  obtain ⟨h0, h1, h2, h3, h4, h5, h6, h7, h8, h9⟩ := h
  exact ⟨inB_of h0, inB_of h1, h2, inB_of h3, inB_of h4, h5, inB_of h6, inB_of h7, inB_of h8, inB_of h9⟩
theorem goneB_of {x : SmithV} (h : goneB x = true) : x = zeroS := sameB_of h
theorem goneB_zero : goneB zeroS = true := sameB_refl _
theorem goneB_st {x : SmithV} (h : x.1 ≠ 0) : goneB x = false := by
  cases hg : goneB x
  · rfl
  · exact absurd (show x.1 = 0 by rw [goneB_of hg]; rfl) h
theorem presB_st {x : SmithV} (h : x.1 = 0) : presB x = false := by
  unfold presB
  rw [h]
  rfl
end Go.Proofs.YtffcgajndmhpkaaGreat

/- Contracts of chapter 2's small functions and of their models: whether a number is a set, and whether a bench is in it. No condition but those that a theorem names. -/
namespace Go.Proofs.YtffcgajndmhpkaaGreat
open Go.ChangeShapes Go.WideShapes Go.ChangeAt Go.RowKit
set_option linter.unusedVariables false

theorem implSetOk_any (s : Int) (w : World) : Calls Tryz.prog 112 #[.int .i64 s] w fun e w' => e = .returned (.bool (inB s 0 255)) ∧ w' = w := by
  by_cases h1 : 0 ≤ s
  · by_cases h2 : s ≤ 255
    all_goals
      go_enter Tryz.func112, Tryz.ntmps112
      go_wp2
      go_ret
      exact ⟨ret_bool (by first | exact (inB_t h1 h2).symm | exact (inB_f (by omega)).symm), rfl⟩
  · go_enter Tryz.func112, Tryz.ntmps112
    go_wp2
    go_ret
    exact ⟨ret_bool (inB_f (by omega)).symm, rfl⟩

theorem isBench_any (i : Int) (w : World) : Calls Tryz.prog 113 #[.int .i64 i] w fun e w' => e = .returned (.bool (inB i 0 7)) ∧ w' = w := by
  by_cases h1 : 0 ≤ i
  · by_cases h2 : i < 8
    all_goals
      go_enter Tryz.func113, Tryz.ntmps113
      go_wp2
      go_ret
      exact ⟨ret_bool (by first | exact (inB_t h1 (by omega)).symm | exact (inB_f (by omega)).symm), rfl⟩
  · go_enter Tryz.func113, Tryz.ntmps113
    go_wp2
    go_ret
    exact ⟨ret_bool (inB_f (by omega)).symm, rfl⟩

/-- Whether the bit i of s is set. -/
def bitB (s i : Int) : Bool := decide (s / 2 ^ i.toNat % 2 = 1)
/-- Whether the bench i is in the set s. -/
def memB (s i : Int) : Bool := inB s 0 255 && inB i 0 7 && bitB s i

theorem i64_and1 (n : Int) : bits .and .i64 n 1 = n % 2 := by
  have h1 : (BitVec.ofInt 64 1).toNat = 2 ^ 1 - 1 := by decide
  have key : (BitVec.ofInt 64 n &&& BitVec.ofInt 64 1).toNat = (n % ((2 ^ 64 : Nat) : Int)).toNat % 2 ^ 1 := by
    rw [BitVec.toNat_and, BitVec.toNat_ofInt, h1, Nat.and_two_pow_sub_one_eq_mod]
  show IntKind.i64.wrap ((BitVec.ofInt 64 n &&& BitVec.ofInt 64 1).toNat : Nat) = n % 2
  rw [key, IntKind.wrap_i64]
  omega
theorem bit_eq (s i : Int) : (bits .and .i64 (s / 2 ^ i.toNat) 1 == 1) = bitB s i := by rw [i64_and1]; unfold bitB; rfl
theorem memB_f {s i : Int} (h : inB s 0 255 = false ∨ inB i 0 7 = false) : memB s i = false := by unfold memB; rcases h with h | h <;> simp [h]
theorem memB_t {s i : Int} (hs : inB s 0 255 = true) (hi : inB i 0 7 = true) : memB s i = bitB s i := by unfold memB; simp [hs, hi]

theorem l2Has_any (s i : Int) (w : World) (hs : 0 ≤ s) (hs2 : s ≤ 255) (hi : 0 ≤ i) (hi2 : i ≤ 7) : Calls Tryz.prog 54 #[.int .i64 s, .int .i64 i] w fun e w' => e = .returned (.bool (bitB s i)) ∧ w' = w := by
  go_enter Tryz.func54, Tryz.ntmps54
  go_wp2
  go_ret
  exact ⟨ret_bool (bit_eq s i), rfl⟩

theorem implInSet_any (s i : Int) (w : World) : Calls Tryz.prog 88 #[.int .i64 s, .int .i64 i] w fun e w' => e = .returned (.bool (memB s i)) ∧ w' = w := by
  by_cases hb : inB s 0 255 = true
  · obtain ⟨hs, hs2⟩ := inB_of hb
    by_cases hc : inB i 0 7 = true
    · obtain ⟨hi, hi2⟩ := inB_of hc
      go_enter Tryz.func88, Tryz.ntmps88
      go_wp2_with (first | (go_at_call 112; refine (implSetOk_any _ _).mono ?_; rintro e w' ⟨rfl, rfl⟩) | (go_at_call 113; refine (isBench_any _ _).mono ?_; rintro e w' ⟨rfl, rfl⟩))
      go_ret
      exact ⟨ret_bool ((bit_eq s i).trans (memB_t hb hc).symm), rfl⟩
    · have hc' : inB i 0 7 = false := by simpa using hc
      go_enter Tryz.func88, Tryz.ntmps88
      go_wp2_with (first | (go_at_call 112; refine (implSetOk_any _ _).mono ?_; rintro e w' ⟨rfl, rfl⟩) | (go_at_call 113; refine (isBench_any _ _).mono ?_; rintro e w' ⟨rfl, rfl⟩))
      go_ret
      exact ⟨ret_bool (memB_f (.inr hc')).symm, rfl⟩
  · have hb' : inB s 0 255 = false := by simpa using hb
    go_enter Tryz.func88, Tryz.ntmps88
    go_wp2_with (first | (go_at_call 112; refine (implSetOk_any _ _).mono ?_; rintro e w' ⟨rfl, rfl⟩) | (go_at_call 113; refine (isBench_any _ _).mono ?_; rintro e w' ⟨rfl, rfl⟩))
    go_ret
    exact ⟨ret_bool (memB_f (.inl hb')).symm, rfl⟩

end Go.Proofs.YtffcgajndmhpkaaGreat

/- Smithies as plain lists: which are right. Lists and numbers alone; no condition but those that a theorem names. -/
namespace Go.Proofs.YtffcgajndmhpkaaGreat
open Go.ChangeShapes Go.WideShapes Go.ChangeAt Go.RowKit Go.Sort
set_option linter.unusedVariables false

/-- Who waits or works. -/
def presS (s : SmithV) : Bool := s.1 == 2 || s.1 == 3
def bandB (had mark : Int) : Bool := inB had (-1000000000000) 1000000000000 && (inB mark (-1000000000000) 1000000000000 && inB (had - mark) (-20000) 63000)
def deskB (d : DeskV) : Bool := inB d.2.2 (-900000000000) 900000000000
def paceInB (m : SmyV) (j : Nat) : Bool := inB (recAt m.paces j) 0 (((roomAt m.rooms j).2.length : Int) - 1)
/-- A right smith whose guild and bench are there. -/
def hereB (m : SmyV) (s : SmithV) : Bool := smithB s && (s.1 == 0 || (decide (s.2.2.2.2.1 < m.guilds.length) && decide (s.2.1 < m.desks.length)))
/-- Who waits or works is at an open bench that is in its May, and in the band. -/
def seatB (m : SmyV) (s : SmithV) : Bool := !presS s || ((recAt m.desks s.2.1.toNat).1 && (bitB s.2.2.2.1 s.2.1 && bandB s.2.2.2.2.2.2.2.1 (recAt m.desks s.2.1.toNat).2.2))
def headB (m : SmyV) : Bool := hallB m.rooms && (guildsB m.guilds && (decide (m.smiths.length ≤ 12) && (decide ((m.desks.length : Int) = benchSum m.rooms) && (decide (m.paces.length = m.rooms.length) && inB m.now 0 1000000))))
def upDesks (m : SmyV) (k : Nat) : Bool := (List.range k).all fun j => deskB (recAt m.desks j)
def upOpen (m : SmyV) (k : Nat) : Bool := (List.range k).any fun j => (recAt m.desks j).1
def upPaces (m : SmyV) (k : Nat) : Bool := (List.range k).all fun j => paceInB m j
def upSmiths (m : SmyV) (k : Nat) : Bool := (List.range k).all fun j => hereB m (recAt m.smiths j) && seatB m (recAt m.smiths j)
/-- Right, but for who works. -/
def looseB (m : SmyV) : Bool := headB m && (upDesks m m.desks.length && (upPaces m m.paces.length && (upSmiths m m.smiths.length && upOpen m m.desks.length)))

theorem all_up {p : Nat → Bool} (k : Nat) : (List.range (k + 1)).all p = ((List.range k).all p && p k) := by rw [List.range_succ, List.all_append]; simp
theorem any_up {p : Nat → Bool} (k : Nat) : (List.range (k + 1)).any p = ((List.range k).any p || p k) := by rw [List.range_succ, List.any_append]; simp
theorem all_no {p : Nat → Bool} {k n : Nat} (hk : k < n) (h : p k = false) : (List.range n).all p = false := by
  rw [List.all_eq_false]
  exact ⟨k, List.mem_range.2 hk, by simp [h]⟩
theorem all_at {p : Nat → Bool} {k n : Nat} (h : (List.range n).all p = true) (hk : k < n) : p k = true := List.all_eq_true.1 h k (List.mem_range.2 hk)
theorem looseB_head {m : SmyV} (h : headB m = false) : looseB m = false := by unfold looseB; rw [h]; rfl
theorem looseB_desk {m : SmyV} {k : Nat} (hk : k < m.desks.length) (h : deskB (recAt m.desks k) = false) : looseB m = false := by
  unfold looseB upDesks
  rw [all_no hk h]; simp
theorem looseB_pace {m : SmyV} {k : Nat} (hk : k < m.paces.length) (h : paceInB m k = false) : looseB m = false := by
  unfold looseB upPaces
  rw [all_no (p := fun j => paceInB m j) hk h]; simp
theorem looseB_smith {m : SmyV} {k : Nat} (hk : k < m.smiths.length) (h : (hereB m (recAt m.smiths k) && seatB m (recAt m.smiths k)) = false) : looseB m = false := by
  unfold looseB upSmiths
  rw [all_no (p := fun j => hereB m (recAt m.smiths j) && seatB m (recAt m.smiths j)) hk h]; simp
theorem looseB_all {m : SmyV} (h1 : headB m = true) (h2 : upDesks m m.desks.length = true) (h3 : upPaces m m.paces.length = true) (h4 : upSmiths m m.smiths.length = true) : looseB m = upOpen m m.desks.length := by
  unfold looseB; rw [h1, h2, h3, h4]; rfl
theorem hereB_of {m : SmyV} {s : SmithV} (h : hereB m s = true) (hp : presS s = true) : 0 ≤ s.2.1 ∧ s.2.1 < m.desks.length ∧ s.2.1 ≤ 7 ∧ 1 ≤ s.2.2.2.1 ∧ s.2.2.2.1 ≤ 255 ∧ s.2.2.2.2.1 < m.guilds.length := by
  obtain ⟨st, be, rk, my, gu, lo, hi, hd, ca, ut, wk⟩ := s
  have hst : st ≠ 0 := by
    intro e
    subst e
    cases hp
  unfold hereB at h
  simp only [Bool.and_eq_true, Bool.or_eq_true, decide_eq_true_eq] at h
  obtain ⟨h1, h2⟩ := h
  rcases h2 with h2 | ⟨h2, h3⟩
  · exact absurd (by simpa using h2) hst
  · have hs : smithB (st, be, rk, my, gu, lo, hi, hd, ca, ut, wk) = presB (st, be, rk, my, gu, lo, hi, hd, ca, ut, wk) := by unfold smithB; rw [goneB_st hst, Bool.false_or]
    rw [hs] at h1
    obtain ⟨_, ⟨b0, b1⟩, _, ⟨m0, m1⟩, _⟩ := presB_of h1
    exact ⟨b0, h3, b1, m0, m1, h2⟩

/-- Of the first k smiths: who works at b (-1: nobody), and whether one waits there; none where two work. -/
def scanV (ss : List SmithV) (b : Int) : Nat → Option (Int × Bool)
  | 0 => some (-1, false)
  | k + 1 => match scanV ss b k with
    | none => none
    | some (wk, wt) => if (recAt ss k).2.1 = b ∧ presS (recAt ss k) = true then (if (recAt ss k).1 = 2 then some (wk, true) else if 0 ≤ wk then none else some ((k : Int), wt)) else some (wk, wt)
def benchOkB (m : SmyV) (b : Nat) : Bool := match scanV m.smiths b m.smiths.length with
  | none => false
  | some (wk, wt) => (recAt m.desks b).2.1 == wk && !(wt && decide (wk < 0))
def smyB (m : SmyV) : Bool := looseB m && (List.range m.desks.length).all (benchOkB m)

end Go.Proofs.YtffcgajndmhpkaaGreat

/- Heaps and queues of pairs of numbers, as lists: the order, what a heap is and how it is mended, what queues are, how one is put in and taken out. Nothing of the program. -/
namespace Go.Proofs.YtffcgajndmhpkaaGreat
set_option linter.unusedVariables false

/-! ### The order of entries -/
/-- By Had, then by Who. -/
def ltB (a b : PaceV) : Bool := decide (a.1 < b.1 ∨ (a.1 = b.1 ∧ a.2 < b.2))
theorem paceAt_take {ps : List PaceV} {n k : Nat} (h : k < n) : paceAt (ps.take n) k = paceAt ps k := by unfold paceAt; simp [List.getD, h]
theorem paceAt_mem {ps : List PaceV} {k : Nat} (h : k < ps.length) : paceAt ps k ∈ ps := by unfold paceAt; simp [List.getD, h]
/-- How many are less, ahead of the first that isn't. -/
def lessN (e : PaceV) : List PaceV → Nat
  | [] => 0
  | p :: ps => if ltB p e then lessN e ps + 1 else 0
def putV (ps : List PaceV) (e : PaceV) : List PaceV := ps.take (lessN e ps) ++ e :: ps.drop (lessN e ps)
theorem lessN_le (e : PaceV) : ∀ ps : List PaceV, lessN e ps ≤ ps.length
  | [] => Nat.le_refl _
  | p :: ps => by have := lessN_le e ps; unfold lessN; split <;> simp <;> omega
theorem lessN_lt (e : PaceV) : ∀ (ps : List PaceV) (k : Nat), k < lessN e ps → ltB (paceAt ps k) e = true
  | [], k, h => by simp [lessN] at h
  | p :: ps, k, h => by
    unfold lessN at h
    split at h
    · cases k with
      | zero => simpa [paceAt] using ‹ltB p e = true›
      | succ k =>
        have := lessN_lt e ps k (by omega)
        simpa [paceAt] using this
    · omega
theorem lessN_at (e : PaceV) : ∀ (ps : List PaceV), lessN e ps < ps.length → ltB (paceAt ps (lessN e ps)) e = false
  | [], h => by simp at h
  | p :: ps, h => by
    unfold lessN at h ⊢
    by_cases hp : ltB p e = true
    · rw [if_pos hp] at h ⊢
      have := lessN_at e ps (by simpa using h)
      simpa [paceAt] using this
    · rw [if_neg hp] at h ⊢
      simpa [paceAt] using hp
theorem lessN_eq {e : PaceV} {ps : List PaceV} {k : Nat} (hk : k ≤ ps.length) (h : ∀ j, j < k → ltB (paceAt ps j) e = true) (hn : k = ps.length ∨ ltB (paceAt ps k) e = false) : lessN e ps = k := by
  rcases Nat.lt_trichotomy (lessN e ps) k with h1 | h1 | h1
  · have h2 := lessN_at e ps (by omega)
    rw [h _ h1] at h2; cases h2
  · exact h1
  · rcases hn with hn | hn
    · have := lessN_le e ps; omega
    · have := lessN_lt e ps k h1
      rw [hn] at this; cases this
theorem putV_perm (ps : List PaceV) (e : PaceV) : (putV ps e).Perm (ps ++ [e]) := by
  unfold putV
  have h1 : (ps.take (lessN e ps) ++ e :: ps.drop (lessN e ps)).Perm (e :: (ps.take (lessN e ps) ++ ps.drop (lessN e ps))) := List.perm_middle
  rw [List.take_append_drop] at h1
  exact h1.trans (List.perm_append_comm (l₁ := [e]) (l₂ := ps))
theorem putV_len (ps : List PaceV) (e : PaceV) : (putV ps e).length = ps.length + 1 := by have := (putV_perm ps e).length_eq; simpa using this
end Go.Proofs.YtffcgajndmhpkaaGreat

/- Who is at a bench, as plain lists: who is in the queue, and that its first one had least. Lists and numbers alone; no condition but those that a theorem names. -/
namespace Go.Proofs.YtffcgajndmhpkaaGreat
open Go.ChangeShapes Go.WideShapes Go.ChangeAt Go.RowKit Go.Sort
set_option linter.unusedVariables false

/-- Of the first k smiths those that are at b, as a queue. -/
def atV (ss : List SmithV) (b : Int) : Nat → List PaceV
  | 0 => []
  | k + 1 => if (recAt ss k).2.1 = b ∧ presS (recAt ss k) = true then putV (atV ss b k) ((recAt ss k).2.2.2.2.2.2.2.1, (k : Int)) else atV ss b k
theorem atV_len (ss : List SmithV) (b : Int) : ∀ k, (atV ss b k).length ≤ k
  | 0 => Nat.le_refl _
  | k + 1 => by
    have := atV_len ss b k
    unfold atV
    split
    · rw [putV_len]; omega
    · omega
theorem atV_no {ss : List SmithV} {b : Int} {k : Nat} (h : ¬ ((recAt ss k).2.1 = b ∧ presS (recAt ss k) = true)) : atV ss b (k + 1) = atV ss b k := by rw [atV, if_neg h]
theorem atV_yes {ss : List SmithV} {b : Int} {k : Nat} (h1 : (recAt ss k).2.1 = b) (h2 : presS (recAt ss k) = true) : atV ss b (k + 1) = putV (atV ss b k) ((recAt ss k).2.2.2.2.2.2.2.1, (k : Int)) := by rw [atV, if_pos ⟨h1, h2⟩]

def hadS (s : SmithV) : Int := s.2.2.2.2.2.2.2.1
theorem putV_mem {ps : List PaceV} {x e : PaceV} : e ∈ putV ps x ↔ e ∈ ps ∨ e = x := by
  rw [(putV_perm ps x).mem_iff]; simp
theorem atV_mem (ss : List SmithV) (b : Int) (e : PaceV) : ∀ k, e ∈ atV ss b k ↔ ∃ i : Nat, i < k ∧ (recAt ss i).2.1 = b ∧ presS (recAt ss i) = true ∧ e = (hadS (recAt ss i), (i : Int))
  | 0 => by simp [atV]
  | k + 1 => by
    have ih := atV_mem ss b e k
    by_cases h : (recAt ss k).2.1 = b ∧ presS (recAt ss k) = true
    · rw [atV_yes h.1 h.2, putV_mem, ih]
      constructor
      · rintro (⟨i, hi, h1, h2, h3⟩ | h3)
        · exact ⟨i, by omega, h1, h2, h3⟩
        · exact ⟨k, by omega, h.1, h.2, h3⟩
      · rintro ⟨i, hi, h1, h2, h3⟩
        by_cases hik : i = k
        · subst hik; exact .inr h3
        · exact .inl ⟨i, by omega, h1, h2, h3⟩
    · rw [atV_no h, ih]
      constructor
      · rintro ⟨i, hi, h1, h2, h3⟩
        exact ⟨i, by omega, h1, h2, h3⟩
      · rintro ⟨i, hi, h1, h2, h3⟩
        by_cases hik : i = k
        · subst hik; exact absurd ⟨h1, h2⟩ h
        · exact ⟨i, by omega, h1, h2, h3⟩
end Go.Proofs.YtffcgajndmhpkaaGreat

/- Hads and marks as plain numbers: the band, what is placed, moved and marked. Numbers alone; no condition but those that a theorem names. -/
namespace Go.Proofs.YtffcgajndmhpkaaGreat
set_option linter.unusedVariables false

def hadB (x : Int) : Bool := inB x (-1000000000000) 1000000000000
def inBandB (h m : Int) : Bool := (hadB h && hadB m) && inB (h - m) (-20000) 63000
theorem had_of {x : Int} (h : hadB x = true) : -1000000000000 ≤ x ∧ x ≤ 1000000000000 := inB_of h
theorem hads2 (x y : Int) : ([x, y].all fun z => inB z (-1000000000000) 1000000000000) = (hadB x && hadB y) := by simp [hadB]
theorem band_at (h m : Int) : ([h].all fun z => inB z (m - 20000) (m + 63000)) = inB (h - m) (-20000) 63000 := by
  simp only [List.all_cons, List.all_nil, Bool.and_true]
  unfold inB
  congr 1
  exact propext ⟨fun h => by omega, fun h => by omega⟩

end Go.Proofs.YtffcgajndmhpkaaGreat

/- A smithy that is turned, as plain lists: the first one at each bench works, all others there wait; and turned it is right, where it was right but for who works. Lists and numbers alone; no condition but those that a theorem names. -/
namespace Go.Proofs.YtffcgajndmhpkaaGreat
open Go.ChangeShapes Go.WideShapes Go.ChangeAt Go.RowKit Go.Sort
set_option linter.unusedVariables false

structure Loose (m : SmyV) : Prop where
  head : headB m = true
  desk : ∀ j, j < m.desks.length → deskB (recAt m.desks j) = true
  pace : ∀ j, j < m.paces.length → paceInB m j = true
  here : ∀ i, i < m.smiths.length → hereB m (recAt m.smiths i) = true
  seat : ∀ i, i < m.smiths.length → seatB m (recAt m.smiths i) = true
  openD : ∃ j, j < m.desks.length ∧ (recAt m.desks j).1 = true
theorem loose_of {m : SmyV} (h : looseB m = true) : Loose m := by
  unfold looseB upDesks upPaces upSmiths upOpen at h
  simp only [Bool.and_eq_true] at h
  obtain ⟨h1, h2, h3, h4, h5⟩ := h
  have h4' := fun i hi => all_at h4 (k := i) hi
  simp only [Bool.and_eq_true] at h4'
  obtain ⟨j, hj, ho⟩ := List.any_eq_true.1 h5
  exact ⟨h1, fun j hj => all_at h2 hj, fun j hj => all_at h3 hj, fun i hi => (h4' i hi).1, fun i hi => (h4' i hi).2, j, List.mem_range.1 hj, ho⟩
end Go.Proofs.YtffcgajndmhpkaaGreat

/- What the program asks of a smithy, as plain lists; and that it is what the model asks. Lists and numbers alone; no condition but those that a theorem names. -/
namespace Go.Proofs.YtffcgajndmhpkaaGreat
open Go.ChangeShapes Go.WideShapes Go.ChangeAt Go.RowKit Go.Sort
set_option linter.unusedVariables false

/-- Of the first k, the places where it is so. -/
def whereTo {α : Type} [Inhabited α] (p : α → Bool) (xs : List α) : Nat → List Int
  | 0 => []
  | k + 1 => if p (recAt xs k) then whereTo p xs k ++ [(k : Int)] else whereTo p xs k
theorem whereTo_yes {α : Type} [Inhabited α] {p : α → Bool} {xs : List α} {k : Nat} (h : p (recAt xs k) = true) : whereTo p xs (k + 1) = whereTo p xs k ++ [(k : Int)] := by rw [whereTo, if_pos h]
theorem whereTo_no {α : Type} [Inhabited α] {p : α → Bool} {xs : List α} {k : Nat} (h : p (recAt xs k) = false) : whereTo p xs (k + 1) = whereTo p xs k := by rw [whereTo, if_neg (by simp [h])]
theorem whereTo_len {α : Type} [Inhabited α] (p : α → Bool) (xs : List α) : ∀ k, (whereTo p xs k).length ≤ k
  | 0 => Nat.le_refl _
  | k + 1 => by
    have := whereTo_len p xs k
    unfold whereTo
    split
    · simp; omega
    · omega
theorem whereTo_mem {α : Type} [Inhabited α] (p : α → Bool) (xs : List α) (x : Int) : ∀ k, x ∈ whereTo p xs k ↔ ∃ i : Nat, i < k ∧ x = (i : Int) ∧ p (recAt xs i) = true
  | 0 => by simp [whereTo]
  | k + 1 => by
    have ih := whereTo_mem p xs x k
    cases h : p (recAt xs k)
    · rw [whereTo_no h, ih]
      constructor
      · rintro ⟨i, hi, h1, h2⟩
        exact ⟨i, by omega, h1, h2⟩
      · rintro ⟨i, hi, h1, h2⟩
        by_cases hik : i = k
        · subst hik; rw [h] at h2; cases h2
        · exact ⟨i, by omega, h1, h2⟩
    · rw [whereTo_yes h, List.mem_append, ih]
      constructor
      · rintro (⟨i, hi, h1, h2⟩ | h1)
        · exact ⟨i, by omega, h1, h2⟩
        · exact ⟨k, by omega, by simpa using h1, h⟩
      · rintro ⟨i, hi, h1, h2⟩
        by_cases hik : i = k
        · subst hik; right; simp [h1]
        · exact .inl ⟨i, by omega, h1, h2⟩
theorem whereTo_any {α : Type} [Inhabited α] (p : α → Bool) (xs : List α) : ∀ k, decide (0 < (whereTo p xs k).length) = (List.range k).any fun j => p (recAt xs j)
  | 0 => rfl
  | k + 1 => by
    have ih := whereTo_any p xs k
    rw [any_up, ← ih]
    cases h : p (recAt xs k)
    · rw [whereTo_no h]; simp
    · rw [whereTo_yes h]; simp
def allTo {α : Type} [Inhabited α] (p : α → Bool) (xs : List α) (k : Nat) : Bool := (List.range k).all fun j => p (recAt xs j)
theorem allTo_no {α : Type} [Inhabited α] {p : α → Bool} {xs : List α} {k n : Nat} (hk : k < n) (h : p (recAt xs k) = false) : allTo p xs n = false := all_no (p := fun j => p (recAt xs j)) hk h
theorem allTo_up {α : Type} [Inhabited α] {p : α → Bool} {xs : List α} {k : Nat} (h : allTo p xs k = true) (h2 : p (recAt xs k) = true) : allTo p xs (k + 1) = true := by unfold allTo at h ⊢; rw [all_up, h, h2]; rfl
theorem allTo_and {α : Type} [Inhabited α] (p q : α → Bool) (xs : List α) : ∀ k, (allTo p xs k && allTo q xs k) = allTo (fun x => p x && q x) xs k
  | 0 => rfl
  | k + 1 => by
    have ih := allTo_and p q xs k
    unfold allTo at ih ⊢
    rw [all_up, all_up, all_up, ← ih]
    generalize ((List.range k).all fun j => p (recAt xs j)) = a
    generalize ((List.range k).all fun j => q (recAt xs j)) = b
    cases a <;> cases b <;> cases hp : p (recAt xs k) <;> cases hq : q (recAt xs k) <;> simp [hp, hq]
theorem allTo_congr {α : Type} [Inhabited α] {p q : α → Bool} (xs : List α) (h : ∀ x, p x = q x) (k : Nat) : allTo p xs k = allTo q xs k := by unfold allTo; congr 1; funext j; exact h _

def hasB (n : Nat) (i : Int) : Bool := decide (0 ≤ i) && decide (i < n)
def atB (b : Int) (s : SmithV) : Bool := (s.1 == 2 || s.1 == 3) && s.2.1 == b
def worksB (b : Int) (s : SmithV) : Bool := s.1 == 3 && s.2.1 == b
def thereB (n : Nat) (s : SmithV) : Bool := s.1 == 0 || (s.2.2.2.2.1 == -1 || hasB n s.2.2.2.2.1)
def placeB (ds : List DeskV) (s : SmithV) : Bool := s.1 == 0 || (hasB ds.length s.2.1 && (s.1 == 1 || ((recAt ds s.2.1.toNat).1 && (memB s.2.2.2.1 s.2.1 && inBandB s.2.2.2.2.2.2.2.1 (recAt ds s.2.1.toNat).2.2))))
def smithsIB (ss : List SmithV) (n : Nat) : Bool := decide (ss.length ≤ 12) && (allTo smithB ss ss.length && allTo (thereB n) ss ss.length)
def desksIB (ds : List DeskV) (n : Int) : Bool := decide ((ds.length : Int) = n) && (allTo deskB ds ds.length && decide (0 < (whereTo (fun d : DeskV => d.1) ds ds.length).length))
def pacesIB (ps : List Int) (rs : List RoomV) : Bool := decide (ps.length = rs.length) && (List.range ps.length).all fun j => hasB (roomAt rs j).2.length (recAt ps j)
def partsIB (m : SmyV) : Bool := hallB m.rooms && (guildsB m.guilds && (smithsIB m.smiths m.guilds.length && (desksIB m.desks (benchSum m.rooms) && (pacesIB m.paces m.rooms && inB m.now 0 1000000))))
def inPlaceIB (m : SmyV) : Bool := partsIB m && allTo (placeB m.desks) m.smiths m.smiths.length
def turnIB (m : SmyV) (b : Nat) : Bool := if (recAt m.desks b).2.1 = -1 then decide ((whereTo (atB b) m.smiths m.smiths.length).length = 0) else decide ((whereTo (worksB b) m.smiths m.smiths.length).length = 1) && decide (recAt (whereTo (worksB b) m.smiths m.smiths.length) 0 = (recAt m.desks b).2.1)
def turnsIB (m : SmyV) : Bool := (List.range m.desks.length).all (turnIB m)
def smyIB (m : SmyV) : Bool := inPlaceIB m && turnsIB m

theorem band_same (h m : Int) : inBandB h m = bandB h m := by
  unfold inBandB bandB hadB
  rw [Bool.and_assoc]
theorem one_same (m : SmyV) (s : SmithV) : (smithB s && (thereB m.guilds.length s && placeB m.desks s)) = (hereB m s && seatB m s) := by
  cases hs : smithB s
  · unfold hereB; rw [hs]; rfl
  · have hh : hereB m s = (s.1 == 0 || (decide (s.2.2.2.2.1 < m.guilds.length) && decide (s.2.1 < m.desks.length))) := by unfold hereB; rw [hs]; rfl
    rw [hh, Bool.true_and]
    unfold smithB at hs
    simp only [Bool.or_eq_true] at hs
    rcases hs with hg | hp
    · have e := goneB_of hg
      subst e
      rfl
    · obtain ⟨st, be, rk, my, gu, lo, hi, hd, ca, ut, wk⟩ := s
      obtain ⟨⟨s1, s2⟩, ⟨b1, b2⟩, _, ⟨m1, m2⟩, ⟨g1, g2⟩, _⟩ := presB_of hp
      have hmem : memB my be = bitB my be := memB_t (inB_t (by omega) (by omega)) (inB_t (by omega) (by omega))
      have hst0 : (st == 0) = false := by simp; omega
      have hgu : (gu == -1 || hasB m.guilds.length gu) = decide (gu < m.guilds.length) := by
        unfold hasB
        by_cases e : gu = -1
        · subst e; simp; omega
        · have : (gu == -1) = false := by simpa using e
          rw [this, Bool.false_or, show decide (0 ≤ gu) = true from decide_eq_true (by omega), Bool.true_and]
      have hbe : hasB m.desks.length be = decide (be < m.desks.length) := by
        unfold hasB
        rw [show decide (0 ≤ be) = true from decide_eq_true (by omega), Bool.true_and]
      have hpr : presS (st, be, rk, my, gu, lo, hi, hd, ca, ut, wk) = !(st == 1) := by
        unfold presS
        rcases (by omega : st = 1 ∨ st = 2 ∨ st = 3) with e | e | e <;> subst e <;> rfl
      unfold thereB placeB seatB
      simp only
      rw [hst0, hgu, hbe, hpr, hmem, band_same, Bool.not_not]
      simp only [Bool.false_or, Bool.and_assoc]
theorem scan_same (ss : List SmithV) (b : Int) : ∀ k : Nat,
    (match scanV ss b k with
      | none => 2 ≤ (whereTo (worksB b) ss k).length
      | some (wk, wt) => ((wk = -1 ∧ whereTo (worksB b) ss k = []) ∨ (0 ≤ wk ∧ whereTo (worksB b) ss k = [wk])) ∧ ((whereTo (atB b) ss k = []) ↔ (whereTo (worksB b) ss k = [] ∧ wt = false)))
  | 0 => by simp [scanV, whereTo]
  | k + 1 => by
    have ih := scan_same ss b k
    unfold scanV
    cases hsc : scanV ss b k with
    | none =>
      rw [hsc] at ih
      simp only at ih ⊢
      unfold whereTo
      split
      · simp; omega
      · exact ih
    | some r =>
      obtain ⟨wk, wt⟩ := r
      rw [hsc] at ih
      simp only at ih ⊢
      by_cases hat : (recAt ss k).2.1 = b ∧ presS (recAt ss k) = true
      · rw [if_pos hat]
        have hA : atB b (recAt ss k) = true := by
          have h2 := hat.2
          unfold presS at h2
          unfold atB
          rw [h2, hat.1]; simp
        by_cases h2 : (recAt ss k).1 = 2
        · rw [if_pos h2]
          have hW : worksB b (recAt ss k) = false := by unfold worksB; rw [h2]; rfl
          rw [whereTo_no hW, whereTo_yes hA]
          exact ⟨ih.1, by simp⟩
        · rw [if_neg h2]
          have h3 : (recAt ss k).1 = 3 := by
            have := hat.2
            unfold presS at this
            simp only [Bool.or_eq_true, beq_iff_eq] at this
            omega
          have hW : worksB b (recAt ss k) = true := by unfold worksB; rw [h3, hat.1]; simp
          rw [whereTo_yes hW, whereTo_yes hA]
          by_cases hwk : 0 ≤ wk
          · rw [if_pos hwk]
            rcases ih.1 with ⟨e, _⟩ | ⟨_, e⟩
            · omega
            · simp only
              rw [e]; simp
          · rw [if_neg hwk]
            rcases ih.1 with ⟨_, e⟩ | ⟨e, _⟩
            · simp only
              rw [e]; simp
            · omega
      · rw [if_neg hat]
        have hA : atB b (recAt ss k) = false := by
          cases hc : atB b (recAt ss k)
          · rfl
          · exfalso
            apply hat
            unfold atB at hc
            simp only [Bool.and_eq_true, beq_iff_eq] at hc
            exact ⟨hc.2, by unfold presS; exact hc.1⟩
        have hW : worksB b (recAt ss k) = false := by
          cases hc : worksB b (recAt ss k)
          · rfl
          · exfalso
            apply hat
            unfold worksB at hc
            simp only [Bool.and_eq_true, beq_iff_eq] at hc
            exact ⟨hc.2, by unfold presS; rw [hc.1]; rfl⟩
        rw [whereTo_no hW, whereTo_no hA]
        exact ih
theorem turn_same (m : SmyV) (b : Nat) : turnIB m b = benchOkB m b := by
  have h := scan_same m.smiths b m.smiths.length
  unfold turnIB benchOkB
  cases hsc : scanV m.smiths b m.smiths.length with
  | none =>
    rw [hsc] at h
    simp only at h ⊢
    split
    · have : whereTo (atB b) m.smiths m.smiths.length ≠ [] := by
        intro e
        have hx : recAt (whereTo (worksB b) m.smiths m.smiths.length) 0 ∈ whereTo (worksB b) m.smiths m.smiths.length := recAt_mem (by omega)
        obtain ⟨i, hi, _, hw⟩ := (whereTo_mem _ _ _ _).1 hx
        have : (i : Int) ∈ whereTo (atB b) m.smiths m.smiths.length := (whereTo_mem _ _ _ _).2 ⟨i, hi, rfl, by
          unfold worksB at hw
          simp only [Bool.and_eq_true, beq_iff_eq] at hw
          unfold atB
          rw [hw.1, hw.2]; simp⟩
        rw [e] at this
        cases this
      simp only [List.length_eq_zero_iff, this, decide_false]
    · rw [show decide ((whereTo (worksB b) m.smiths m.smiths.length).length = 1) = false from decide_eq_false (by omega), Bool.false_and]
  | some r =>
    obtain ⟨wk, wt⟩ := r
    rw [hsc] at h
    simp only at h ⊢
    obtain ⟨h1, h2⟩ := h
    generalize whereTo (worksB b) m.smiths m.smiths.length = ws at *
    generalize whereTo (atB b) m.smiths m.smiths.length = az at *
    generalize (recAt m.desks b).2.1 = who at *
    by_cases hw : who = -1
    · subst hw
      simp only [if_true, List.length_eq_zero_iff]
      rcases h1 with ⟨rfl, rfl⟩ | ⟨hk, rfl⟩
      · cases wt
        · simp at h2; simp [h2]
        · simp at h2; simp [h2]
      · have hne : az ≠ [] := by
          intro e
          have := (h2.1 e).1
          cases this
        have : ((-1 : Int) == wk) = false := by simp; omega
        rw [this]
        simp [hne]
    · rw [if_neg hw]
      rcases h1 with ⟨rfl, rfl⟩ | ⟨hk, rfl⟩
      · have : (who == -1) = false := by simpa using hw
        rw [this]; simp
      · have h0 : decide (wk < 0) = false := decide_eq_false (by omega)
        rw [h0, Bool.and_false, Bool.not_false, Bool.and_true]
        simp only [List.length_cons, List.length_nil, decide_true, Bool.true_and]
        show decide (wk = who) = (who == wk)
        by_cases e : wk = who
        · subst e; simp
        · rw [decide_eq_false e]; symm; simp; omega
theorem has_in (n : Nat) (i : Int) : hasB n i = inB i 0 ((n : Int) - 1) := by
  unfold hasB inB
  by_cases h0 : 0 ≤ i <;> by_cases h1 : i < n
  · rw [decide_eq_true h0, decide_eq_true h1, decide_eq_true (show 0 ≤ i ∧ i ≤ (n : Int) - 1 by omega)]; rfl
  · rw [decide_eq_true h0, decide_eq_false h1, decide_eq_false (show ¬ (0 ≤ i ∧ i ≤ (n : Int) - 1) by omega)]; rfl
  · rw [decide_eq_false h0, decide_eq_false (show ¬ (0 ≤ i ∧ i ≤ (n : Int) - 1) by omega)]; rfl
  · rw [decide_eq_false h0, decide_eq_false (show ¬ (0 ≤ i ∧ i ≤ (n : Int) - 1) by omega)]; rfl
theorem loose_same (m : SmyV) : inPlaceIB m = looseB m := by
  have e1 : upSmiths m m.smiths.length = (allTo smithB m.smiths m.smiths.length && (allTo (thereB m.guilds.length) m.smiths m.smiths.length && allTo (placeB m.desks) m.smiths m.smiths.length)) := by
    rw [allTo_and, allTo_and]
    exact (allTo_congr m.smiths (one_same m) m.smiths.length).symm
  have e2 : pacesIB m.paces m.rooms = (decide (m.paces.length = m.rooms.length) && upPaces m m.paces.length) := by
    unfold pacesIB upPaces
    congr 2
    funext j
    unfold paceInB
    exact has_in _ _
  have e3 : decide (0 < (whereTo (fun d : DeskV => d.1) m.desks m.desks.length).length) = upOpen m m.desks.length := whereTo_any _ _ _
  unfold inPlaceIB partsIB looseB headB smithsIB desksIB
  rw [e1, e2, e3]
  have e4 : allTo deskB m.desks m.desks.length = upDesks m m.desks.length := rfl
  rw [e4]
  generalize hallB m.rooms = x1
  generalize guildsB m.guilds = x2
  generalize decide (m.smiths.length ≤ 12) = x3
  generalize allTo smithB m.smiths m.smiths.length = x4
  generalize allTo (thereB m.guilds.length) m.smiths m.smiths.length = x5
  generalize decide ((m.desks.length : Int) = benchSum m.rooms) = x6
  generalize upDesks m m.desks.length = x7
  generalize upOpen m m.desks.length = x8
  generalize decide (m.paces.length = m.rooms.length) = x9
  generalize upPaces m m.paces.length = x10
  generalize inB m.now 0 1000000 = x11
  generalize allTo (placeB m.desks) m.smiths m.smiths.length = x12
  rw [Bool.eq_iff_iff]
  simp only [Bool.and_eq_true]
  constructor
  · rintro ⟨⟨a1, a2, ⟨a3, a4, a5⟩, ⟨a6, a7, a8⟩, ⟨a9, a10⟩, a11⟩, a12⟩
    exact ⟨⟨a1, a2, a3, a6, a9, a11⟩, a7, a10, ⟨a4, a5, a12⟩, a8⟩
  · rintro ⟨⟨a1, a2, a3, a6, a9, a11⟩, a7, a10, ⟨a4, a5, a12⟩, a8⟩
    exact ⟨⟨a1, a2, ⟨a3, a4, a5⟩, ⟨a6, a7, a8⟩, ⟨a9, a10⟩, a11⟩, a12⟩
theorem smy_same (m : SmyV) : smyIB m = smyB m := by
  unfold smyIB smyB turnsIB
  rw [loose_same, show turnIB m = benchOkB m from funext (turn_same m)]

/-! ### The program's queue -/
theorem take_snoc_at {ps : List Int} {k : Nat} (h : k < ps.length) : ps.take (k + 1) = ps.take k ++ [recAt ps k] := by
  unfold recAt
  rw [List.take_add_one, List.getD, List.getElem?_eq_getElem h]; rfl
end Go.Proofs.YtffcgajndmhpkaaGreat

