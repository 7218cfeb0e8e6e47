/- What the proof rests on, part 4: lists and numbers, how they lie in memory, and contracts of the calls. No condition but those that a theorem names. -/
import Derived.Test.YtaegckehjlkaaaaGreatXe01
import Derived.Test.YtaegckehjlkaaaaGreatXe02
import Derived.Test.YtaegckehjlkaaaaGreatXe03
import Derived.Lib.QuietBelow
import Derived.Deep.RegionWith
import Derived.Deep.QuietTactic
import Derived.BigQuiet
import Derived.Laws.StructEq
import Derived.WalkKit
import Derived.ProofKit
import Derived.OpenShut
import Derived.Outline
import Derived.Laws.OwnMore
import Derived.OwnWalk
import Derived.Maps.AppendAt
import Derived.Lib.SmallJoins
import Derived.Deep.Fields
import Derived.Deep.Slices
/- Contracts of chapter 8's functions and of their models: each returns what the plain lists say and writes into no memory that was there. Condition: the slices can be read, and what a theorem names. -/
namespace Go.Proofs.YtaegckehjlkaaaaGreat
open Go.ChangeShapes Go.WideShapes Go.ChangeAt Go.RowKit Go.Sort
set_option linter.unusedVariables false

theorem pairB_t {lo hi : Int} (h0 : 0 ≤ lo) (h1 : lo ≤ hi) (h2 : hi ≤ 1024) : pairB lo hi = true := by unfold pairB; rw [inB_t h0 (by omega), inB_t (by omega) h2]; simp; omega
theorem pairB_f {lo hi : Int} (h : lo < 0 ∨ hi < lo ∨ 1024 < hi) : pairB lo hi = false := by
  cases e : pairB lo hi
  · rfl
  · have := pairB_of e; omega

theorem areBounds_any (lo hi : Int) (w : World) : Calls Tryz.prog 217 #[.int .i64 lo, .int .i64 hi] w fun e w' => e = .returned (.bool (pairB lo hi)) ∧ w' = w := by
  by_cases h1 : 0 ≤ lo
  · by_cases h2 : lo ≤ hi
    · by_cases h3 : hi ≤ 1024
      all_goals
        go_enter Tryz.func217, Tryz.ntmps217
        go_wp2
        go_ret
        exact ⟨ret_bool (by first | exact (pairB_t h1 h2 h3).symm | exact (pairB_f (by omega)).symm), rfl⟩
    · go_enter Tryz.func217, Tryz.ntmps217
      go_wp2
      go_ret
      exact ⟨ret_bool (pairB_f (by omega)).symm, rfl⟩
  · go_enter Tryz.func217, Tryz.ntmps217
    go_wp2
    go_ret
    exact ⟨ret_bool (pairB_f (by omega)).symm, rfl⟩

theorem guildOk_any (a lo hi n : Int) (w : World) : Calls Tryz.prog 173 #[.agg #[.int .i64 a, .int .i64 lo, .int .i64 hi], .int .i64 n] w fun e w' => e = .returned (.bool (guildB (a, lo, hi) n)) ∧ Below w.heap.size w w' := by
  by_cases h1 : -1 ≤ a
  · by_cases h2 : a < n
    · have hg : guildB (a, lo, hi) n = pairB lo hi := by unfold guildB; rw [inB_t h1 (by omega)]; rfl
      rw [hg]; clear hg
      go_enter Tryz.func173, Tryz.ntmps173
      go_wp2_with (go_at_call 217; refine (areBounds_any _ _ _).mono ?_; rintro e w' ⟨rfl, rfl⟩)
      go_ret
      exact ⟨rfl, (Below.refl _ _).alloc (Nat.le_refl _) _⟩
    · have hg : guildB (a, lo, hi) n = false := by unfold guildB; rw [inB_f (.inr (by omega))]; rfl
      rw [hg]; clear hg
      go_enter Tryz.func173, Tryz.ntmps173
      go_wp2_with fail
      go_ret
      exact ⟨rfl, (Below.refl _ _).alloc (Nat.le_refl _) _⟩
  · have hg : guildB (a, lo, hi) n = false := by unfold guildB; rw [inB_f (.inl (by omega))]; rfl
    rw [hg]; clear hg
    go_enter Tryz.func173, Tryz.ntmps173
    go_wp2_with fail
    go_ret
    exact ⟨rfl, (Below.refl _ _).alloc (Nat.le_refl _) _⟩

set_option maxHeartbeats 2000000 in
theorem implGuildsOk_any {w : World} {v : Value} {ps : List GuildV} (h : IsGuilds w v ps) :
    Calls Tryz.prog 172 #[v] w fun e w' => e = .returned (.bool (guildsB ps)) ∧ Below w.heap.size w w' := by
  obtain ⟨a, cap, rfl, hc, hm, hr⟩ := h
  have Hr := hide hr
  clear hr
  by_cases hbig : 6 < ps.length
  · go_enter Tryz.func172, Tryz.ntmps172
    go_wp2_with fail
    go_ret
    exact ⟨ret_bool (guildsB_long hbig).symm, Below.refl _ _⟩
  go_enter Tryz.func172, Tryz.ntmps172
  go_wp2_with fail
  go_loopw [10] (fun i wr => ∃ k : Nat, k ≤ ps.length ∧ i = .int .i64 k ∧ upToB ps k = true ∧ Below w.heap.size w wr) (fun i _ => ps.length - (intOf i).toNat)
  case atStart => exact ⟨0, Nat.zero_le _, rfl, rfl, Below.refl _ _⟩
  case round =>
    obtain ⟨k, hk, rfl, hst, hb⟩ := hrel
    have Hst := hide hst
    have Hb := hide hb
    clear hst
    by_cases hlt : k < ps.length
    · rcases unhide Hr with h0 | ⟨b, off, rfl, hbw, hcl⟩
      · rw [h0] at hlt; simp at hlt
      have hbr : b < wr.heap.size := Nat.lt_of_lt_of_le hbw hb.size
      obtain ⟨c0, c1, c2⟩ := guild_cells hcl hlt
      rw [← hb.cell (p := ⟨b, off + k * 3, none⟩) hbw] at c0
      rw [← hb.cell (p := ⟨b, off + k * 3 + 1, none⟩) hbw] at c1
      rw [← hb.cell (p := ⟨b, off + k * 3 + 2, none⟩) hbw] at c2
      generalize hp : recAt ps k = p at c0 c1 c2
      have Hp := hide hp
      clear hp
      obtain ⟨x0, x1, x2⟩ := p
      simp only at c0 c1 c2
      have hsz := hb.size
      clear hcl hb
      go_wp2_with fail
      refine (guildOk_any _ _ _ _ _).mono ?_
      rintro e w1 ⟨rfl, hb1⟩
      have Hb1 := hide ((unhide Hb).trans (((Below.refl _ _).alloc hsz _).trans (hb1.mono (by simp; omega))))
      clear hb1
      cases hg : guildB (x0, x1, x2) k
      · go_wp2_with fail
        go_ret
        exact ⟨ret_bool (guildsB_f hlt (by rw [unhide Hp]; exact hg)).symm, unhide Hb1⟩
      · go_wp2_with fail
        go_roundw
        case rel => exact ⟨k + 1, by omega, by go_num, by rw [upToB_succ, unhide Hst, unhide Hp, hg]; rfl, unhide Hb1⟩
        case measure => simp [intOf]; omega
    · obtain rfl : k = ps.length := by omega
      go_wp2_with fail
      go_ret
      exact ⟨ret_bool (by unfold guildsB; rw [unhide Hst]; simp; omega), hb⟩

theorem narrowed_any (a lo hi l h : Int) (w : World) : Calls Tryz.prog 175 #[.agg #[.int .i64 a, .int .i64 lo, .int .i64 hi], .int .i64 l, .int .i64 h] w
    fun e w' => e = .returned (.tuple #[.int .i64 (narV (lo, hi) l h).1, .int .i64 (narV (lo, hi) l h).2]) ∧ Below w.heap.size w w' := by
  unfold narV
  go_enter Tryz.func175, Tryz.ntmps175
  go_wp2_with (go_at_call 122; refine (implClamped_any _ _ _ _).mono ?_; rintro e w' ⟨rfl, rfl⟩)
  go_ret2
  exact ⟨rfl, (Below.refl _ _).alloc (Nat.le_refl _) _⟩

set_option maxHeartbeats 1000000 in
theorem settled_any (a lo hi a' l h : Int) (w : World) : Calls Tryz.prog 218 #[.agg #[.int .i64 a, .int .i64 lo, .int .i64 hi, .int .i64 a', .int .i64 l, .int .i64 h]] w
    fun e w' => e = .returned (.agg #[.int .i64 a', .int .i64 (narV (lo, hi) l h).1, .int .i64 (narV (lo, hi) l h).2]) ∧ Below w.heap.size w w' := by
  go_enter Tryz.func218, Tryz.ntmps218
  go_wp2_with fail
  refine (narrowed_any _ _ _ _ _ _).mono ?_
  rintro e w1 ⟨rfl, hb1⟩
  have hz : w.heap.size + 1 < w1.heap.size := by have := hb1.size; simp at this; omega
  have Hb1 := hide hb1
  obtain ⟨hc, hf⟩ := bcell hb1
  clear hb1
  go_wp2_with fail
  exact bodyPost_ret (v := .agg #[.int .i64 a', .int .i64 (narV (lo, hi) l h).1, .int .i64 (narV (lo, hi) l h).2]) (by simp [results, Tryz.results218, go_sem, hc]) rfl
    ⟨rfl, ((((((Below.refl _ _).alloc (Nat.le_refl _) _).alloc (by simp) _).trans ((unhide Hb1).mono (by simp; omega))).setCell (by simp) _).setCell (by simp) _).setCell (by simp) _⟩

set_option maxRecDepth 100000 in
set_option maxHeartbeats 4000000 in
theorem settledAt_any {ps : List GuildV} (hg : guildsB ps = true) : ∀ (n : Nat) (g : Int) {w : World} {v : Value}, IsGuilds w v ps → -1 ≤ g → g < n → g < ps.length →
    Calls Tryz.prog 174 #[v, .int .i64 g] w fun e w' => ∃ x, e = .returned (.agg #[.int .i64 x, .int .i64 (bnd ps g).1, .int .i64 (bnd ps g).2]) ∧ Below w.heap.size w w' := by
  intro n
  induction n with
  | zero =>
    intro g w v h h0 h1 h2
    obtain rfl : g = -1 := by omega
    rw [bnd_none ps (by omega)]
    obtain ⟨a, cap, rfl, _⟩ := h
    go_enter Tryz.func174, Tryz.ntmps174
    go_wp2_with fail
    exact bodyPost_ret (v := .agg #[.int .i64 (-1), .int .i64 0, .int .i64 1024]) (by simp [results, Tryz.results174, go_sem]) rfl ⟨-1, rfl, (Below.refl _ _).alloc (Nat.le_refl _) _⟩
  | succ n ih =>
    intro g w v h h0 h1 h2
    by_cases hg0 : g = -1
    · subst hg0
      rw [bnd_none ps (by omega)]
      obtain ⟨a, cap, rfl, _⟩ := h
      go_enter Tryz.func174, Tryz.ntmps174
      go_wp2_with fail
      exact bodyPost_ret (v := .agg #[.int .i64 (-1), .int .i64 0, .int .i64 1024]) (by simp [results, Tryz.results174, go_sem]) rfl ⟨-1, rfl, (Below.refl _ _).alloc (Nat.le_refl _) _⟩
    · obtain ⟨k, rfl⟩ : ∃ k : Nat, g = k := ⟨g.toNat, by omega⟩
      have hlt : k < ps.length := by omega
      obtain ⟨a0, a1, _⟩ := guildsB_at hg (g := (k : Int)) (by omega) h2
      have hs := bnd_step hg (g := (k : Int)) (by omega) h2
      rw [show ((k : Int)).toNat = k by omega] at a0 a1 hs
      rw [hs]
      clear hs
      have Hi := hide h
      obtain ⟨a, cap, rfl, hc, hm, hr⟩ := h
      rcases hr with hz | ⟨b, off, rfl, hbw, hcl⟩
      · rw [hz] at hlt; simp at hlt
      obtain ⟨c0, c1, c2⟩ := guild_cells hcl hlt
      clear hcl
      generalize hW : w.alloc (.cells #[.int .i64 0, .int .i64 0, .int .i64 0] 154) = W
      have HB : Hid (Below w.heap.size w W) := hide (by rw [← hW]; exact (Below.refl _ _).alloc (Nat.le_refl _) _)
      have hsz : w.heap.size < W.heap.size := by rw [← hW]; simp
      have hbW : b < W.heap.size := by omega
      rw [← (unhide HB).cell (p := ⟨b, off + k * 3, none⟩) hbw] at c0
      rw [← (unhide HB).cell (p := ⟨b, off + k * 3 + 1, none⟩) hbw] at c1
      rw [← (unhide HB).cell (p := ⟨b, off + k * 3 + 2, none⟩) hbw] at c2
      have D : Hid ((∃ u, W.cell? ⟨w.heap.size, 0, none⟩ = some u) ∧ (∃ u, W.cell? ⟨w.heap.size, 1, none⟩ = some u) ∧ (∃ u, W.cell? ⟨w.heap.size, 2, none⟩ = some u) ∧ W.frozen? ⟨w.heap.size, 0, none⟩ = false ∧ W.frozen? ⟨w.heap.size, 1, none⟩ = false ∧ W.frozen? ⟨w.heap.size, 2, none⟩ = false) :=
        hide (by rw [← hW]; exact ⟨⟨_, by simp; rfl⟩, ⟨_, by simp; rfl⟩, ⟨_, by simp; rfl⟩, by simp, by simp, by simp⟩)
      have HW := hide hW
      clear hW
      have Hc := hide (And.intro c0 (And.intro c1 c2))
      generalize hp : recAt ps k = p at *
      obtain ⟨x0, x1, x2⟩ := p
      simp only at c0 c1 c2 a0 a1
      have ih' := fun (w : World) (v : Value) (h : IsGuilds w v ps) => ih x0 h a0 (by omega) (by omega)
      have Ih := hide ih'
      clear ih ih' hp
      go_enter Tryz.func174, Tryz.ntmps174
      go_wp2_with fail
      rw [unhide HW]
      go_region_with (first
        | (go_at_call 174; refine (unhide Ih _ _ ?_).mono ?_; (first | exact (unhide Hi).below (unhide HB) | exact ((unhide Hi).below (unhide HB)).below ((Below.refl _ _).drew)); rintro e w1 ⟨y, rfl, hb1⟩; have B1 : Hid (Below W.heap.size W w1) := hide (by first | exact hb1 | exact ((Below.refl _ _).drew).trans (hb1.mono (by simp))); have e0 := ((unhide B1).cell (p := ⟨b, off + k * 3, none⟩) hbW).trans (unhide Hc).1; have e1 := ((unhide B1).cell (p := ⟨b, off + k * 3 + 1, none⟩) hbW).trans (unhide Hc).2.1; have e2 := ((unhide B1).cell (p := ⟨b, off + k * 3 + 2, none⟩) hbW).trans (unhide Hc).2.2; clear hb1)
        | (go_at_call 218; refine (settled_any _ _ _ _ _ _ _).mono ?_; rintro e w2 ⟨rfl, hb2⟩; have B2 : Hid (Below W.heap.size W w2) := hide ((unhide B1).trans (hb2.mono (unhide B1).size)); obtain ⟨⟨u0, q0⟩, ⟨u1, q1⟩, ⟨u2, q2⟩, f0, f1, f2⟩ := unhide D; have d0 := ((unhide B2).cell (p := ⟨w.heap.size, 0, none⟩) hsz).trans q0; have d1 := ((unhide B2).cell (p := ⟨w.heap.size, 1, none⟩) hsz).trans q1; have d2 := ((unhide B2).cell (p := ⟨w.heap.size, 2, none⟩) hsz).trans q2; have z0 := ((unhide B2).frozen (p := ⟨w.heap.size, 0, none⟩) hsz).trans f0; have z1 := ((unhide B2).frozen (p := ⟨w.heap.size, 1, none⟩) hsz).trans f1; have z2 := ((unhide B2).frozen (p := ⟨w.heap.size, 2, none⟩) hsz).trans f2; clear hb2 q0 q1 q2 f0 f1 f2))
      all_goals
        go_wp2_with fail
        exact bodyPost_ret (v := .agg #[.int .i64 x0, .int .i64 (narV (bnd ps x0) x1 x2).1, .int .i64 (narV (bnd ps x0) x1 x2).2]) (by simp [results, Tryz.results174, go_sem, d0, d1, d2]) rfl
          ⟨x0, rfl, ((((unhide HB).trans ((unhide B2).mono (by omega))).setCell (Nat.le_refl _) _).setCell (Nat.le_refl _) _).setCell (Nat.le_refl _) _⟩

set_option maxHeartbeats 2000000 in
theorem implWithin_any {w : World} {v : Value} {ps : List GuildV} (g lo hi : Int) (h : IsGuilds w v ps) :
    Calls Tryz.prog 121 #[v, .int .i64 g, .int .i64 lo, .int .i64 hi] w fun e w' => e = .returned (.tuple #[.int .i64 (withinV ps g lo hi).1, .int .i64 (withinV ps g lo hi).2]) ∧ Below w.heap.size w w' := by
  have Hi := hide h
  obtain ⟨a, cap, rfl, hc, hm, hr⟩ := h
  clear hr
  generalize hW : w.alloc (.cells #[.int .i64 g, .int .i64 lo, .int .i64 hi] 154) = W
  have HB : Hid (Below w.heap.size w W) := hide (by rw [← hW]; exact (Below.refl _ _).alloc (Nat.le_refl _) _)
  have hsz : w.heap.size < W.heap.size := by rw [← hW]; simp
  have D : Hid (W.cell? ⟨w.heap.size, 0, none⟩ = some (.int .i64 g) ∧ W.cell? ⟨w.heap.size, 1, none⟩ = some (.int .i64 lo) ∧ W.cell? ⟨w.heap.size, 2, none⟩ = some (.int .i64 hi)) := hide (by rw [← hW]; simp)
  have HW := hide hW
  clear hW
  have hsv : (guildsB ps && guildB (g, lo, hi) ps.length) = (isB ps g && pairB lo hi) := by unfold guildB isB; rw [Bool.and_assoc]
  cases hG : guildsB ps
  · rw [withinV_f (by rw [← hsv, hG]; rfl)]
    clear hsv
    go_enter Tryz.func121, Tryz.ntmps121
    go_wp2_with fail
    rw [unhide HW]
    refine (implGuildsOk_any ((unhide Hi).below (unhide HB))).mono ?_
    rw [hG]
    rintro e w1 ⟨rfl, hb1⟩
    have B1 := hide ((unhide HB).trans (hb1.mono (by omega)))
    clear hb1
    go_wp2_with fail
    go_ret2
    exact ⟨rfl, unhide B1⟩
  · cases hQ : guildB (g, lo, hi) ps.length
    · rw [withinV_f (by rw [← hsv, hG, hQ]; rfl)]
      clear hsv
      go_enter Tryz.func121, Tryz.ntmps121
      go_wp2_with fail
      rw [unhide HW]
      refine (implGuildsOk_any ((unhide Hi).below (unhide HB))).mono ?_
      rw [hG]
      rintro e w1 ⟨rfl, hb1⟩
      have d0 := (hb1.cell (p := ⟨w.heap.size, 0, none⟩) hsz).trans (unhide D).1
      have d1 := (hb1.cell (p := ⟨w.heap.size, 1, none⟩) hsz).trans (unhide D).2.1
      have d2 := (hb1.cell (p := ⟨w.heap.size, 2, none⟩) hsz).trans (unhide D).2.2
      have B1 := hide ((unhide HB).trans (hb1.mono (by omega)))
      clear hb1
      go_wp2_with fail
      refine (guildOk_any _ _ _ _ _).mono ?_
      rw [hQ]
      rintro e w2 ⟨rfl, hb2⟩
      have B2 := hide ((unhide B1).trans (hb2.mono (unhide B1).size))
      clear hb2
      go_wp2_with fail
      go_ret2
      exact ⟨rfl, unhide B2⟩
    · obtain ⟨g0, g1, g2⟩ := guildB_of hQ
      have hisB : isB ps g = true := by unfold isB; rw [hG, inB_t g0 (by simpa using g1)]; rfl
      rw [withinV_t hisB g2]
      clear hsv hisB
      have hlt : g < ps.length := by simp only at g1; omega
      simp only at g0
      go_enter Tryz.func121, Tryz.ntmps121
      go_wp2_with fail
      rw [unhide HW]
      refine (implGuildsOk_any ((unhide Hi).below (unhide HB))).mono ?_
      rw [hG]
      rintro e w1 ⟨rfl, hb1⟩
      have d0 := (hb1.cell (p := ⟨w.heap.size, 0, none⟩) hsz).trans (unhide D).1
      have d1 := (hb1.cell (p := ⟨w.heap.size, 1, none⟩) hsz).trans (unhide D).2.1
      have d2 := (hb1.cell (p := ⟨w.heap.size, 2, none⟩) hsz).trans (unhide D).2.2
      have B1 := hide ((unhide HB).trans (hb1.mono (by omega)))
      clear hb1
      go_wp2_with fail
      refine (guildOk_any _ _ _ _ _).mono ?_
      rw [hQ]
      rintro e w2 ⟨rfl, hb2⟩
      have B2 := hide ((unhide B1).trans (hb2.mono (unhide B1).size))
      clear hb2
      go_wp2_with fail
      refine (settledAt_any hG (g + 1).toNat g ((unhide Hi).below (unhide B2)) g0 (by omega) hlt).mono ?_
      rintro e w3 ⟨x, rfl, hb3⟩
      have B3 := hide ((unhide B2).trans (hb3.mono (unhide B2).size))
      clear hb3
      go_wp2_with fail
      refine (narrowed_any _ _ _ _ _ _).mono ?_
      rintro e w4 ⟨rfl, hb4⟩
      have B4 := hide ((unhide B3).trans (hb4.mono (unhide B3).size))
      clear hb4
      go_wp2_with fail
      go_ret2
      exact ⟨rfl, unhide B4⟩

end Go.Proofs.YtaegckehjlkaaaaGreat

/- Contracts of chapter 8's models: each returns what the plain lists say and writes into no memory that was there. Condition: the slices can be read, and what a theorem names. -/
namespace Go.Proofs.YtaegckehjlkaaaaGreat
open Go.ChangeShapes Go.WideShapes Go.ChangeAt Go.RowKit Go.Sort
set_option linter.unusedVariables false

theorem drewN_below {B : Nat} {w w' : World} (h : Below B w w') (n : Nat) : Below B w (w'.drewN n) := ⟨h.os, h.tape, h.output, h.size, h.block⟩

theorem guildForce_any (x : Int) (w : World) : Calls Tryz.prog 137 #[.int .i64 x] w fun e w' => e = .returned (.bool (inB x 0 1024)) ∧ w' = w := by
  go_enter Tryz.func137, Tryz.ntmps137
  go_wp2_with (go_at_call 123; refine (l1In_any _ _ _ _).mono ?_; rintro e w' ⟨rfl, rfl⟩)
  go_ret
  exact ⟨rfl, rfl⟩

theorem l8Pair_any (lo hi : Int) (w : World) : Calls Tryz.prog 74 #[.int .i64 lo, .int .i64 hi] w fun e w' => e = .returned (.bool (pairB lo hi)) ∧ w' = w := by
  cases h1 : inB lo 0 1024
  · have hp : pairB lo hi = false := by unfold pairB; rw [h1]; rfl
    rw [hp]; clear hp
    go_enter Tryz.func74, Tryz.ntmps74
    go_wp2_with (go_at_call 137; refine (guildForce_any _ _).mono ?_; rintro e w' ⟨rfl, rfl⟩)
    go_ret
    exact ⟨rfl, rfl⟩
  · cases h2 : inB hi 0 1024
    · have hp : pairB lo hi = false := by unfold pairB; rw [h1, h2]; rfl
      rw [hp]; clear hp
      go_enter Tryz.func74, Tryz.ntmps74
      go_wp2_with (go_at_call 137; refine (guildForce_any _ _).mono ?_; rintro e w' ⟨rfl, rfl⟩)
      go_ret
      exact ⟨rfl, rfl⟩
    · have hp : pairB lo hi = decide (lo ≤ hi) := by unfold pairB; rw [h1, h2]; rfl
      rw [hp]; clear hp
      by_cases h3 : lo ≤ hi
      all_goals
        go_enter Tryz.func74, Tryz.ntmps74
        go_wp2_with (go_at_call 137; refine (guildForce_any _ _).mono ?_; rintro e w' ⟨rfl, rfl⟩)
        go_ret
        exact ⟨ret_bool (by first | (simp; done) | (simp; omega)), rfl⟩

set_option maxHeartbeats 2000000 in
theorem specGuildsOk_any {w : World} {v : Value} {ps : List GuildV} (h : IsGuilds w v ps) :
    Calls Tryz.prog 132 #[v] w fun e w' => e = .returned (.bool (guildsB ps)) ∧ Below w.heap.size w w' := by
  obtain ⟨a, cap, rfl, hc, hm, hr⟩ := h
  have Hr := hide hr
  clear hr
  go_enter Tryz.func132, Tryz.ntmps132
  go_wp2_with fail
  go_loopw [3] (fun i wr => ∃ k : Nat, k ≤ ps.length ∧ i = .int .i64 k ∧ upToB ps k = true ∧ Below w.heap.size w wr) (fun i _ => ps.length - (intOf i).toNat)
  case atStart => exact ⟨0, Nat.zero_le _, rfl, rfl, Below.refl _ _⟩
  case round =>
    obtain ⟨k, hk, rfl, hst, hb⟩ := hrel
    have Hst := hide hst
    have Hb := hide hb
    clear hst
    by_cases hlt : k < ps.length
    · rcases unhide Hr with h0 | ⟨b, off, rfl, hbw, hcl⟩
      · rw [h0] at hlt; simp at hlt
      obtain ⟨c0, c1, c2⟩ := guild_cells hcl hlt
      rw [← hb.cell (p := ⟨b, off + k * 3, none⟩) hbw] at c0
      rw [← hb.cell (p := ⟨b, off + k * 3 + 1, none⟩) hbw] at c1
      rw [← hb.cell (p := ⟨b, off + k * 3 + 2, none⟩) hbw] at c2
      generalize hp : recAt ps k = p at c0 c1 c2
      have Hp := hide hp
      clear hp
      obtain ⟨x0, x1, x2⟩ := p
      simp only at c0 c1 c2
      clear hcl hb
      have hg : guildB (x0, x1, x2) k = (inB x0 (-1) ((k : Int) - 1) && pairB x1 x2) := rfl
      have Hg := hide hg
      clear hg
      cases h1 : inB x0 (-1) ((k : Int) - 1)
      · go_wp2_with fail
        go_quiet (first | exact Calls.quiet_of_same (l1In_any _ _ _ _) | exact Calls.quiet_of_same (l8Pair_any _ _ _))
        go_wp2_with fail
        go_ret
        exact ⟨ret_bool (guildsB_f hlt (by rw [unhide Hp, unhide Hg, h1]; rfl)).symm, drewN_below (unhide Hb) _⟩
      cases h2 : pairB x1 x2
      · go_wp2_with fail
        go_quiet (first | exact Calls.quiet_of_same (l1In_any _ _ _ _) | exact Calls.quiet_of_same (l8Pair_any _ _ _))
        go_wp2_with fail
        go_ret
        exact ⟨ret_bool (guildsB_f hlt (by rw [unhide Hp, unhide Hg, h1, h2]; rfl)).symm, drewN_below (unhide Hb) _⟩
      · go_wp2_with fail
        go_quiet (first | exact Calls.quiet_of_same (l1In_any _ _ _ _) | exact Calls.quiet_of_same (l8Pair_any _ _ _))
        go_wp2_with fail
        go_roundw
        case rel => exact ⟨k + 1, by omega, by go_num, by rw [upToB_succ, unhide Hst, unhide Hp, unhide Hg, h1, h2]; rfl, drewN_below (unhide Hb) _⟩
        case measure => simp [intOf]; omega
    · obtain rfl : k = ps.length := by omega
      by_cases hbig : ps.length ≤ 6
      all_goals
        go_wp2_with fail
        go_ret
        exact ⟨ret_bool (by unfold guildsB; rw [unhide Hst]; simp; omega), hb⟩

set_option maxHeartbeats 2000000 in
theorem l8Within_of {ps : List GuildV} (g : Int) (lo hi : Int) {w : World} {v : Value} (h : IsGuilds w v ps)
    (hB : Calls Tryz.prog 138 #[v, .int .i64 g] w fun e w' => e = .returned (.tuple #[.int .i64 (bnd ps g).1, .int .i64 (bnd ps g).2]) ∧ Below w.heap.size w w') :
    Calls Tryz.prog 75 #[v, .int .i64 g, .int .i64 lo, .int .i64 hi] w fun e w' => e = .returned (.tuple #[.int .i64 (narV (bnd ps g) lo hi).1, .int .i64 (narV (bnd ps g) lo hi).2]) ∧ Below w.heap.size w w' := by
  have HB := hide hB
  clear hB
  obtain ⟨a, cap, rfl, _⟩ := h
  unfold narV
  go_enter Tryz.func75, Tryz.ntmps75
  go_wp2_with fail
  refine (unhide HB).mono ?_
  rintro e w1 ⟨rfl, hb1⟩
  go_wp2_with (go_at_call 125; refine (specClamped_any _ _ _ _).mono ?_; rintro e w' ⟨rfl, rfl⟩)
  go_ret2
  exact ⟨rfl, hb1⟩

set_option maxRecDepth 100000 in
set_option maxHeartbeats 4000000 in
theorem l8Bounds_any {ps : List GuildV} (hg : guildsB ps = true) : ∀ (n : Nat) (g : Int) {w : World} {v : Value}, IsGuilds w v ps → -1 ≤ g → g < n → g < ps.length →
    Calls Tryz.prog 138 #[v, .int .i64 g] w fun e w' => e = .returned (.tuple #[.int .i64 (bnd ps g).1, .int .i64 (bnd ps g).2]) ∧ Below w.heap.size w w' := by
  intro n
  induction n with
  | zero =>
    intro g w v h h0 h1 h2
    obtain rfl : g = -1 := by omega
    rw [bnd_none ps (by omega)]
    obtain ⟨a, cap, rfl, _⟩ := h
    go_enter Tryz.func138, Tryz.ntmps138
    go_wp2_with fail
    go_ret2
    exact ⟨rfl, Below.refl _ _⟩
  | succ n ih =>
    intro g w v h h0 h1 h2
    by_cases hg0 : g < 0
    · obtain rfl : g = -1 := by omega
      rw [bnd_none ps (by omega)]
      obtain ⟨a, cap, rfl, _⟩ := h
      go_enter Tryz.func138, Tryz.ntmps138
      go_wp2_with fail
      go_ret2
      exact ⟨rfl, Below.refl _ _⟩
    · obtain ⟨k, rfl⟩ : ∃ k : Nat, g = k := ⟨g.toNat, by omega⟩
      have hlt : k < ps.length := by omega
      obtain ⟨a0, a1, _⟩ := guildsB_at hg (g := (k : Int)) (by omega) h2
      have hs := bnd_step hg (g := (k : Int)) (by omega) h2
      rw [show ((k : Int)).toNat = k by omega] at a0 a1 hs
      rw [hs]
      clear hs
      have Hi := hide h
      obtain ⟨a, cap, rfl, hc, hm, hr⟩ := h
      rcases hr with hz | ⟨b, off, rfl, hbw, hcl⟩
      · rw [hz] at hlt; simp at hlt
      obtain ⟨c0, c1, c2⟩ := guild_cells hcl hlt
      clear hcl
      generalize hp : recAt ps k = p at *
      obtain ⟨x0, x1, x2⟩ := p
      simp only at c0 c1 c2 a0 a1
      have k0 := cell_regrown c0
      have k1 := cell_regrown c1
      have k2 := cell_regrown c2
      have ih' := fun (w' : World) (h : IsGuilds w' (.slice (some ⟨b, off, none⟩) ps.length cap) ps) => l8Within_of x0 x1 x2 h (ih x0 h a0 (by omega) (by omega))
      have Ih := hide ih'
      clear ih ih' hp
      go_enter Tryz.func138, Tryz.ntmps138
      go_wp2_with fail
      refine wp_region_quiet_below (by kernel_rfl) (by kernel_rfl) ?_
      repeat (go_big_quiet_step (exact Calls.regrown_of (unhide Ih _ ((unhide Hi).below (below_regrown _ _ _)))))
      refine wpQuiet_nil ?_
      intro _ hw'
      obtain ⟨⟨dq, osq⟩, hw''⟩ := hw'
      subst hw''
      go_wp2_with fail
      go_ret2
      exact ⟨rfl, below_regrown _ _ _⟩

end Go.Proofs.YtaegckehjlkaaaaGreat

/- Smiths as eleven plain numbers: which are right, which are gone, what they are when charged and with another rank. Numbers alone; no condition but those that a theorem names. -/
namespace Go.Proofs.YtaegckehjlkaaaaGreat
open Go.ChangeShapes Go.WideShapes Go.ChangeAt Go.RowKit Go.Sort
set_option linter.unusedVariables false

/-- Each number is within its limits. -/
def presB (x : SmithV) : Bool :=
  inB x.1 1 3 && (inB x.2.1 0 7 && (inB x.2.2.1 (-5) 5 && (inB x.2.2.2.1 1 255 && (inB x.2.2.2.2.1 (-1) 5 && (pairB x.2.2.2.2.2.1 x.2.2.2.2.2.2.1 && (inB x.2.2.2.2.2.2.2.1 (-1000000000000) 1000000000000 &&
    (inB x.2.2.2.2.2.2.2.2.1 0 (weightV x.2.2.1 - 1) && (inB x.2.2.2.2.2.2.2.2.2.1 0 1024 && inB x.2.2.2.2.2.2.2.2.2.2 0 100000000000))))))))
/-- All are zero. -/
def zeroS : SmithV := (0, 0, 0, 0, 0, 0, 0, 0, 0, 0, 0)
/-- Number by number alike. -/
def sameB (x y : SmithV) : Bool := x.1 == y.1 && (x.2.1 == y.2.1 && (x.2.2.1 == y.2.2.1 && (x.2.2.2.1 == y.2.2.2.1 && (x.2.2.2.2.1 == y.2.2.2.2.1 && (x.2.2.2.2.2.1 == y.2.2.2.2.2.1 && (x.2.2.2.2.2.2.1 == y.2.2.2.2.2.2.1 && (x.2.2.2.2.2.2.2.1 == y.2.2.2.2.2.2.2.1 && (x.2.2.2.2.2.2.2.2.1 == y.2.2.2.2.2.2.2.2.1 && (x.2.2.2.2.2.2.2.2.2.1 == y.2.2.2.2.2.2.2.2.2.1 && (x.2.2.2.2.2.2.2.2.2.2 == y.2.2.2.2.2.2.2.2.2.2))))))))))
theorem sameB_refl (x : SmithV) : sameB x x = true := by unfold sameB; simp
theorem sameB_of {x y : SmithV} (h : sameB x y = true) : x = y := by
  obtain ⟨x0, x1, x2, x3, x4, x5, x6, x7, x8, x9, x10⟩ := x
  obtain ⟨y0, y1, y2, y3, y4, y5, y6, y7, y8, y9, y10⟩ := y
  unfold sameB at h
  simp only [Bool.and_eq_true, beq_iff_eq] at h
  obtain ⟨rfl, rfl, rfl, rfl, rfl, rfl, rfl, rfl, rfl, rfl, rfl⟩ := h
  rfl
def goneB (x : SmithV) : Bool := sameB x zeroS
def smithB (x : SmithV) : Bool := goneB x || presB x
theorem weight_in (r : Int) : 0 ≤ weightV r ∧ weightV r ≤ 3125 := by
  cases h : inB r (-5) 5
  · rw [weightV_none h]; omega
  · rcases ranks h with rfl | rfl | rfl | rfl | rfl | rfl | rfl | rfl | rfl | rfl | rfl <;> decide
theorem presB_of {st be rk my gu lo hi hd ca ut wk : Int} (h : presB (st, be, rk, my, gu, lo, hi, hd, ca, ut, wk) = true) : (1 ≤ st ∧ st ≤ 3) ∧ (0 ≤ be ∧ be ≤ 7) ∧ inB rk (-5) 5 = true ∧ (1 ≤ my ∧ my ≤ 255) ∧ (-1 ≤ gu ∧ gu ≤ 5) ∧ pairB lo hi = true ∧ (-1000000000000 ≤ hd ∧ hd ≤ 1000000000000) ∧ (0 ≤ ca ∧ ca ≤ weightV rk - 1) ∧ (0 ≤ ut ∧ ut ≤ 1024) ∧ (0 ≤ wk ∧ wk ≤ 100000000000) := by
  unfold presB at h
  simp only [Bool.and_eq_true] at h
  obtain ⟨h0, h1, h2, h3, h4, h5, h6, h7, h8, h9⟩ := h
  exact ⟨inB_of h0, inB_of h1, h2, inB_of h3, inB_of h4, h5, inB_of h6, inB_of h7, inB_of h8, inB_of h9⟩
theorem goneB_of {x : SmithV} (h : goneB x = true) : x = zeroS := sameB_of h
theorem goneB_zero : goneB zeroS = true := sameB_refl _
theorem goneB_st {x : SmithV} (h : x.1 ≠ 0) : goneB x = false := by
  cases hg : goneB x
  · rfl
  · exact absurd (show x.1 = 0 by rw [goneB_of hg]; rfl) h
theorem presB_st {x : SmithV} (h : x.1 = 0) : presB x = false := by
  unfold presB
  rw [h]
  rfl
end Go.Proofs.YtaegckehjlkaaaaGreat

/- Contracts of chapter 2's small functions and of their models: whether a number is a set, and whether a bench is in it. No condition but those that a theorem names. -/
namespace Go.Proofs.YtaegckehjlkaaaaGreat
open Go.ChangeShapes Go.WideShapes Go.ChangeAt Go.RowKit
set_option linter.unusedVariables false

theorem implSetOk_any (s : Int) (w : World) : Calls Tryz.prog 193 #[.int .i64 s] w fun e w' => e = .returned (.bool (inB s 0 255)) ∧ w' = w := by
  by_cases h1 : 0 ≤ s
  · by_cases h2 : s ≤ 255
    all_goals
      go_enter Tryz.func193, Tryz.ntmps193
      go_wp2
      go_ret
      exact ⟨ret_bool (by first | exact (inB_t h1 h2).symm | exact (inB_f (by omega)).symm), rfl⟩
  · go_enter Tryz.func193, Tryz.ntmps193
    go_wp2
    go_ret
    exact ⟨ret_bool (inB_f (by omega)).symm, rfl⟩

theorem isBench_any (i : Int) (w : World) : Calls Tryz.prog 194 #[.int .i64 i] w fun e w' => e = .returned (.bool (inB i 0 7)) ∧ w' = w := by
  by_cases h1 : 0 ≤ i
  · by_cases h2 : i < 8
    all_goals
      go_enter Tryz.func194, Tryz.ntmps194
      go_wp2
      go_ret
      exact ⟨ret_bool (by first | exact (inB_t h1 (by omega)).symm | exact (inB_f (by omega)).symm), rfl⟩
  · go_enter Tryz.func194, Tryz.ntmps194
    go_wp2
    go_ret
    exact ⟨ret_bool (inB_f (by omega)).symm, rfl⟩

/-- Whether the bit i of s is set. -/
def bitB (s i : Int) : Bool := decide (s / 2 ^ i.toNat % 2 = 1)
/-- Whether the bench i is in the set s. -/
def memB (s i : Int) : Bool := inB s 0 255 && inB i 0 7 && bitB s i

theorem i64_and1 (n : Int) : bits .and .i64 n 1 = n % 2 := by
  have h1 : (BitVec.ofInt 64 1).toNat = 2 ^ 1 - 1 := by decide
  have key : (BitVec.ofInt 64 n &&& BitVec.ofInt 64 1).toNat = (n % ((2 ^ 64 : Nat) : Int)).toNat % 2 ^ 1 := by
    rw [BitVec.toNat_and, BitVec.toNat_ofInt, h1, Nat.and_two_pow_sub_one_eq_mod]
  show IntKind.i64.wrap ((BitVec.ofInt 64 n &&& BitVec.ofInt 64 1).toNat : Nat) = n % 2
  rw [key, IntKind.wrap_i64]
  omega
theorem bit_eq (s i : Int) : (bits .and .i64 (s / 2 ^ i.toNat) 1 == 1) = bitB s i := by rw [i64_and1]; unfold bitB; rfl
theorem memB_f {s i : Int} (h : inB s 0 255 = false ∨ inB i 0 7 = false) : memB s i = false := by unfold memB; rcases h with h | h <;> simp [h]
theorem memB_t {s i : Int} (hs : inB s 0 255 = true) (hi : inB i 0 7 = true) : memB s i = bitB s i := by unfold memB; simp [hs, hi]

theorem l2Has_any (s i : Int) (w : World) (hs : 0 ≤ s) (hs2 : s ≤ 255) (hi : 0 ≤ i) (hi2 : i ≤ 7) : Calls Tryz.prog 135 #[.int .i64 s, .int .i64 i] w fun e w' => e = .returned (.bool (bitB s i)) ∧ w' = w := by
  go_enter Tryz.func135, Tryz.ntmps135
  go_wp2
  go_ret
  exact ⟨ret_bool (bit_eq s i), rfl⟩

theorem implInSet_any (s i : Int) (w : World) : Calls Tryz.prog 141 #[.int .i64 s, .int .i64 i] w fun e w' => e = .returned (.bool (memB s i)) ∧ w' = w := by
  by_cases hb : inB s 0 255 = true
  · obtain ⟨hs, hs2⟩ := inB_of hb
    by_cases hc : inB i 0 7 = true
    · obtain ⟨hi, hi2⟩ := inB_of hc
      go_enter Tryz.func141, Tryz.ntmps141
      go_wp2_with (first | (go_at_call 193; refine (implSetOk_any _ _).mono ?_; rintro e w' ⟨rfl, rfl⟩) | (go_at_call 194; refine (isBench_any _ _).mono ?_; rintro e w' ⟨rfl, rfl⟩))
      go_ret
      exact ⟨ret_bool ((bit_eq s i).trans (memB_t hb hc).symm), rfl⟩
    · have hc' : inB i 0 7 = false := by simpa using hc
      go_enter Tryz.func141, Tryz.ntmps141
      go_wp2_with (first | (go_at_call 193; refine (implSetOk_any _ _).mono ?_; rintro e w' ⟨rfl, rfl⟩) | (go_at_call 194; refine (isBench_any _ _).mono ?_; rintro e w' ⟨rfl, rfl⟩))
      go_ret
      exact ⟨ret_bool (memB_f (.inr hc')).symm, rfl⟩
  · have hb' : inB s 0 255 = false := by simpa using hb
    go_enter Tryz.func141, Tryz.ntmps141
    go_wp2_with (first | (go_at_call 193; refine (implSetOk_any _ _).mono ?_; rintro e w' ⟨rfl, rfl⟩) | (go_at_call 194; refine (isBench_any _ _).mono ?_; rintro e w' ⟨rfl, rfl⟩))
    go_ret
    exact ⟨ret_bool (memB_f (.inl hb')).symm, rfl⟩

end Go.Proofs.YtaegckehjlkaaaaGreat

/- Smithies as plain lists: which are right. Lists and numbers alone; no condition but those that a theorem names. -/
namespace Go.Proofs.YtaegckehjlkaaaaGreat
open Go.ChangeShapes Go.WideShapes Go.ChangeAt Go.RowKit Go.Sort
set_option linter.unusedVariables false

/-- Who waits or works. -/
def presS (s : SmithV) : Bool := s.1 == 2 || s.1 == 3
def bandB (had mark : Int) : Bool := inB had (-1000000000000) 1000000000000 && (inB mark (-1000000000000) 1000000000000 && inB (had - mark) (-20000) 63000)
def deskB (d : DeskV) : Bool := inB d.2.2 (-900000000000) 900000000000
def paceInB (m : SmyV) (j : Nat) : Bool := inB (recAt m.paces j) 0 (((roomAt m.rooms j).2.length : Int) - 1)
/-- A right smith whose guild and bench are there. -/
def hereB (m : SmyV) (s : SmithV) : Bool := smithB s && (s.1 == 0 || (decide (s.2.2.2.2.1 < m.guilds.length) && decide (s.2.1 < m.desks.length)))
/-- Who waits or works is at an open bench that is in its May, and in the band. -/
def seatB (m : SmyV) (s : SmithV) : Bool := !presS s || ((recAt m.desks s.2.1.toNat).1 && (bitB s.2.2.2.1 s.2.1 && bandB s.2.2.2.2.2.2.2.1 (recAt m.desks s.2.1.toNat).2.2))
def headB (m : SmyV) : Bool := hallB m.rooms && (guildsB m.guilds && (decide (m.smiths.length ≤ 12) && (decide ((m.desks.length : Int) = benchSum m.rooms) && (decide (m.paces.length = m.rooms.length) && inB m.now 0 1000000))))
def upDesks (m : SmyV) (k : Nat) : Bool := (List.range k).all fun j => deskB (recAt m.desks j)
def upOpen (m : SmyV) (k : Nat) : Bool := (List.range k).any fun j => (recAt m.desks j).1
def upPaces (m : SmyV) (k : Nat) : Bool := (List.range k).all fun j => paceInB m j
def upSmiths (m : SmyV) (k : Nat) : Bool := (List.range k).all fun j => hereB m (recAt m.smiths j) && seatB m (recAt m.smiths j)
/-- Right, but for who works. -/
def looseB (m : SmyV) : Bool := headB m && (upDesks m m.desks.length && (upPaces m m.paces.length && (upSmiths m m.smiths.length && upOpen m m.desks.length)))

theorem all_up {p : Nat → Bool} (k : Nat) : (List.range (k + 1)).all p = ((List.range k).all p && p k) := by rw [List.range_succ, List.all_append]; simp
theorem any_up {p : Nat → Bool} (k : Nat) : (List.range (k + 1)).any p = ((List.range k).any p || p k) := by rw [List.range_succ, List.any_append]; simp
theorem all_no {p : Nat → Bool} {k n : Nat} (hk : k < n) (h : p k = false) : (List.range n).all p = false := by
  rw [List.all_eq_false]
  exact ⟨k, List.mem_range.2 hk, by simp [h]⟩
theorem all_at {p : Nat → Bool} {k n : Nat} (h : (List.range n).all p = true) (hk : k < n) : p k = true := List.all_eq_true.1 h k (List.mem_range.2 hk)
theorem looseB_head {m : SmyV} (h : headB m = false) : looseB m = false := by unfold looseB; rw [h]; rfl
theorem looseB_desk {m : SmyV} {k : Nat} (hk : k < m.desks.length) (h : deskB (recAt m.desks k) = false) : looseB m = false := by
  unfold looseB upDesks
  rw [all_no hk h]; simp
theorem looseB_pace {m : SmyV} {k : Nat} (hk : k < m.paces.length) (h : paceInB m k = false) : looseB m = false := by
  unfold looseB upPaces
  rw [all_no (p := fun j => paceInB m j) hk h]; simp
theorem looseB_smith {m : SmyV} {k : Nat} (hk : k < m.smiths.length) (h : (hereB m (recAt m.smiths k) && seatB m (recAt m.smiths k)) = false) : looseB m = false := by
  unfold looseB upSmiths
  rw [all_no (p := fun j => hereB m (recAt m.smiths j) && seatB m (recAt m.smiths j)) hk h]; simp
theorem looseB_all {m : SmyV} (h1 : headB m = true) (h2 : upDesks m m.desks.length = true) (h3 : upPaces m m.paces.length = true) (h4 : upSmiths m m.smiths.length = true) : looseB m = upOpen m m.desks.length := by
  unfold looseB; rw [h1, h2, h3, h4]; rfl
theorem hereB_of {m : SmyV} {s : SmithV} (h : hereB m s = true) (hp : presS s = true) : 0 ≤ s.2.1 ∧ s.2.1 < m.desks.length ∧ s.2.1 ≤ 7 ∧ 1 ≤ s.2.2.2.1 ∧ s.2.2.2.1 ≤ 255 ∧ s.2.2.2.2.1 < m.guilds.length := by
  obtain ⟨st, be, rk, my, gu, lo, hi, hd, ca, ut, wk⟩ := s
  have hst : st ≠ 0 := by
    intro e
    subst e
    cases hp
  unfold hereB at h
  simp only [Bool.and_eq_true, Bool.or_eq_true, decide_eq_true_eq] at h
  obtain ⟨h1, h2⟩ := h
  rcases h2 with h2 | ⟨h2, h3⟩
  · exact absurd (by simpa using h2) hst
  · have hs : smithB (st, be, rk, my, gu, lo, hi, hd, ca, ut, wk) = presB (st, be, rk, my, gu, lo, hi, hd, ca, ut, wk) := by unfold smithB; rw [goneB_st hst, Bool.false_or]
    rw [hs] at h1
    obtain ⟨_, ⟨b0, b1⟩, _, ⟨m0, m1⟩, _⟩ := presB_of h1
    exact ⟨b0, h3, b1, m0, m1, h2⟩

/-- Of the first k smiths: who works at b (-1: nobody), and whether one waits there; none where two work. -/
def scanV (ss : List SmithV) (b : Int) : Nat → Option (Int × Bool)
  | 0 => some (-1, false)
  | k + 1 => match scanV ss b k with
    | none => none
    | some (wk, wt) => if (recAt ss k).2.1 = b ∧ presS (recAt ss k) = true then (if (recAt ss k).1 = 2 then some (wk, true) else if 0 ≤ wk then none else some ((k : Int), wt)) else some (wk, wt)
def benchOkB (m : SmyV) (b : Nat) : Bool := match scanV m.smiths b m.smiths.length with
  | none => false
  | some (wk, wt) => (recAt m.desks b).2.1 == wk && !(wt && decide (wk < 0))
def smyB (m : SmyV) : Bool := looseB m && (List.range m.desks.length).all (benchOkB m)

end Go.Proofs.YtaegckehjlkaaaaGreat

/- Smiths that are compared: two are alike where all their numbers are; and the weights as letters. No condition. -/
namespace Go.Proofs.YtaegckehjlkaaaaGreat
open Go.ChangeShapes Go.WideShapes Go.ChangeAt Go.RowKit Go.Sort
set_option linter.unusedVariables false

set_option maxHeartbeats 1000000 in
theorem smith_equal (x0 x1 x2 x3 x4 x5 x6 x7 x8 x9 x10 y0 y1 y2 y3 y4 y5 y6 y7 y8 y9 y10 : Int) (w : World) : (Op.equalIn 10000 41 (.agg #[.int .i64 x0, .int .i64 x1, .int .i64 x2, .int .i64 x3, .int .i64 x4, .int .i64 x5, .int .i64 x6, .int .i64 x7, .int .i64 x8, .int .i64 x9, .int .i64 x10]) (.agg #[.int .i64 y0, .int .i64 y1, .int .i64 y2, .int .i64 y3, .int .i64 y4, .int .i64 y5, .int .i64 y6, .int .i64 y7, .int .i64 y8, .int .i64 y9, .int .i64 y10])).run Tryz.prog w = .ok (sameB (x0, x1, x2, x3, x4, x5, x6, x7, x8, x9, x10) (y0, y1, y2, y3, y4, y5, y6, y7, y8, y9, y10)) w := by
  have u := Tryz.underlying2
  have a := Tryz.isAgg2
  have z := Tryz.sizeOf2
  have hS : Tryz.prog.underlying 41 = some (.struct (Tryz.prog.fieldsOf 41)) := by kernel_rfl
  have hp : Tryz.prog.stoodInHeld 41 = false := by kernel_rfl
  rw [show (10000 : Nat) = 9999 + 1 from rfl, run_equalIn_agg w 9999 41 _ _ hS hp]
  simp only [Program.fieldsOf, Tryz.underlying41]
  go_simp
  unfold sameB
  by_cases h0 : x0 = y0
  rotate_left
  · simp [h0]
  subst h0
  by_cases h1 : x1 = y1
  rotate_left
  · simp [h1]
  subst h1
  by_cases h2 : x2 = y2
  rotate_left
  · simp [h2]
  subst h2
  by_cases h3 : x3 = y3
  rotate_left
  · simp [h3]
  subst h3
  by_cases h4 : x4 = y4
  rotate_left
  · simp [h4]
  subst h4
  by_cases h5 : x5 = y5
  rotate_left
  · simp [h5]
  subst h5
  by_cases h6 : x6 = y6
  rotate_left
  · simp [h6]
  subst h6
  by_cases h7 : x7 = y7
  rotate_left
  · simp [h7]
  subst h7
  by_cases h8 : x8 = y8
  rotate_left
  · simp [h8]
  subst h8
  by_cases h9 : x9 = y9
  rotate_left
  · simp [h9]
  subst h9
  by_cases h10 : x10 = y10
  rotate_left
  · simp [h10]
  subst h10
  simp
theorem smith_eql (x0 x1 x2 x3 x4 x5 x6 x7 x8 x9 x10 y0 y1 y2 y3 y4 y5 y6 y7 y8 y9 y10 : Int) (w : World) : (binOp .eql 41 (.agg #[.int .i64 x0, .int .i64 x1, .int .i64 x2, .int .i64 x3, .int .i64 x4, .int .i64 x5, .int .i64 x6, .int .i64 x7, .int .i64 x8, .int .i64 x9, .int .i64 x10]) (.agg #[.int .i64 y0, .int .i64 y1, .int .i64 y2, .int .i64 y3, .int .i64 y4, .int .i64 y5, .int .i64 y6, .int .i64 y7, .int .i64 y8, .int .i64 y9, .int .i64 y10])).run Tryz.prog w = .ok (.bool (sameB (x0, x1, x2, x3, x4, x5, x6, x7, x8, x9, x10) (y0, y1, y2, y3, y4, y5, y6, y7, y8, y9, y10))) w := by
  rw [run_eql_struct, smith_equal]; rfl
theorem smith_neq (x0 x1 x2 x3 x4 x5 x6 x7 x8 x9 x10 y0 y1 y2 y3 y4 y5 y6 y7 y8 y9 y10 : Int) (w : World) : (binOp .neq 41 (.agg #[.int .i64 x0, .int .i64 x1, .int .i64 x2, .int .i64 x3, .int .i64 x4, .int .i64 x5, .int .i64 x6, .int .i64 x7, .int .i64 x8, .int .i64 x9, .int .i64 x10]) (.agg #[.int .i64 y0, .int .i64 y1, .int .i64 y2, .int .i64 y3, .int .i64 y4, .int .i64 y5, .int .i64 y6, .int .i64 y7, .int .i64 y8, .int .i64 y9, .int .i64 y10])).run Tryz.prog w = .ok (.bool (!sameB (x0, x1, x2, x3, x4, x5, x6, x7, x8, x9, x10) (y0, y1, y2, y3, y4, y5, y6, y7, y8, y9, y10))) w := by
  rw [run_neq_struct, smith_equal]; rfl

theorem implWeightOf_v {r x : Int} (h : weightV r = x) (w : World) : Calls Tryz.prog 311 #[.int .i64 r] w fun e w' => e = .returned (.int .i64 x) ∧ w' = w := by
  have := implWeightOf_any r w; rw [h] at this; exact this
theorem specWeightOf_v {r x : Int} (h : weightV r = x) (w : World) : Calls Tryz.prog 191 #[.int .i64 r] w fun e w' => e = .returned (.int .i64 x) ∧ w' = w := by
  have := specWeightOf_any r w; rw [h] at this; exact this

end Go.Proofs.YtaegckehjlkaaaaGreat

/- The model's SmithOk: its contract. No condition. -/
namespace Go.Proofs.YtaegckehjlkaaaaGreat
open Go.ChangeShapes Go.WideShapes Go.ChangeAt Go.RowKit Go.Sort
set_option linter.unusedVariables false
attribute [local go_sem ↓] smith_eql smith_neq

theorem specHad_any (n : Int) (w : World) : Calls Tryz.prog 139 #[.int .i64 n] w fun e w' => e = .returned (.bool (inB n (-1000000000000) 1000000000000)) ∧ w' = w := by
  go_enter Tryz.func139, Tryz.ntmps139
  go_wp2_with (go_at_call 123; refine (l1In_any _ _ _ _).mono ?_; rintro e w' ⟨rfl, rfl⟩)
  go_ret
  exact ⟨rfl, rfl⟩

set_option maxRecDepth 100000 in
set_option maxHeartbeats 8000000 in
theorem specSmithOk_any (st be rk my gu lo hi hd ca ut wk : Int) (w : World) : Calls Tryz.prog 134 #[.agg #[.int .i64 st, .int .i64 be, .int .i64 rk, .int .i64 my, .int .i64 gu, .int .i64 lo, .int .i64 hi, .int .i64 hd, .int .i64 ca, .int .i64 ut, .int .i64 wk]] w fun e w' => e = .returned (.bool (smithB (st, be, rk, my, gu, lo, hi, hd, ca, ut, wk))) ∧ Below w.heap.size w w' := by
  by_cases hst : st = 0
  · subst hst
    unfold smithB
    rw [presB_st rfl, Bool.or_false]
    obtain ⟨q, hq⟩ : ∃ q, goneB (0, be, rk, my, gu, lo, hi, hd, ca, ut, wk) = q := ⟨_, rfl⟩
    rw [hq]
    have hz : sameB (0, be, rk, my, gu, lo, hi, hd, ca, ut, wk) (0, 0, 0, 0, 0, 0, 0, 0, 0, 0, 0) = q := hq
    clear hq
    go_enter Tryz.func134, Tryz.ntmps134
    go_wp2_with fail
    go_ret
    exact ⟨rfl, (Below.refl _ _).alloc (Nat.le_refl _) _⟩
  · have hne : (st == 0) = false := by simpa using hst
    unfold smithB
    rw [goneB_st hst, Bool.false_or]
    unfold presB
    simp only
    obtain ⟨x0, x1⟩ := weight_in rk
    obtain ⟨x, hx⟩ : ∃ x, weightV rk = x := ⟨_, rfl⟩
    rw [hx] at x0 x1 ⊢
    have Hw := hide hx
    have hwr : IntKind.i64.wrap (x - 1) = x - 1 := by rw [IntKind.wrap_i64]; omega
    clear hx hst
    cases h0 : inB st 1 3
    · go_enter Tryz.func134, Tryz.ntmps134
      go_wp2_with (first | (go_at_call 123; refine (l1In_any _ _ _ _).mono ?_; rintro e w' ⟨rfl, rfl⟩) | (go_at_call 190; refine (l3Rank_any _ _).mono ?_; rintro e w' ⟨rfl, rfl⟩) | (go_at_call 74; refine (l8Pair_any _ _ _).mono ?_; rintro e w' ⟨rfl, rfl⟩))
      go_ret
      exact ⟨rfl, (Below.refl _ _).alloc (Nat.le_refl _) _⟩
    cases h1 : inB be 0 7
    · go_enter Tryz.func134, Tryz.ntmps134
      go_wp2_with (first | (go_at_call 123; refine (l1In_any _ _ _ _).mono ?_; rintro e w' ⟨rfl, rfl⟩) | (go_at_call 190; refine (l3Rank_any _ _).mono ?_; rintro e w' ⟨rfl, rfl⟩) | (go_at_call 74; refine (l8Pair_any _ _ _).mono ?_; rintro e w' ⟨rfl, rfl⟩))
      go_ret
      exact ⟨rfl, (Below.refl _ _).alloc (Nat.le_refl _) _⟩
    cases h2 : inB rk (-5) 5
    · go_enter Tryz.func134, Tryz.ntmps134
      go_wp2_with (first | (go_at_call 123; refine (l1In_any _ _ _ _).mono ?_; rintro e w' ⟨rfl, rfl⟩) | (go_at_call 190; refine (l3Rank_any _ _).mono ?_; rintro e w' ⟨rfl, rfl⟩) | (go_at_call 74; refine (l8Pair_any _ _ _).mono ?_; rintro e w' ⟨rfl, rfl⟩))
      go_ret
      exact ⟨rfl, (Below.refl _ _).alloc (Nat.le_refl _) _⟩
    cases h3 : inB my 1 255
    · go_enter Tryz.func134, Tryz.ntmps134
      go_wp2_with (first | (go_at_call 123; refine (l1In_any _ _ _ _).mono ?_; rintro e w' ⟨rfl, rfl⟩) | (go_at_call 190; refine (l3Rank_any _ _).mono ?_; rintro e w' ⟨rfl, rfl⟩) | (go_at_call 74; refine (l8Pair_any _ _ _).mono ?_; rintro e w' ⟨rfl, rfl⟩))
      go_ret
      exact ⟨rfl, (Below.refl _ _).alloc (Nat.le_refl _) _⟩
    cases h4 : inB gu (-1) 5
    · go_enter Tryz.func134, Tryz.ntmps134
      go_wp2_with (first | (go_at_call 123; refine (l1In_any _ _ _ _).mono ?_; rintro e w' ⟨rfl, rfl⟩) | (go_at_call 190; refine (l3Rank_any _ _).mono ?_; rintro e w' ⟨rfl, rfl⟩) | (go_at_call 74; refine (l8Pair_any _ _ _).mono ?_; rintro e w' ⟨rfl, rfl⟩))
      go_ret
      exact ⟨rfl, (Below.refl _ _).alloc (Nat.le_refl _) _⟩
    cases h5 : pairB lo hi
    · go_enter Tryz.func134, Tryz.ntmps134
      go_wp2_with (first | (go_at_call 123; refine (l1In_any _ _ _ _).mono ?_; rintro e w' ⟨rfl, rfl⟩) | (go_at_call 190; refine (l3Rank_any _ _).mono ?_; rintro e w' ⟨rfl, rfl⟩) | (go_at_call 74; refine (l8Pair_any _ _ _).mono ?_; rintro e w' ⟨rfl, rfl⟩))
      go_ret
      exact ⟨rfl, (Below.refl _ _).alloc (Nat.le_refl _) _⟩
    cases h6 : inB hd (-1000000000000) 1000000000000
    · go_enter Tryz.func134, Tryz.ntmps134
      go_wp2_with (first | (go_at_call 123; refine (l1In_any _ _ _ _).mono ?_; rintro e w' ⟨rfl, rfl⟩) | (go_at_call 190; refine (l3Rank_any _ _).mono ?_; rintro e w' ⟨rfl, rfl⟩) | (go_at_call 74; refine (l8Pair_any _ _ _).mono ?_; rintro e w' ⟨rfl, rfl⟩))
      go_quiet (first | exact Calls.quiet_of_same (l1In_any _ _ _ _) | exact Calls.quiet_of_same (specHad_any _ _) | exact Calls.quiet_of_same (specWeightOf_v (unhide Hw) _) | exact Calls.quiet_of_same (guildForce_any _ _))
      go_wp2_with fail
      go_ret
      exact ⟨rfl, drewN_below ((Below.refl _ _).alloc (Nat.le_refl _) _) _⟩
    cases h7 : inB ca 0 (x - 1)
    · go_enter Tryz.func134, Tryz.ntmps134
      go_wp2_with (first | (go_at_call 123; refine (l1In_any _ _ _ _).mono ?_; rintro e w' ⟨rfl, rfl⟩) | (go_at_call 190; refine (l3Rank_any _ _).mono ?_; rintro e w' ⟨rfl, rfl⟩) | (go_at_call 74; refine (l8Pair_any _ _ _).mono ?_; rintro e w' ⟨rfl, rfl⟩))
      go_quiet (first | exact Calls.quiet_of_same (l1In_any _ _ _ _) | exact Calls.quiet_of_same (specHad_any _ _) | exact Calls.quiet_of_same (specWeightOf_v (unhide Hw) _) | exact Calls.quiet_of_same (guildForce_any _ _))
      go_wp2_with fail
      go_ret
      exact ⟨rfl, drewN_below ((Below.refl _ _).alloc (Nat.le_refl _) _) _⟩
    cases h8 : inB ut 0 1024
    · go_enter Tryz.func134, Tryz.ntmps134
      go_wp2_with (first | (go_at_call 123; refine (l1In_any _ _ _ _).mono ?_; rintro e w' ⟨rfl, rfl⟩) | (go_at_call 190; refine (l3Rank_any _ _).mono ?_; rintro e w' ⟨rfl, rfl⟩) | (go_at_call 74; refine (l8Pair_any _ _ _).mono ?_; rintro e w' ⟨rfl, rfl⟩))
      go_quiet (first | exact Calls.quiet_of_same (l1In_any _ _ _ _) | exact Calls.quiet_of_same (specHad_any _ _) | exact Calls.quiet_of_same (specWeightOf_v (unhide Hw) _) | exact Calls.quiet_of_same (guildForce_any _ _))
      go_wp2_with fail
      go_ret
      exact ⟨rfl, drewN_below ((Below.refl _ _).alloc (Nat.le_refl _) _) _⟩
    cases h9 : inB wk 0 100000000000
    · go_enter Tryz.func134, Tryz.ntmps134
      go_wp2_with (first | (go_at_call 123; refine (l1In_any _ _ _ _).mono ?_; rintro e w' ⟨rfl, rfl⟩) | (go_at_call 190; refine (l3Rank_any _ _).mono ?_; rintro e w' ⟨rfl, rfl⟩) | (go_at_call 74; refine (l8Pair_any _ _ _).mono ?_; rintro e w' ⟨rfl, rfl⟩))
      go_quiet (first | exact Calls.quiet_of_same (l1In_any _ _ _ _) | exact Calls.quiet_of_same (specHad_any _ _) | exact Calls.quiet_of_same (specWeightOf_v (unhide Hw) _) | exact Calls.quiet_of_same (guildForce_any _ _))
      go_wp2_with fail
      go_ret
      exact ⟨rfl, drewN_below ((Below.refl _ _).alloc (Nat.le_refl _) _) _⟩
    go_enter Tryz.func134, Tryz.ntmps134
    go_wp2_with (first | (go_at_call 123; refine (l1In_any _ _ _ _).mono ?_; rintro e w' ⟨rfl, rfl⟩) | (go_at_call 190; refine (l3Rank_any _ _).mono ?_; rintro e w' ⟨rfl, rfl⟩) | (go_at_call 74; refine (l8Pair_any _ _ _).mono ?_; rintro e w' ⟨rfl, rfl⟩))
    go_quiet (first | exact Calls.quiet_of_same (l1In_any _ _ _ _) | exact Calls.quiet_of_same (specHad_any _ _) | exact Calls.quiet_of_same (specWeightOf_v (unhide Hw) _) | exact Calls.quiet_of_same (guildForce_any _ _))
    go_wp2_with fail
    go_ret
    exact ⟨rfl, drewN_below ((Below.refl _ _).alloc (Nat.le_refl _) _) _⟩

end Go.Proofs.YtaegckehjlkaaaaGreat

/- The model's small checks of a smithy: who is present, and the band. No condition but those that a theorem names. -/
namespace Go.Proofs.YtaegckehjlkaaaaGreat
open Go.ChangeShapes Go.WideShapes Go.ChangeAt Go.RowKit Go.Sort
set_option linter.unusedVariables false

theorem l11Present_any (st be rk my gu lo hi hd ca ut wk : Int) (w : World) : Calls Tryz.prog 72 #[.agg #[.int .i64 st, .int .i64 be, .int .i64 rk, .int .i64 my, .int .i64 gu, .int .i64 lo, .int .i64 hi, .int .i64 hd, .int .i64 ca, .int .i64 ut, .int .i64 wk]] w fun e w' =>
    e = .returned (.bool (presS (st, be, rk, my, gu, lo, hi, hd, ca, ut, wk))) ∧ Below w.heap.size w w' := by
  unfold presS
  simp only
  cases h2 : (st == 2)
  all_goals
    go_enter Tryz.func72, Tryz.ntmps72
    go_wp2_with fail
    go_ret
    exact ⟨by first | rfl | (simp), (Below.refl _ _).alloc (Nat.le_refl _) _⟩

theorem specInBand_any (h m : Int) (w : World) : Calls Tryz.prog 136 #[.int .i64 h, .int .i64 m] w fun e w' => e = .returned (.bool (bandB h m)) ∧ w' = w := by
  unfold bandB
  cases h1 : inB h (-1000000000000) 1000000000000
  · go_enter Tryz.func136, Tryz.ntmps136
    go_wp2_with (first | (go_at_call 139; refine (specHad_any _ _).mono ?_; rintro e w' ⟨rfl, rfl⟩) | (go_at_call 123; refine (l1In_any _ _ _ _).mono ?_; rintro e w' ⟨rfl, rfl⟩))
    go_ret
    exact ⟨rfl, rfl⟩
  cases h2 : inB m (-1000000000000) 1000000000000
  · go_enter Tryz.func136, Tryz.ntmps136
    go_wp2_with (first | (go_at_call 139; refine (specHad_any _ _).mono ?_; rintro e w' ⟨rfl, rfl⟩) | (go_at_call 123; refine (l1In_any _ _ _ _).mono ?_; rintro e w' ⟨rfl, rfl⟩))
    go_ret
    exact ⟨rfl, rfl⟩
  obtain ⟨a0, a1⟩ := inB_of h1
  obtain ⟨b0, b1⟩ := inB_of h2
  go_enter Tryz.func136, Tryz.ntmps136
  go_wp2_with (first | (go_at_call 139; refine (specHad_any _ _).mono ?_; rintro e w' ⟨rfl, rfl⟩) | (go_at_call 123; refine (l1In_any _ _ _ _).mono ?_; rintro e w' ⟨rfl, rfl⟩))
  go_ret
  exact ⟨rfl, rfl⟩

end Go.Proofs.YtaegckehjlkaaaaGreat

