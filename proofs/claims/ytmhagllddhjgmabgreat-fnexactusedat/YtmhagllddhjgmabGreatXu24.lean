/- What the proof rests on, part 24: lists and numbers, how they lie in memory, and contracts of the calls. No condition but those that a theorem names. -/
import Derived.Test.YtmhagllddhjgmabGreatXu01
import Derived.Test.YtmhagllddhjgmabGreatXu02
import Derived.Test.YtmhagllddhjgmabGreatXu03
import Derived.Test.YtmhagllddhjgmabGreatXu04
import Derived.Test.YtmhagllddhjgmabGreatXu05
import Derived.Test.YtmhagllddhjgmabGreatXu06
import Derived.Test.YtmhagllddhjgmabGreatXu07
import Derived.Test.YtmhagllddhjgmabGreatXu08
import Derived.Test.YtmhagllddhjgmabGreatXu09
import Derived.Test.YtmhagllddhjgmabGreatXu10
import Derived.Test.YtmhagllddhjgmabGreatXu11
import Derived.Test.YtmhagllddhjgmabGreatXu12
import Derived.Test.YtmhagllddhjgmabGreatXu16
import Derived.Test.YtmhagllddhjgmabGreatXu17
import Derived.Test.YtmhagllddhjgmabGreatXu18
import Derived.Test.YtmhagllddhjgmabGreatXu21
import Derived.Test.YtmhagllddhjgmabGreatXu22
import Derived.Test.YtmhagllddhjgmabGreatXu23
import Derived.WalkMore
import Derived.Below
import Derived.WalkKit
import Derived.ProofKit
import Derived.OpenShut
import Derived.Outline
import Derived.Deep.RegionHeld3
import Derived.Deep.DrawnRows
import Derived.BigRegion
import Derived.Deep.RegionLawGrows
import Derived.Deep.LoopGhost
import Derived.Lib.QuietBelow
import Derived.Deep.RegionWith
import Derived.Deep.QuietTactic
import Derived.BigQuiet
import Derived.Laws.OwnMore
import Derived.OwnWalk
import Derived.Maps.AppendAt
import Derived.Lib.SmallJoins
import Derived.Deep.Fields
import Derived.Deep.Slices
import Derived.OrdersHeld
import Derived.Deep.RegionHeldLaw
import Derived.Deep.DeepCutAuto
/- Contracts of QueueOk and FirstIn, the program's and the model's: each returns what the lists say and writes into no memory that was there. Condition: the slices can be read. -/
namespace Go.Proofs.YtmhagllddhjgmabGreat
open Go.ChangeShapes Go.WideShapes Go.ChangeAt Go.RowKit Go.Sort
set_option linter.unusedVariables false

theorem stepQ_e {ps : List PaceV} {k : Nat} {p : PaceV} (hp : paceAt ps k = p) (h : entB p = false) : stepQ ps k = false := by unfold stepQ; rw [hp]; simp [h]
theorem stepQ_l {ps : List PaceV} {k : Nat} {p q : PaceV} (hz : 0 < k) (hp : paceAt ps k = p) (hq : paceAt ps (k - 1) = q) (h : ltB q p = false) : stepQ ps k = false := by unfold stepQ; rw [hp, hq]; simp [h]; omega
theorem stepQ_w {ps : List PaceV} {k : Nat} {f z : Int} (hp : paceAt ps k = (f, z)) (h : 0 ≤ findV (ps.take k) z) : stepQ ps k = false := by unfold stepQ; rw [hp]; simp; intros; exact h
theorem stepQ_y {ps : List PaceV} {k : Nat} {f z : Int} {q : PaceV} (hz : 0 < k) (hp : paceAt ps k = (f, z)) (hq : paceAt ps (k - 1) = q) (h1 : entB (f, z) = true) (h2 : ltB q (f, z) = true) (h : findV (ps.take k) z < 0) : stepQ ps k = true := by unfold stepQ; rw [hp, hq]; simp [h1, h2, h]
theorem stepQ_0 {ps : List PaceV} {p : PaceV} (hp : paceAt ps 0 = p) (h : entB p = true) : stepQ ps 0 = true := by unfold stepQ; rw [hp]; simp [h, findV]

theorem placeOf_q {w : World} {v : Value} {ps : List PaceV} {who F : Int} (hF : findV ps who = F) (h : IsPaces w v ps) :
    Calls Tryz.prog 110 #[v, .int .i64 who] w fun e w' => e = .returned (.int .i64 F) ∧ Below w.heap.size w w' := by
  subst hF
  exact placeOf_any who h

set_option maxHeartbeats 4000000 in
theorem implQueueOk_any {w : World} {v : Value} {ps : List PaceV} (h : IsPaces w v ps) :
    Calls Tryz.prog 72 #[v] w fun e w' => e = .returned (.bool (queueB ps)) ∧ Below w.heap.size w w' := by
  have Hr2 := hide h
  obtain ⟨a, cap, rfl, hc, hm, hr⟩ := h
  have Hr := hide hr
  clear hr
  by_cases hbig : 100 < ps.length
  · go_enter Tryz.func72, Tryz.ntmps72
    go_wp2_with fail
    go_ret
    exact ⟨ret_bool (queueB_big hbig).symm, Below.refl _ _⟩
  go_enter Tryz.func72, Tryz.ntmps72
  go_wp2_with fail
  go_loopw [10] (fun i wr => ∃ k : Nat, k ≤ ps.length ∧ i = .int .i64 k ∧ (∀ j, j < k → stepQ ps j = true) ∧ Below w.heap.size w wr) (fun i _ => ps.length - (intOf i).toNat)
  case atStart => exact ⟨0, Nat.zero_le _, rfl, fun j hj => by omega, Below.refl _ _⟩
  case round =>
    obtain ⟨k, hk, rfl, hst, hb⟩ := hrel
    have Hst := hide hst
    have Hb := hide hb
    clear hst
    by_cases hlt : k < ps.length
    · rcases unhide Hr with h0 | ⟨b, off, rfl, hbw, hcl⟩
      · rw [h0] at hlt; simp at hlt
      have hbr : b < wr.heap.size := Nat.lt_of_lt_of_le hbw hb.size
      have hne : b ≠ wr.heap.size := Nat.ne_of_lt hbr
      obtain ⟨c0, c1⟩ := hcl k hlt
      rw [← hb.cell (p := ⟨b, off + k * 2, none⟩) hbw] at c0
      rw [← hb.cell (p := ⟨b, off + k * 2 + 1, none⟩) hbw] at c1
      generalize hp : paceAt ps k = p at c0 c1
      have Hp := hide hp
      clear hp
      obtain ⟨f, z⟩ := p
      simp only at c0 c1
      have Hip := hide ((((unhide Hr2).below hb).cut (n := k) (by omega)).below ((Below.refl _ _).alloc (Nat.le_refl _) (.cells #[.int .i64 f, .int .i64 z] 65)))
      have d0 : (wr.alloc (.cells #[.int .i64 f, .int .i64 z] 65)).cell? ⟨wr.heap.size, 0, none⟩ = some (.int .i64 f) := by simp
      have d1 : (wr.alloc (.cells #[.int .i64 f, .int .i64 z] 65)).cell? ⟨wr.heap.size, 1, none⟩ = some (.int .i64 z) := by simp
      have k0 := cell_regrown d0
      have k1 := cell_regrown d1
      clear d0 d1
      obtain ⟨F, hF⟩ : ∃ F, findV (ps.take k) z = F := ⟨_, rfl⟩
      have hFb := findV_bd (ps.take k) z
      rw [hF] at hFb
      have HF := hide hF
      clear hF
      cases hpb : entB (f, z)
      · clear hcl
        go_wp2_with fail
        refine wp_region_quiet_below (by kernel_rfl) (by kernel_rfl) ?_
        repeat (go_big_quiet_step (first | exact Calls.regrown_of (isEntry_any _ _ _) | exact Calls.regrown_of (implLess_any _ _ _ _ _) | exact Calls.regrown_of (placeOf_q (unhide HF) ((unhide Hip).below (below_regrown _ _ _)))))
        refine wpQuiet_nil ?_
        intro _ hw'
        obtain ⟨⟨dq, osq⟩, hw''⟩ := hw'
        subst hw''
        go_wp2_with fail
        go_ret
        exact ⟨ret_bool (queueB_f hlt (stepQ_e (unhide Hp) hpb)).symm, (unhide Hb).trans (((Below.refl _ _).alloc (unhide Hb).size _).trans ((below_regrown _ _ _).mono (by simp; have := (unhide Hb).size; omega)))⟩
      · by_cases hz : 0 < k
        · have hd : decide (0 < k) = true := decide_eq_true hz
          obtain ⟨e0, e1⟩ := hcl (k - 1) (by omega)
          rw [← hb.cell (p := ⟨b, off + (k - 1) * 2, none⟩) hbw] at e0
          rw [← hb.cell (p := ⟨b, off + (k - 1) * 2 + 1, none⟩) hbw] at e1
          generalize hq : paceAt ps (k - 1) = q at e0 e1
          have Hq := hide hq
          clear hq
          obtain ⟨f', z'⟩ := q
          simp only at e0 e1
          have m0 := cell_regrown (w := wr.alloc (.cells #[.int .i64 f, .int .i64 z] 65)) (a := ⟨b, off + (k - 1) * 2, none⟩) (v := .int .i64 f') (by rw [World.cell?_alloc_old _ _ _ hne]; exact e0)
          have m1 := cell_regrown (w := wr.alloc (.cells #[.int .i64 f, .int .i64 z] 65)) (a := ⟨b, off + (k - 1) * 2 + 1, none⟩) (v := .int .i64 z') (by rw [World.cell?_alloc_old _ _ _ hne]; exact e1)
          clear hcl e0 e1
          cases hab : ltB (f', z') (f, z)
          · go_wp2_with fail
            refine wp_region_quiet_below (by kernel_rfl) (by kernel_rfl) ?_
            repeat (go_big_quiet_step (first | exact Calls.regrown_of (isEntry_any _ _ _) | exact Calls.regrown_of (implLess_any _ _ _ _ _) | exact Calls.regrown_of (placeOf_q (unhide HF) ((unhide Hip).below (below_regrown _ _ _)))))
            refine wpQuiet_nil ?_
            intro _ hw'
            obtain ⟨⟨dq, osq⟩, hw''⟩ := hw'
            subst hw''
            go_wp2_with fail
            go_ret
            exact ⟨ret_bool (queueB_f hlt (stepQ_l hz (unhide Hp) (unhide Hq) hab)).symm, (unhide Hb).trans (((Below.refl _ _).alloc (unhide Hb).size _).trans ((below_regrown _ _ _).mono (by simp; have := (unhide Hb).size; omega)))⟩
          · by_cases hF0 : F = -1
            · subst hF0
              go_wp2_with fail
              refine wp_region_quiet_below (by kernel_rfl) (by kernel_rfl) ?_
              repeat (go_big_quiet_step (first | exact Calls.regrown_of (isEntry_any _ _ _) | exact Calls.regrown_of (implLess_any _ _ _ _ _) | exact Calls.regrown_of (placeOf_q (unhide HF) ((unhide Hip).below (below_regrown _ _ _)))))
              refine wpQuiet_nil ?_
              intro _ hw'
              obtain ⟨⟨dq, osq⟩, hw''⟩ := hw'
              subst hw''
              go_wp2_with fail
              go_roundw
              case rel => exact ⟨k + 1, by omega, by go_num, next_all (unhide Hst) (stepQ_y hz (unhide Hp) (unhide Hq) hpb hab (by rw [unhide HF]; omega)), (unhide Hb).trans (((Below.refl _ _).alloc (unhide Hb).size _).trans ((below_regrown _ _ _).mono (by simp; have := (unhide Hb).size; omega)))⟩
              case measure => simp [intOf]; omega
            · have hF1 : 0 ≤ F := by omega
              have hF2 : (F == -1) = false := by simpa using hF0
              have hF3 : (F != -1) = true := by simpa using hF0
              clear hF0
              go_wp2_with fail
              refine wp_region_quiet_below (by kernel_rfl) (by kernel_rfl) ?_
              repeat (go_big_quiet_step (first | exact Calls.regrown_of (isEntry_any _ _ _) | exact Calls.regrown_of (implLess_any _ _ _ _ _) | exact Calls.regrown_of (placeOf_q (unhide HF) ((unhide Hip).below (below_regrown _ _ _)))))
              refine wpQuiet_nil ?_
              intro _ hw'
              obtain ⟨⟨dq, osq⟩, hw''⟩ := hw'
              subst hw''
              go_wp2_with fail
              go_ret
              exact ⟨ret_bool (queueB_f hlt (stepQ_w (unhide Hp) (by rw [unhide HF]; exact hF1))).symm, (unhide Hb).trans (((Below.refl _ _).alloc (unhide Hb).size _).trans ((below_regrown _ _ _).mono (by simp; have := (unhide Hb).size; omega)))⟩
        · obtain rfl : k = 0 := by omega
          obtain rfl : F = -1 := by simp at hFb; omega
          simp only [Nat.zero_mul, Nat.add_zero] at c0 c1 k0 k1
          clear hcl hz
          go_wp2_with fail
          refine wp_region_quiet_below (by kernel_rfl) (by kernel_rfl) ?_
          repeat (go_big_quiet_step (first | exact Calls.regrown_of (isEntry_any _ _ _) | exact Calls.regrown_of (implLess_any _ _ _ _ _) | exact Calls.regrown_of (placeOf_q (unhide HF) ((unhide Hip).below (below_regrown _ _ _)))))
          refine wpQuiet_nil ?_
          intro _ hw'
          obtain ⟨⟨dq, osq⟩, hw''⟩ := hw'
          subst hw''
          go_wp2_with fail
          go_roundw
          case rel => exact ⟨1, by omega, by go_num, next_all (unhide Hst) (stepQ_0 (unhide Hp) hpb), (unhide Hb).trans (((Below.refl _ _).alloc (unhide Hb).size _).trans ((below_regrown _ _ _).mono (by simp; have := (unhide Hb).size; omega)))⟩
          case measure => simp [intOf]; omega
    · obtain rfl : k = ps.length := by omega
      go_wp2_with fail
      go_ret
      exact ⟨ret_bool (queueB_t (by omega) (unhide Hst)).symm, hb⟩

end Go.Proofs.YtmhagllddhjgmabGreat

/- Contracts of the program's Queued and Unqueued: each answers what the lists say, in memory of its own, and writes into no memory that was there. Condition: the slice can be read. -/
namespace Go.Proofs.YtmhagllddhjgmabGreat
open Go.ChangeShapes Go.WideShapes Go.ChangeAt Go.RowKit Go.Sort
set_option linter.unusedVariables false

/-- A queue and a bool, handed back; the queue lies in blocks from n₀ on. -/
def GotQ (n₀ : Nat) (r : List PaceV × Bool) (e : Ending) (w' : World) : Prop := ∃ v', e = .returned (.tuple #[v', .bool r.2]) ∧ EntsAt n₀ w' v' r.1
theorem queuedV_no {ps : List PaceV} {e : PaceV} (h : queueB ps = false) : queuedV ps e = ([], false) := by unfold queuedV; rw [h]; rfl
theorem queuedV_stays {ps : List PaceV} {e : PaceV} (h : queueB ps = true) (h2 : queueB (putV ps e) = false) : queuedV ps e = (ps, false) := by unfold queuedV; rw [h, h2]; rfl
theorem queuedV_yes {ps : List PaceV} {e : PaceV} (h : queueB ps = true) (h2 : queueB (putV ps e) = true) : queuedV ps e = (putV ps e, true) := by unfold queuedV; rw [h, h2]; rfl
set_option maxRecDepth 100000 in
set_option maxHeartbeats 4000000 in
theorem implQueued_any {w : World} {v : Value} {ps : List PaceV} (f z : Int) (h : IsPaces w v ps) :
    Calls Tryz.prog 45 #[v, .agg #[.int .i64 f, .int .i64 z]] w fun e w' => GotQ w.heap.size (queuedV ps (f, z)) e w' ∧ Below w.heap.size w w' := by
  have Hv := hide h
  obtain ⟨a, cap, rfl, hc, hm, hr⟩ := h
  clear hr
  cases hq : queueB ps
  · rw [queuedV_no hq]
    go_enter Tryz.func45, Tryz.ntmps45
    go_wp2_with fail
    refine (implQueueOk_any ((unhide Hv).below ((Below.refl _ _).alloc (Nat.le_refl _) _))).mono ?_
    rw [hq]
    rintro e w1 ⟨rfl, hb1⟩
    have B1 : Hid (Below w.heap.size w w1) := hide (((Below.refl _ _).alloc (Nat.le_refl _) _).trans (hb1.mono (by simp)))
    clear hb1
    go_wp2_with fail
    go_ret2
    exact ⟨⟨_, rfl, ents_empty rfl (unhide B1).size⟩, (unhide B1).alloc (unhide B1).size _⟩
  · have hQ := isQ_of hq
    have hlen := hQ.len
    have HQ := hide hQ
    clear hQ
    go_enter Tryz.func45, Tryz.ntmps45
    go_wp2_with fail
    refine (implQueueOk_any ((unhide Hv).below ((Below.refl _ _).alloc (Nat.le_refl _) _))).mono ?_
    rw [hq]
    rintro e w1 ⟨rfl, hb1⟩
    have hz1 : w.heap.size + 1 ≤ w1.heap.size := by have := hb1.size; simpa using this
    have c0 : w1.cell? ⟨w.heap.size, 0, none⟩ = some (.int .i64 f) := (hb1.cell (p := ⟨w.heap.size, 0, none⟩) (by simp)).trans (by simp)
    have c1 : w1.cell? ⟨w.heap.size, 1, none⟩ = some (.int .i64 z) := (hb1.cell (p := ⟨w.heap.size, 1, none⟩) (by simp)).trans (by simp)
    have B1 : Hid (Below w.heap.size w w1) := hide (((Below.refl _ _).alloc (Nat.le_refl _) _).trans (hb1.mono (by simp)))
    clear hb1
    go_wp2_with fail
    refine (heapOf_any ((unhide Hv).below (unhide B1)) (by omega)).mono ?_
    rintro e w2 ⟨bx, v2, rfl, hbx, hh2, hb2⟩
    have hlt1 : w.heap.size < w1.heap.size := by omega
    have d0 := (hb2.cell (p := ⟨w.heap.size, 0, none⟩) hlt1).trans c0
    have d1 := (hb2.cell (p := ⟨w.heap.size, 1, none⟩) hlt1).trans c1
    have hz2 := hb2.size
    have H2 := hide hh2
    have B2 : Hid (Below w.heap.size w w2) := hide ((unhide B1).trans (hb2.mono (by omega)))
    clear hb2 hh2 c0 c1
    go_wp2_with fail
    refine (heapPush_any f z (unhide H2) (ris_heap (unhide HQ).ris) (by omega) hbx hz2).mono ?_
    rintro e w3 ⟨rfl, v3, hs, hh3, hto3, hpe3, hb3⟩
    have hz3 := hb3.size
    have hsl : hs.length = ps.length + 1 := by have := hpe3.length_eq; simpa using this
    have H3 := hide hh3
    have T3 := hide hto3
    have P3 := hide hpe3
    have B3 : Hid (Below w.heap.size w w3) := hide ((unhide B2).trans (hb3.mono (by omega)))
    clear hb3 hh3 hto3 hpe3 d0 d1
    go_wp2_with fail
    refine (emptied_any (unhide H3) (unhide T3) (by omega) hbx (by omega)).mono ?_
    rintro e w4 ⟨v4, qs, rfl, hi4, hris4, hpe4, hb4⟩
    obtain rfl : qs = putV ps (f, z) := sorted_put (unhide HQ) hris4 (hpe4.trans (unhide P3))
    have hz4 := hb4.size
    obtain ⟨a4, cap4, rfl⟩ := hi4.shape
    have H4 := hide hi4
    have B4 : Hid (Below w.heap.size w w4) := hide ((unhide B3).trans (hb4.mono (by omega)))
    clear hi4 hris4 hpe4 hb4 H2 H3 T3 P3
    go_wp2_with fail
    refine (implQueueOk_any (unhide H4).paces).mono ?_
    cases hq2 : queueB (putV ps (f, z))
    · rintro e w5 ⟨rfl, hb5⟩
      have B5 : Hid (Below w.heap.size w w5) := hide ((unhide B4).trans (hb5.mono (by omega)))
      clear hb5
      go_wp2_with fail
      refine (copyOf_any ((unhide Hv).below (unhide B5)) (by omega)).mono ?_
      rintro e w6 ⟨v6, rfl, hi6, hb6⟩
      obtain ⟨a6, cap6, rfl⟩ := hi6.shape
      have H6 := hide hi6
      have B6 : Hid (Below w.heap.size w w6) := hide ((unhide B5).trans (hb6.mono (unhide B5).size))
      clear hi6 hb6
      go_wp2_with fail
      go_ret2
      rw [queuedV_stays hq hq2]
      exact ⟨⟨_, rfl, (unhide H6).mono (unhide B5).size⟩, unhide B6⟩
    · rintro e w5 ⟨rfl, hb5⟩
      have H5 := hide ((unhide H4).later hb5)
      have B5 : Hid (Below w.heap.size w w5) := hide ((unhide B4).trans (hb5.mono (by omega)))
      clear hb5
      go_wp2_with fail
      go_ret2
      rw [queuedV_yes hq hq2]
      exact ⟨⟨_, rfl, (unhide H5).mono (by omega)⟩, unhide B5⟩

end Go.Proofs.YtmhagllddhjgmabGreat

/- What one wants, what is used, which bench is chosen, what all of it costs: as plain lists and numbers. No condition but those that a theorem names. -/
namespace Go.Proofs.YtmhagllddhjgmabGreat
open Go.ChangeShapes Go.WideShapes Go.ChangeAt Go.RowKit Go.Sort
set_option linter.unusedVariables false

/-- Util within the bounds. -/
def wantS (gs : List GuildV) (s : SmithV) : Int := min (max s.2.2.2.2.2.2.2.2.2.1 (narV (bnd gs s.2.2.2.2.1) s.2.2.2.2.2.1 s.2.2.2.2.2.2.1).1) (narV (bnd gs s.2.2.2.2.1) s.2.2.2.2.2.1 s.2.2.2.2.2.2.1).2
def wantV (m : SmyV) (who : Int) : Int := wantS m.guilds (recAt m.smiths who.toNat)
theorem wantS_bd (gs : List GuildV) (s : SmithV) : 0 ≤ wantS gs s ∧ wantS gs s ≤ 1024 := by
  obtain ⟨b0, b1, b2⟩ := bnd_bd gs s.2.2.2.2.1
  obtain ⟨n0, n1, n2⟩ := narV_bd (lo := s.2.2.2.2.2.1) (hi := s.2.2.2.2.2.2.1) b0 b1 b2
  unfold wantS
  omega
theorem wantV_bd (m : SmyV) (who : Int) : 0 ≤ wantV m who ∧ wantV m who ≤ 1024 := wantS_bd _ _
/-- What all of a queue want, but one. -/
def usedL (m : SmyV) (but : Int) (q : List PaceV) : Int := q.foldl (fun n e => if e.2 = but then n else n + wantV m e.2) 0
theorem usedL_snoc (m : SmyV) (but : Int) (q : List PaceV) (e : PaceV) : usedL m but (q ++ [e]) = if e.2 = but then usedL m but q else usedL m but q + wantV m e.2 := by
  unfold usedL; rw [List.foldl_append]; rfl
theorem usedF_bd (m : SmyV) (but : Int) : ∀ (q : List PaceV) (n : Int), 0 ≤ n → 0 ≤ q.foldl (fun n e => if e.2 = but then n else n + wantV m e.2) n ∧ q.foldl (fun n e => if e.2 = but then n else n + wantV m e.2) n ≤ n + 1024 * q.length
  | [], n, h => ⟨h, by simp⟩
  | e :: q, n, h => by
    have hw := wantV_bd m e.2
    have ih := usedF_bd m but q (if e.2 = but then n else n + wantV m e.2) (by split <;> omega)
    refine ⟨ih.1, Int.le_trans ih.2 ?_⟩
    simp only [List.length_cons, Int.natCast_add, Int.natCast_one]
    split <;> omega
theorem usedL_bd (m : SmyV) (but : Int) (q : List PaceV) : 0 ≤ usedL m but q ∧ usedL m but q ≤ 1024 * q.length := by
  have := usedF_bd m but q 0 (by omega)
  unfold usedL; omega
def usedV (m : SmyV) (b but : Int) : Int := usedL m but (atV m.smiths b m.smiths.length)
end Go.Proofs.YtmhagllddhjgmabGreat

/- Whatever is changed, a smithy stays right: each change as plain lists, and that it keeps what is right but for who works. Lists and numbers alone; no condition but those that a theorem names. -/
namespace Go.Proofs.YtmhagllddhjgmabGreat
open Go.ChangeShapes Go.WideShapes Go.ChangeAt Go.RowKit Go.Sort
set_option linter.unusedVariables false

theorem here_iff {m : SmyV} {s : SmithV} : hereB m s = true ↔ s = zeroS ∨ (presB s = true ∧ s.2.2.2.2.1 < m.guilds.length ∧ s.2.1 < m.desks.length) := by
  unfold hereB smithB
  simp only [Bool.and_eq_true, Bool.or_eq_true, decide_eq_true_eq]
  constructor
  · rintro ⟨hg | hp, hr⟩
    · exact .inl (goneB_of hg)
    · right
      refine ⟨hp, ?_⟩
      rcases hr with e | e
      · have : s.1 = 0 := by simpa using e
        rw [presB_st this] at hp
        cases hp
      · exact e
  · rintro (rfl | ⟨hp, hr⟩)
    · exact ⟨.inl goneB_zero, .inl rfl⟩
    · exact ⟨.inr hp, .inr hr⟩
theorem smy_loose {m : SmyV} (h : smyB m = true) : Loose m := by
  unfold smyB at h
  simp only [Bool.and_eq_true] at h
  exact loose_of h.1

/-- One who is there and not gone: all of its limits. -/
theorem Loose.limits {m : SmyV} (h : Loose m) {k : Nat} (hk : k < m.smiths.length) (hs : (recAt m.smiths k).1 ≠ 0) : presB (recAt m.smiths k) = true ∧ (recAt m.smiths k).2.2.2.2.1 < m.guilds.length ∧ (recAt m.smiths k).2.1 < m.desks.length := by
  rcases here_iff.1 (h.here k hk) with e | e
  · rw [e] at hs; exact absurd rfl hs
  · exact e

end Go.Proofs.YtmhagllddhjgmabGreat

/- Rest, Leave, Ranked, Limited, Granted, Opened, joined: as plain lists; and each keeps a smithy right. Lists and numbers alone; no condition but those that a theorem names. -/
namespace Go.Proofs.YtmhagllddhjgmabGreat
open Go.ChangeShapes Go.WideShapes Go.ChangeAt Go.RowKit Go.Sort
set_option linter.unusedVariables false

theorem few_of {m : SmyV} (h : Loose m) : Few m := by
  have hd := h.head
  unfold headB at hd
  simp only [Bool.and_eq_true, decide_eq_true_eq] at hd
  obtain ⟨h1, h2, h3, h4, h5, _⟩ := hd
  obtain ⟨r1, r2, r3, r4⟩ := hallB_of h1
  have hg := (guildsB_of h2).2
  refine ⟨by omega, fun r hr => ?_, by omega, by omega, by omega, by omega⟩
  have hrb := List.all_eq_true.1 r3 r hr
  unfold roomB at hrb
  simp only [Bool.and_eq_true] at hrb
  have := inB_of hrb.2.1
  omega
end Go.Proofs.YtmhagllddhjgmabGreat

/- WantOf and UsedAt as plain lists. Lists and numbers alone; no condition but those that a theorem names. -/
namespace Go.Proofs.YtmhagllddhjgmabGreat
open Go.ChangeShapes Go.WideShapes Go.ChangeAt Go.RowKit Go.Sort
set_option linter.unusedVariables false

def usedAtV (m : SmyV) (b : Int) : Int := if smyB m && isBenchB m b then usedV m b (-1) else -1
end Go.Proofs.YtmhagllddhjgmabGreat

