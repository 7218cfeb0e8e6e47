/- Part 24 of what the proof rests on. No condition but those that a theorem names. -/
import Derived.Test.YthbbahagpmdooaaGreatDoorXw23
set_option maxHeartbeats 8000000
set_option maxRecDepth 100000
namespace Go.Proofs.YthbbahagpmdooaaGreatDoor
open Go.ChangeShapes Go.WideShapes Go.ChangeAt Go.RowKit Go.Sort
set_option linter.unusedVariables false
theorem stepQ_e {ps : List PaceV} {k : Nat} {p : PaceV} (hp : paceAt ps k = p) (h : entB p = false) : stepQ ps k = false := by unfold stepQ; rw [hp]; simp [h]
theorem stepQ_l {ps : List PaceV} {k : Nat} {p q : PaceV} (hz : 0 < k) (hp : paceAt ps k = p) (hq : paceAt ps (k - 1) = q) (h : ltB q p = false) : stepQ ps k = false := by unfold stepQ; rw [hp, hq]; simp [h]; omega
theorem stepQ_w {ps : List PaceV} {k : Nat} {f z : Int} (hp : paceAt ps k = (f, z)) (h : 0 ≤ findV (ps.take k) z) : stepQ ps k = false := by unfold stepQ; rw [hp]; simp; intros; exact h
theorem stepQ_y {ps : List PaceV} {k : Nat} {f z : Int} {q : PaceV} (hz : 0 < k) (hp : paceAt ps k = (f, z)) (hq : paceAt ps (k - 1) = q) (h1 : entB (f, z) = true) (h2 : ltB q (f, z) = true) (h : findV (ps.take k) z < 0) : stepQ ps k = true := by unfold stepQ; rw [hp, hq]; simp [h1, h2, h]
theorem stepQ_0 {ps : List PaceV} {p : PaceV} (hp : paceAt ps 0 = p) (h : entB p = true) : stepQ ps 0 = true := by unfold stepQ; rw [hp]; simp [h, findV]
theorem placeOf_q {w : World} {v : Value} {ps : List PaceV} {who F : Int} (hF : findV ps who = F) (h : IsPaces w v ps) :
  Calls Tryz.prog 298 #[v, .int .i64 who] w fun e w' => e = .returned (.int .i64 F) ∧ Below w.heap.size w w' := by
 subst hF
 exact placeOf_any who h
theorem implQueueOk_any {w : World} {v : Value} {ps : List PaceV} (h : IsPaces w v ps) :
  Calls Tryz.prog 262 #[v] w fun e w' => e = .returned (.bool (queueB ps)) ∧ Below w.heap.size w w' := by
 have Hr2 := hide h
 obtain ⟨a, cap, rfl, hc, hm, hr⟩ := h
 have Hr := hide hr
 clear hr
 by_cases hbig : 100 < ps.length
 ·go_enter Tryz.func262, Tryz.ntmps262
  go_wp2_with fail
  go_ret
  exact ⟨ret_bool (queueB_big hbig).symm, Below.refl _ _⟩
 go_enter Tryz.func262, Tryz.ntmps262
 go_wp2_with fail
 go_loopw [10] (fun i wr => ∃ k : Nat, k ≤ ps.length ∧ i = .int .i64 k ∧ (∀ j, j < k → stepQ ps j = true) ∧ Below w.heap.size w wr) (fun i _ => ps.length - (intOf i).toNat)
 case atStart => exact ⟨0, Nat.zero_le _, rfl, fun j hj => by omega, Below.refl _ _⟩
 case round =>
  obtain ⟨k, hk, rfl, hst, hb⟩ := hrel
  have Hst := hide hst
  have Hb := hide hb
  clear hst
  by_cases hlt : k < ps.length
  ·rcases uh Hr with h0 | ⟨b, off, rfl, hbw, hcl⟩
   ·rw [h0] at hlt; simp at hlt
   have hbr : b < wr.heap.size := Nat.lt_of_lt_of_le hbw hb.size
   have hne : b ≠ wr.heap.size := Nat.ne_of_lt hbr
   obtain ⟨c0, c1⟩ := hcl k hlt
   rw [← hb.cell (p := ⟨b, off + k * 2, none⟩) hbw] at c0
   rw [← hb.cell (p := ⟨b, off + k * 2 + 1, none⟩) hbw] at c1
   generalize hp : paceAt ps k = p at c0 c1
   have Hp := hide hp
   clear hp
   obtain ⟨f, z⟩ := p
   simp only at c0 c1
   have Hip := hide ((((uh Hr2).below hb).cut (n := k) (by omega)).below ((Below.refl _ _).alloc (Nat.le_refl _) (.cells #[.int .i64 f, .int .i64 z] 194)))
   have d0 : (wr.alloc (.cells #[.int .i64 f, .int .i64 z] 194)).cell? ⟨wr.heap.size, 0, none⟩ = some (.int .i64 f) := by simp
   have d1 : (wr.alloc (.cells #[.int .i64 f, .int .i64 z] 194)).cell? ⟨wr.heap.size, 1, none⟩ = some (.int .i64 z) := by simp
   have k0 := cell_regrown d0
   have k1 := cell_regrown d1
   clear d0 d1
   obtain ⟨F, hF⟩ : ∃ F, findV (ps.take k) z = F := ⟨_, rfl⟩
   have hFb := findV_bd (ps.take k) z
   rw [hF] at hFb
   have HF := hide hF
   clear hF
   cases hpb : entB (f, z)
   ·clear hcl
    go_wp2_with fail
    refine wp_region_quiet_below (by kernel_rfl) (by kernel_rfl) ?_
    repeat (go_big_quiet_step (first | exact Calls.regrown_of (isEntry_any _ _ _) | exact Calls.regrown_of (implLess_any _ _ _ _ _) | exact Calls.regrown_of (placeOf_q (uh HF) ((uh Hip).below (below_regrown _ _ _)))))
    refine wpQuiet_nil ?_
    intro _ hw'
    obtain ⟨⟨dq, osq⟩, hw''⟩ := hw'
    subst hw''
    go_wp2_with fail
    go_ret
    exact ⟨ret_bool (queueB_f hlt (stepQ_e (uh Hp) hpb)).symm, (uh Hb).trans (((Below.refl _ _).alloc (uh Hb).size _).trans ((below_regrown _ _ _).mono (by simp; have := (uh Hb).size; omega)))⟩
   ·by_cases hz : 0 < k
    ·have hd : decide (0 < k) = true := decide_eq_true hz
     obtain ⟨e0, e1⟩ := hcl (k - 1) (by omega)
     rw [← hb.cell (p := ⟨b, off + (k - 1) * 2, none⟩) hbw] at e0
     rw [← hb.cell (p := ⟨b, off + (k - 1) * 2 + 1, none⟩) hbw] at e1
     generalize hq : paceAt ps (k - 1) = q at e0 e1
     have Hq := hide hq
     clear hq
     obtain ⟨f', z'⟩ := q
     simp only at e0 e1
     have m0 := cell_regrown (w := wr.alloc (.cells #[.int .i64 f, .int .i64 z] 194)) (a := ⟨b, off + (k - 1) * 2, none⟩) (v := .int .i64 f') (by rw [World.cell?_alloc_old _ _ _ hne]; exact e0)
     have m1 := cell_regrown (w := wr.alloc (.cells #[.int .i64 f, .int .i64 z] 194)) (a := ⟨b, off + (k - 1) * 2 + 1, none⟩) (v := .int .i64 z') (by rw [World.cell?_alloc_old _ _ _ hne]; exact e1)
     clear hcl e0 e1
     cases hab : ltB (f', z') (f, z)
     ·go_wp2_with fail
      refine wp_region_quiet_below (by kernel_rfl) (by kernel_rfl) ?_
      repeat (go_big_quiet_step (first | exact Calls.regrown_of (isEntry_any _ _ _) | exact Calls.regrown_of (implLess_any _ _ _ _ _) | exact Calls.regrown_of (placeOf_q (uh HF) ((uh Hip).below (below_regrown _ _ _)))))
      refine wpQuiet_nil ?_
      intro _ hw'
      obtain ⟨⟨dq, osq⟩, hw''⟩ := hw'
      subst hw''
      go_wp2_with fail
      go_ret
      exact ⟨ret_bool (queueB_f hlt (stepQ_l hz (uh Hp) (uh Hq) hab)).symm, (uh Hb).trans (((Below.refl _ _).alloc (uh Hb).size _).trans ((below_regrown _ _ _).mono (by simp; have := (uh Hb).size; omega)))⟩
     ·by_cases hF0 : F = -1
      ·subst hF0
       go_wp2_with fail
       refine wp_region_quiet_below (by kernel_rfl) (by kernel_rfl) ?_
       repeat (go_big_quiet_step (first | exact Calls.regrown_of (isEntry_any _ _ _) | exact Calls.regrown_of (implLess_any _ _ _ _ _) | exact Calls.regrown_of (placeOf_q (uh HF) ((uh Hip).below (below_regrown _ _ _)))))
       refine wpQuiet_nil ?_
       intro _ hw'
       obtain ⟨⟨dq, osq⟩, hw''⟩ := hw'
       subst hw''
       go_wp2_with fail
       go_roundw
       case rel => exact ⟨k + 1, by omega, by go_num, next_all (uh Hst) (stepQ_y hz (uh Hp) (uh Hq) hpb hab (by rw [uh HF]; omega)), (uh Hb).trans (((Below.refl _ _).alloc (uh Hb).size _).trans ((below_regrown _ _ _).mono (by simp; have := (uh Hb).size; omega)))⟩
       case measure => simp [intOf]; omega
      ·have hF1 : 0 ≤ F := by omega
       have hF2 : (F == -1) = false := by simpa using hF0
       have hF3 : (F != -1) = true := by simpa using hF0
       clear hF0
       go_wp2_with fail
       refine wp_region_quiet_below (by kernel_rfl) (by kernel_rfl) ?_
       repeat (go_big_quiet_step (first | exact Calls.regrown_of (isEntry_any _ _ _) | exact Calls.regrown_of (implLess_any _ _ _ _ _) | exact Calls.regrown_of (placeOf_q (uh HF) ((uh Hip).below (below_regrown _ _ _)))))
       refine wpQuiet_nil ?_
       intro _ hw'
       obtain ⟨⟨dq, osq⟩, hw''⟩ := hw'
       subst hw''
       go_wp2_with fail
       go_ret
       exact ⟨ret_bool (queueB_f hlt (stepQ_w (uh Hp) (by rw [uh HF]; exact hF1))).symm, (uh Hb).trans (((Below.refl _ _).alloc (uh Hb).size _).trans ((below_regrown _ _ _).mono (by simp; have := (uh Hb).size; omega)))⟩
    ·obtain rfl : k = 0 := by omega
     obtain rfl : F = -1 := by simp at hFb; omega
     simp only [Nat.zero_mul, Nat.add_zero] at c0 c1 k0 k1
     clear hcl hz
     go_wp2_with fail
     refine wp_region_quiet_below (by kernel_rfl) (by kernel_rfl) ?_
     repeat (go_big_quiet_step (first | exact Calls.regrown_of (isEntry_any _ _ _) | exact Calls.regrown_of (implLess_any _ _ _ _ _) | exact Calls.regrown_of (placeOf_q (uh HF) ((uh Hip).below (below_regrown _ _ _)))))
     refine wpQuiet_nil ?_
     intro _ hw'
     obtain ⟨⟨dq, osq⟩, hw''⟩ := hw'
     subst hw''
     go_wp2_with fail
     go_roundw
     case rel => exact ⟨1, by omega, by go_num, next_all (uh Hst) (stepQ_0 (uh Hp) hpb), (uh Hb).trans (((Below.refl _ _).alloc (uh Hb).size _).trans ((below_regrown _ _ _).mono (by simp; have := (uh Hb).size; omega)))⟩
     case measure => simp [intOf]; omega
  ·obtain rfl : k = ps.length := by omega
   go_wp2_with fail
   go_ret
   exact ⟨ret_bool (queueB_t (by omega) (uh Hst)).symm, hb⟩
def GotQ (n₀ : Nat) (r : List PaceV × Bool) (e : Ending) (w' : World) : Prop := ∃ v', e = .returned (.tuple #[v', .bool r.2]) ∧ EntsAt n₀ w' v' r.1
theorem queuedV_no {ps : List PaceV} {e : PaceV} (h : queueB ps = false) : queuedV ps e = ([], false) := by unfold queuedV; rw [h]; rfl
theorem queuedV_stays {ps : List PaceV} {e : PaceV} (h : queueB ps = true) (h2 : queueB (putV ps e) = false) : queuedV ps e = (ps, false) := by unfold queuedV; rw [h, h2]; rfl
theorem queuedV_yes {ps : List PaceV} {e : PaceV} (h : queueB ps = true) (h2 : queueB (putV ps e) = true) : queuedV ps e = (putV ps e, true) := by unfold queuedV; rw [h, h2]; rfl
theorem implQueued_any {w : World} {v : Value} {ps : List PaceV} (f z : Int) (h : IsPaces w v ps) :
  Calls Tryz.prog 261 #[v, .agg #[.int .i64 f, .int .i64 z]] w fun e w' => GotQ w.heap.size (queuedV ps (f, z)) e w' ∧ Below w.heap.size w w' := by
 have Hv := hide h
 obtain ⟨a, cap, rfl, hc, hm, hr⟩ := h
 clear hr
 cases hq : queueB ps
 ·rw [queuedV_no hq]
  go_enter Tryz.func261, Tryz.ntmps261
  go_wp2_with fail
  refine (implQueueOk_any ((uh Hv).below ((Below.refl _ _).alloc (Nat.le_refl _) _))).mono ?_
  rw [hq]
  rintro e w1 ⟨rfl, hb1⟩
  have B1 : Hid (Below w.heap.size w w1) := hide (((Below.refl _ _).alloc (Nat.le_refl _) _).trans (hb1.mono (by simp)))
  clear hb1
  go_wp2_with fail
  go_ret2
  exact ⟨⟨_, rfl, ents_empty rfl (uh B1).size⟩, (uh B1).alloc (uh B1).size _⟩
 ·have hQ := isQ_of hq
  have hlen := hQ.len
  have HQ := hide hQ
  clear hQ
  go_enter Tryz.func261, Tryz.ntmps261
  go_wp2_with fail
  refine (implQueueOk_any ((uh Hv).below ((Below.refl _ _).alloc (Nat.le_refl _) _))).mono ?_
  rw [hq]
  rintro e w1 ⟨rfl, hb1⟩
  have hz1 : w.heap.size + 1 ≤ w1.heap.size := by have := hb1.size; simpa using this
  have c0 : w1.cell? ⟨w.heap.size, 0, none⟩ = some (.int .i64 f) := (hb1.cell (p := ⟨w.heap.size, 0, none⟩) (by simp)).trans (by simp)
  have c1 : w1.cell? ⟨w.heap.size, 1, none⟩ = some (.int .i64 z) := (hb1.cell (p := ⟨w.heap.size, 1, none⟩) (by simp)).trans (by simp)
  have B1 : Hid (Below w.heap.size w w1) := hide (((Below.refl _ _).alloc (Nat.le_refl _) _).trans (hb1.mono (by simp)))
  clear hb1
  go_wp2_with fail
  refine (heapOf_any ((uh Hv).below (uh B1)) (by omega)).mono ?_
  rintro e w2 ⟨bx, v2, rfl, hbx, hh2, hb2⟩
  have hlt1 : w.heap.size < w1.heap.size := by omega
  have d0 := (hb2.cell (p := ⟨w.heap.size, 0, none⟩) hlt1).trans c0
  have d1 := (hb2.cell (p := ⟨w.heap.size, 1, none⟩) hlt1).trans c1
  have hz2 := hb2.size
  have H2 := hide hh2
  have B2 : Hid (Below w.heap.size w w2) := hide ((uh B1).trans (hb2.mono (by omega)))
  clear hb2 hh2 c0 c1
  go_wp2_with fail
  refine (heapPush_any f z (uh H2) (ris_heap (uh HQ).ris) (by omega) hbx hz2).mono ?_
  rintro e w3 ⟨rfl, v3, hs, hh3, hto3, hpe3, hb3⟩
  have hz3 := hb3.size
  have hsl : hs.length = ps.length + 1 := by have := hpe3.length_eq; simpa using this
  have H3 := hide hh3
  have T3 := hide hto3
  have P3 := hide hpe3
  have B3 : Hid (Below w.heap.size w w3) := hide ((uh B2).trans (hb3.mono (by omega)))
  clear hb3 hh3 hto3 hpe3 d0 d1
  go_wp2_with fail
  refine (emptied_any (uh H3) (uh T3) (by omega) hbx (by omega)).mono ?_
  rintro e w4 ⟨v4, qs, rfl, hi4, hris4, hpe4, hb4⟩
  obtain rfl : qs = putV ps (f, z) := sorted_put (uh HQ) hris4 (hpe4.trans (uh P3))
  have hz4 := hb4.size
  obtain ⟨a4, cap4, rfl⟩ := hi4.shape
  have H4 := hide hi4
  have B4 : Hid (Below w.heap.size w w4) := hide ((uh B3).trans (hb4.mono (by omega)))
  clear hi4 hris4 hpe4 hb4 H2 H3 T3 P3
  go_wp2_with fail
  refine (implQueueOk_any (uh H4).paces).mono ?_
  cases hq2 : queueB (putV ps (f, z))
  ·rintro e w5 ⟨rfl, hb5⟩
   have B5 : Hid (Below w.heap.size w w5) := hide ((uh B4).trans (hb5.mono (by omega)))
   clear hb5
   go_wp2_with fail
   refine (copyOf_any ((uh Hv).below (uh B5)) (by omega)).mono ?_
   rintro e w6 ⟨v6, rfl, hi6, hb6⟩
   obtain ⟨a6, cap6, rfl⟩ := hi6.shape
   have H6 := hide hi6
   have B6 : Hid (Below w.heap.size w w6) := hide ((uh B5).trans (hb6.mono (uh B5).size))
   clear hi6 hb6
   go_wp2_with fail
   go_ret2
   rw [queuedV_stays hq hq2]
   exact ⟨⟨_, rfl, (uh H6).mono (uh B5).size⟩, uh B6⟩
  ·rintro e w5 ⟨rfl, hb5⟩
   have H5 := hide ((uh H4).later hb5)
   have B5 : Hid (Below w.heap.size w w5) := hide ((uh B4).trans (hb5.mono (by omega)))
   clear hb5
   go_wp2_with fail
   go_ret2
   rw [queuedV_yes hq hq2]
   exact ⟨⟨_, rfl, (uh H5).mono (by omega)⟩, uh B5⟩
structure Bx (w W : World) (R : Nat) (a0 : Option Addr) (p0 : Nat) (a1 : Option Addr) (p1 : Nat) (a2 : Option Addr) (p2 : Nat) (a3 : Option Addr) (p3 : Nat) (a4 : Option Addr) (p4 : Nat) (m : SmyV) : Prop where
 smy : Smy W (.slice a0 m.rooms.length p0) (.slice a1 m.guilds.length p1) (.slice a2 m.smiths.length p2) (.slice a3 m.desks.length p3) (.slice a4 m.paces.length p4) m
 blk : Blk W R 32 #[.slice a0 m.rooms.length p0, .slice a1 m.guilds.length p1, .slice a2 m.smiths.length p2, .slice a3 m.desks.length p3, .slice a4 m.paces.length p4, .int .i64 m.now]
 bb : Below w.heap.size w W
section
variable {w W X : World} {R : Nat} {a0 a1 a2 a3 a4 : Option Addr} {p0 p1 p2 p3 p4 : Nat} {m : SmyV}
theorem Bx.next (h : Bx w W R a0 p0 a1 p1 a2 p2 a3 p3 a4 p4 m) (hb : Below W.heap.size W X) : Bx w X R a0 p0 a1 p1 a2 p2 a3 p3 a4 p4 m := ⟨h.smy.below hb, h.blk.below hb h.blk.lt, h.bb.trans (hb.mono h.bb.size)⟩
theorem Bx.alloc (h : Bx w W R a0 p0 a1 p1 a2 p2 a3 p3 a4 p4 m) (o : Obj) : Bx w (W.alloc o) R a0 p0 a1 p1 a2 p2 a3 p3 a4 p4 m := h.next ((Below.refl _ _).alloc (Nat.le_refl _) _)
theorem Bx.drew (h : Bx w W R a0 p0 a1 p1 a2 p2 a3 p3 a4 p4 m) : Bx w W.drew R a0 p0 a1 p1 a2 p2 a3 p3 a4 p4 m := h.next (Below.refl _ _).drew
theorem Bx.cells (h : Bx w W R a0 p0 a1 p1 a2 p2 a3 p3 a4 p4 m) : W.cell? ⟨R, 0, none⟩ = some (.slice a0 m.rooms.length p0) ∧ W.cell? ⟨R, 1, none⟩ = some (.slice a1 m.guilds.length p1) ∧ W.cell? ⟨R, 2, none⟩ = some (.slice a2 m.smiths.length p2) ∧ W.cell? ⟨R, 3, none⟩ = some (.slice a3 m.desks.length p3) ∧ W.cell? ⟨R, 4, none⟩ = some (.slice a4 m.paces.length p4) ∧ W.cell? ⟨R, 5, none⟩ = some (.int .i64 m.now) := h.blk.c6
end
theorem Bx.new {w : World} {v0 v1 v2 v3 v4 : Value} {m : SmyV} (h : Smy w v0 v1 v2 v3 v4 m) : ∃ a0 p0 a1 p1 a2 p2 a3 p3 a4 p4, v0 = .slice a0 m.rooms.length p0 ∧ v1 = .slice a1 m.guilds.length p1 ∧ v2 = .slice a2 m.smiths.length p2 ∧ v3 = .slice a3 m.desks.length p3 ∧ v4 = .slice a4 m.paces.length p4 ∧ Bx w (w.alloc (.cells #[.slice a0 m.rooms.length p0, .slice a1 m.guilds.length p1, .slice a2 m.smiths.length p2, .slice a3 m.desks.length p3, .slice a4 m.paces.length p4, .int .i64 m.now] 32)) w.heap.size a0 p0 a1 p1 a2 p2 a3 p3 a4 p4 m := by
 obtain ⟨a0, p0, a1, p1, a2, p2, a3, p3, a4, p4, rfl, rfl, rfl, rfl, rfl, _⟩ := h.five
 exact ⟨a0, p0, a1, p1, a2, p2, a3, p3, a4, p4, rfl, rfl, rfl, rfl, rfl, h.alloc _, Blk.new _ _ _, (Below.refl _ _).alloc (Nat.le_refl _) _⟩
end Go.Proofs.YthbbahagpmdooaaGreatDoor
namespace Go.Proofs.YthbbahagpmdooaaGreatDoor
open Go.ChangeShapes Go.WideShapes Go.ChangeAt Go.RowKit Go.Sort
set_option linter.unusedVariables false
set_option maxRecDepth 100000
theorem where_at {m : SmyV} {b : Int} {k : Nat} (hk : k < (whereTo (atB b) m.smiths m.smiths.length).length) : ∃ i : Nat, i < m.smiths.length ∧ recAt (whereTo (atB b) m.smiths m.smiths.length) k = (i : Int) := by
 obtain ⟨i, hi, e, _⟩ := (whereTo_mem (atB b) m.smiths _ m.smiths.length).1 (recAt_mem hk)
 exact ⟨i, hi, e⟩
theorem queueAt_any {w : World} {v0 v1 v2 v3 v4 : Value} {m : SmyV} (b : Int) (h : Smy w v0 v1 v2 v3 v4 m) (hL : Loose m) : Calls Tryz.prog 214 #[.agg #[v0, v1, v2, v3, v4, .int .i64 m.now], .int .i64 b] w fun e w' => ∃ v', e = .returned v' ∧ EntsAt w.heap.size w' v' (atV m.smiths b m.smiths.length) ∧ Below w.heap.size w w' := by
 have Hv := hide ((h.alloc (.cells #[v0, v1, v2, v3, v4, .int .i64 m.now] 32)).alloc (.cells #[] 194))
 have HV0 := hide h
 obtain ⟨a0, p0, a1, p1, a2, p2, a3, p3, a4, p4, rfl, rfl, rfl, rfl, rfl, _, _, _, _, _, _, _, _, _, _⟩ := h.five
 clear h
 have hl : m.smiths.length ≤ 1000 := by have := (few_of hL).smiths; omega
 have HL := hide hL
 clear hL
 have kb : Hid (Blk ((w.alloc (.cells #[.slice a0 m.rooms.length p0, .slice a1 m.guilds.length p1, .slice a2 m.smiths.length p2, .slice a3 m.desks.length p3, .slice a4 m.paces.length p4, .int .i64 m.now] 32)).alloc (.cells #[] 194)) w.heap.size 32 #[.slice a0 m.rooms.length p0, .slice a1 m.guilds.length p1, .slice a2 m.smiths.length p2, .slice a3 m.desks.length p3, .slice a4 m.paces.length p4, .int .i64 m.now]) := hide ((Blk.new w _ _).alloc _)
 have BB : Hid (Below w.heap.size w ((w.alloc (.cells #[.slice a0 m.rooms.length p0, .slice a1 m.guilds.length p1, .slice a2 m.smiths.length p2, .slice a3 m.desks.length p3, .slice a4 m.paces.length p4, .int .i64 m.now] 32)).alloc (.cells #[] 194))) := hide (((Below.refl _ _).alloc (Nat.le_refl _) _).alloc (by simp) _)
 have HE : Hid (EntsAt w.heap.size ((w.alloc (.cells #[.slice a0 m.rooms.length p0, .slice a1 m.guilds.length p1, .slice a2 m.smiths.length p2, .slice a3 m.desks.length p3, .slice a4 m.paces.length p4, .int .i64 m.now] 32)).alloc (.cells #[] 194)) (.slice (some ⟨w.heap.size + 1, 0, none⟩) 0 0) []) := hide (ents_empty (by simp) (by simp))
 go_enter Tryz.func214, Tryz.ntmps214
 go_upto_region 2 with fail
 generalize (w.alloc (.cells #[.slice a0 m.rooms.length p0, .slice a1 m.guilds.length p1, .slice a2 m.smiths.length p2, .slice a3 m.desks.length p3, .slice a4 m.paces.length p4, .int .i64 m.now] 32)).alloc (.cells #[] 194) = W at *
 obtain ⟨c0, c1, c2, c3, c4, c5⟩ := (uh kb).c6
 go_wp2_with fail
 refine (whoIsAt_any b (uh Hv) hl).mono ?_
 rintro e w1 ⟨vn, rfl, hn, hb⟩
 obtain ⟨na, nc, rfl⟩ := RecAt.shape hn
 have HN0 := hide (RecAt.mono hn (uh BB).size)
 have Hv1 := hide ((uh Hv).below hb)
 have kb1 := hide ((uh kb).below hb (uh kb).lt)
 have BB1 := hide ((uh BB).trans (hb.mono (uh BB).size))
 have HE1 := hide ((uh HE).later hb)
 clear hb hn c0 c1 c2 c3 c4 c5 Hv kb BB HE
 have Hq := hide (queueOf_at m.smiths b m.smiths.length)
 have Hwh := hide (fun k hk => where_at (m := m) (b := b) (k := k) hk)
 have Hpq := hide (fun k => part_queue (uh HL) b k)
 have hwl := whereTo_len (atB b) m.smiths m.smiths.length
 generalize whereTo (atB b) m.smiths m.smiths.length = ws at *
 go_wp2_with fail
 go_loopw [5, 13] (fun l i wr => ∃ k : Nat, k ≤ ws.length ∧ i = .int .i64 k ∧ EntsAt w.heap.size wr l (queueOf m.smiths (ws.take k)) ∧ NumsAt w.heap.size wr (.slice na ws.length nc) ws ∧ Blk wr w.heap.size 32 #[.slice a0 m.rooms.length p0, .slice a1 m.guilds.length p1, .slice a2 m.smiths.length p2, .slice a3 m.desks.length p3, .slice a4 m.paces.length p4, .int .i64 m.now] ∧ Smy wr (.slice a0 m.rooms.length p0) (.slice a1 m.guilds.length p1) (.slice a2 m.smiths.length p2) (.slice a3 m.desks.length p3) (.slice a4 m.paces.length p4) m ∧ Below w.heap.size w wr) (fun _ i _ => ws.length - (intOf i).toNat)
 case atStart => exact ⟨0, Nat.zero_le _, rfl, uh HE1, uh HN0, uh kb1, uh Hv1, uh BB1⟩
 case round =>
  obtain ⟨k, hk, rfl, he, hn, hkb, hv, hb0⟩ := hrel
  obtain ⟨la, lc, rfl⟩ := EntsAt.shape he
  have HE := hide he
  have HN := hide hn
  have kb := hide hkb
  have Hv := hide hv
  have BB := hide hb0
  clear he hn hkb hv hb0 HE1 HN0 kb1 Hv1 BB1
  by_cases hlt : k < ws.length
  ·have hlt1 : (k : Int) < (ws.length : Int) := by omega
   obtain ⟨g, hga, _, _, hcl, _⟩ := RecAt.view encNum_len (by omega) (uh HN) rfl (by omega)
   cases hga
   have z0 := hcl k hlt 0 _ rfl
   simp only [Nat.mul_one, Nat.add_zero] at z0
   obtain ⟨i, hi, hiw⟩ := uh Hwh k hlt
   rw [hiw] at z0
   have hi1 : (i : Int) < (m.smiths.length : Int) := by omega
   obtain ⟨_, _, hse, _, _, r2⟩ := (uh Hv).smiths
   cases hse
   rcases r2 with e0 | ⟨sb, off, rfl, hbw, hcs⟩
   ·rw [e0] at hi; simp at hi
   obtain ⟨_, _, _, _, _, _, _, d7, _⟩ := smith_cells hcs hi
   have HT : Hid (queueOf m.smiths (ws.take (k + 1)) = putV (queueOf m.smiths (ws.take k)) (hadS (recAt m.smiths i), (i : Int))) := hide (by rw [take_snoc_at hlt, queueOf_snoc, hiw]; simp)
   have hq1 := uh Hpq k
   have hq2 := uh Hpq (k + 1)
   rw [uh HT] at hq2
   have HQ := hide (queuedV_yes hq1 hq2)
   clear hcl hcs hq1 hq2
   have e7 : (recAt m.smiths i).2.2.2.2.2.2.2.1 = hadS (recAt m.smiths i) := rfl
   rw [e7] at d7
   clear e7
   generalize hadS (recAt m.smiths i) = hd at *
   have c2 := (uh kb).cell (i := 2) (v := .slice (some ⟨sb, off, none⟩) m.smiths.length p2) rfl
   go_wp2_with fail
   refine (implQueued_any hd (i : Int) (uh HE).paces).mono ?_
   rw [uh HQ]
   rintro e w2 ⟨⟨v', rfl, he⟩, hb⟩
   obtain ⟨ua, uc, rfl⟩ := EntsAt.shape he
   have HE2 := hide (he.mono (uh BB).size)
   replace HN := hide (RecAt.later (uh HN) hb)
   replace kb := bl kb hb
   replace Hv := hide ((uh Hv).below hb)
   replace BB := bt BB hb
   clear hb he c2 d7 z0
   go_wp2_with fail
   go_roundw
   case rel => exact ⟨k + 1, by omega, by go_num, by rw [uh HT]; exact uh HE2, uh HN, uh kb, uh Hv, uh BB⟩
   case measure => simp [intOf]; omega
  ·obtain rfl : k = ws.length := by omega
   have HE3 : Hid (EntsAt w.heap.size wr (.slice la (queueOf m.smiths (ws.take ws.length)).length lc) (atV m.smiths b m.smiths.length)) := hide (by
    have h9 := uh HE
    have e9 : queueOf m.smiths (ws.take ws.length) = atV m.smiths b m.smiths.length := by rw [List.take_length, uh Hq]
    rw [← e9]
    exact h9)
   go_wp2_with fail
   go_ret
   exact ⟨_, rfl, uh HE3, uh BB⟩
theorem wantOf_w {w : World} {v0 v1 v2 v3 v4 : Value} {m : SmyV} {k : Nat} (h : Smy w v0 v1 v2 v3 v4 m) (hL : Wants m) (hk : k < m.smiths.length) (hs : (recAt m.smiths k).1 ≠ 0) : Calls Tryz.prog 269 #[.agg #[v0, v1, v2, v3, v4, .int .i64 m.now], .int .i64 (k : Int)] w fun e w' => e = .returned (.int .i64 (wantV m (k : Int))) ∧ Below w.heap.size w w' := by
 have hw : wantV m (k : Int) = wantS m.guilds (recAt m.smiths k) := rfl
 rw [hw]
 clear hw
 have Hg0 := hide h.guilds
 obtain ⟨a0, p0, rfl, _, _⟩ := IsRooms.shape h.rooms
 obtain ⟨a1, p1, rfl, _, _⟩ := IsRec.shape h.guilds
 obtain ⟨a2, p2, rfl, hc2, hm2, r2⟩ := h.smiths
 obtain ⟨a3, p3, rfl, _, _⟩ := IsRec.shape h.desks
 obtain ⟨a4, p4, rfl, _, _⟩ := IsRec.shape h.paces
 clear h
 obtain ⟨hg1, hpair⟩ := hL.each k hk hs
 rcases r2 with e0 | ⟨sb, off, rfl, hbw, hcl⟩
 ·rw [e0] at hk; simp at hk
 have hk1 : (k : Int) < (m.smiths.length : Int) := by omega
 obtain ⟨d0, d1, d2, d3, d4, d5, d6, d7, d8, d9, d10⟩ := smith_cells hcl hk
 clear hcl hs hL
 generalize recAt m.smiths k = ss at *
 obtain ⟨st, be, rk, my, gu, lo, hi, hd, ca, ut, wk⟩ := ss
 simp only at d0 d1 d2 d3 d4 d5 d6 d7 d8 d9 d10 hg1 hpair
 obtain ⟨nr, hnr⟩ : ∃ nr, narV (bnd m.guilds gu) lo hi = nr := ⟨_, rfl⟩
 have HW : Hid (withinV m.guilds gu lo hi = nr) := hide (by rw [← hnr]; exact withinV_t hg1 hpair)
 have HX : Hid (wantS m.guilds (st, be, rk, my, gu, lo, hi, hd, ca, ut, wk) = min (max ut nr.1) nr.2) := hide (by rw [← hnr]; rfl)
 rw [uh HX]
 clear hpair hg1 HX hnr
 obtain ⟨nl, nh⟩ := nr
 dsimp only
 have hne : sb ≠ w.heap.size := Nat.ne_of_lt hbw
 have hbw2 : sb < w.heap.size + 1 := by omega
 have BB : Hid (Below w.heap.size w ((w.alloc (.cells #[.slice a0 m.rooms.length p0, .slice a1 m.guilds.length p1, .slice (some ⟨sb, off, none⟩) m.smiths.length p2, .slice a3 m.desks.length p3, .slice a4 m.paces.length p4, .int .i64 m.now] 32)).alloc (.cells #[.int .i64 st, .int .i64 be, .int .i64 rk, .int .i64 my, .int .i64 gu, .int .i64 lo, .int .i64 hi, .int .i64 hd, .int .i64 ca, .int .i64 ut, .int .i64 wk] 40))) := hide (((Below.refl _ _).alloc (Nat.le_refl _) _).alloc (by simp) _)
 have ks : Hid (Blk ((w.alloc (.cells #[.slice a0 m.rooms.length p0, .slice a1 m.guilds.length p1, .slice (some ⟨sb, off, none⟩) m.smiths.length p2, .slice a3 m.desks.length p3, .slice a4 m.paces.length p4, .int .i64 m.now] 32)).alloc (.cells #[.int .i64 st, .int .i64 be, .int .i64 rk, .int .i64 my, .int .i64 gu, .int .i64 lo, .int .i64 hi, .int .i64 hd, .int .i64 ca, .int .i64 ut, .int .i64 wk] 40)) (w.heap.size + 1) 40 #[.int .i64 st, .int .i64 be, .int .i64 rk, .int .i64 my, .int .i64 gu, .int .i64 lo, .int .i64 hi, .int .i64 hd, .int .i64 ca, .int .i64 ut, .int .i64 wk]) := hide (by
  have k9 := Blk.new (w.alloc (.cells #[.slice a0 m.rooms.length p0, .slice a1 m.guilds.length p1, .slice (some ⟨sb, off, none⟩) m.smiths.length p2, .slice a3 m.desks.length p3, .slice a4 m.paces.length p4, .int .i64 m.now] 32)) 40 #[.int .i64 st, .int .i64 be, .int .i64 rk, .int .i64 my, .int .i64 gu, .int .i64 lo, .int .i64 hi, .int .i64 hd, .int .i64 ca, .int .i64 ut, .int .i64 wk]
  rw [World.size_alloc] at k9
  exact k9)
 have kb : Hid (Blk ((w.alloc (.cells #[.slice a0 m.rooms.length p0, .slice a1 m.guilds.length p1, .slice (some ⟨sb, off, none⟩) m.smiths.length p2, .slice a3 m.desks.length p3, .slice a4 m.paces.length p4, .int .i64 m.now] 32)).alloc (.cells #[.int .i64 st, .int .i64 be, .int .i64 rk, .int .i64 my, .int .i64 gu, .int .i64 lo, .int .i64 hi, .int .i64 hd, .int .i64 ca, .int .i64 ut, .int .i64 wk] 40)) w.heap.size 32 #[.slice a0 m.rooms.length p0, .slice a1 m.guilds.length p1, .slice (some ⟨sb, off, none⟩) m.smiths.length p2, .slice a3 m.desks.length p3, .slice a4 m.paces.length p4, .int .i64 m.now]) := hide ((Blk.new w _ _).alloc _)
 have Hg2 := hide ((uh Hg0).below (uh BB))
 go_enter Tryz.func269, Tryz.ntmps269
 go_upto_region 2 with fail
 generalize (w.alloc (.cells #[.slice a0 m.rooms.length p0, .slice a1 m.guilds.length p1, .slice (some ⟨sb, off, none⟩) m.smiths.length p2, .slice a3 m.desks.length p3, .slice a4 m.paces.length p4, .int .i64 m.now] 32)).alloc (.cells #[.int .i64 st, .int .i64 be, .int .i64 rk, .int .i64 my, .int .i64 gu, .int .i64 lo, .int .i64 hi, .int .i64 hd, .int .i64 ca, .int .i64 ut, .int .i64 wk] 40) = W at *
 clear d0 d1 d2 d3 d4 d5 d6 d7 d8 d9 d10
 have c1 := (uh kb).cell (i := 1) (v := .slice a1 m.guilds.length p1) rfl
 have s4 := (uh ks).cell (i := 4) (v := .int .i64 gu) rfl
 have s5 := (uh ks).cell (i := 5) (v := .int .i64 lo) rfl
 have s6 := (uh ks).cell (i := 6) (v := .int .i64 hi) rfl
 go_wp2_with fail
 refine (implWithin_any gu lo hi (uh Hg2)).mono ?_
 rw [uh HW]
 rintro e w1 ⟨rfl, hb⟩
 replace ks := bl ks hb
 replace BB := bt BB hb
 clear hb c1 s4 s5 s6 HW
 have s9 := (uh ks).cell (i := 9) (v := .int .i64 ut) rfl
 go_wp2_with (go_at_call 263; refine (implClamped_any _ _ _ _).mono ?_; rintro e w' ⟨rfl, h9⟩; subst w')
 go_ret
 exact ⟨rfl, uh BB⟩
theorem wantOf_any {w : World} {v0 v1 v2 v3 v4 : Value} {m : SmyV} {k : Nat} (h : Smy w v0 v1 v2 v3 v4 m) (hL : Loose m) (hk : k < m.smiths.length) (hs : (recAt m.smiths k).1 ≠ 0) : Calls Tryz.prog 269 #[.agg #[v0, v1, v2, v3, v4, .int .i64 m.now], .int .i64 (k : Int)] w fun e w' => e = .returned (.int .i64 (wantV m (k : Int))) ∧ Below w.heap.size w w' := wantOf_w h hL.wants hk hs
theorem whoB_has {m : SmyV} (who : Int) : whoB m who = (hasB m.smiths.length who && !((recAt m.smiths who.toNat).1 == 0)) := by unfold whoB; rw [has_in]
theorem isThere_any {w : World} {v0 v1 v2 v3 v4 : Value} {m : SmyV} {who : Int} {q : Bool} (hq : whoB m who = q) (h : Smy w v0 v1 v2 v3 v4 m) : Calls Tryz.prog 132 #[.agg #[v0, v1, v2, v3, v4, .int .i64 m.now], .int .i64 who] w fun e w' => e = .returned (.bool q) ∧ Below w.heap.size w w' := by
 rw [whoB_has] at hq
 have Hq := hide hq
 clear hq
 obtain ⟨a0, p0, a1, p1, a2, p2, a3, p3, a4, p4, rfl, rfl, rfl, rfl, rfl, K⟩ := Bx.new h
 clear h
 go_enter Tryz.func132, Tryz.ntmps132
 go_wp2_with fail
 generalize w.alloc (.cells #[.slice a0 m.rooms.length p0, .slice a1 m.guilds.length p1, .slice a2 m.smiths.length p2, .slice a3 m.desks.length p3, .slice a4 m.paces.length p4, .int .i64 m.now] 32) = W at *
 obtain ⟨c0, c1, c2, c3, c4, c5⟩ := K.cells
 go_wp2_with fail
 refine (smithsOf_any _ _ _ _ _ _ _ _ _ _ _ _ _ _ _ _ _).mono ?_
 rintro e w2 ⟨rfl, hb⟩
 replace K := K.next hb
 clear hb c0 c1 c2 c3 c4 c5
 obtain ⟨qh, hqh⟩ : ∃ q, hasB m.smiths.length who = q := ⟨_, rfl⟩
 have Hh := hide hqh
 clear hqh
 go_wp2_with fail
 refine (hasSmith_any _ _ _ who _).mono ?_
 rw [uh Hh]
 rintro e w3 ⟨rfl, h9⟩
 subst w3
 cases qh
 ·obtain rfl : q = false := by rw [← uh Hq, uh Hh]; rfl
  go_wp2_with fail
  go_ret
  exact ⟨rfl, K.bb⟩
 have hwb : 0 ≤ who ∧ who < (m.smiths.length : Int) := by have := uh Hh; unfold hasB at this; simpa using this
 obtain ⟨k, rfl⟩ : ∃ k : Nat, who = k := ⟨who.toNat, by omega⟩
 have hk : k < m.smiths.length := by omega
 have hk1 : (k : Int) < (m.smiths.length : Int) := by omega
 obtain ⟨_, _, hse, _, _, r2⟩ := K.smy.smiths
 cases hse
 rcases r2 with e0 | ⟨sb, off, rfl, hbw, hcl⟩
 ·rw [e0] at hk; simp at hk
 obtain ⟨d0, d1, d2, d3, d4, d5, d6, d7, d8, d9, d10⟩ := smith_cells hcl hk
 obtain ⟨_, _, c2, _, _, _⟩ := K.cells
 have HS : Hid (q = !((recAt m.smiths k).1 == 0)) := hide (by rw [← uh Hq, uh Hh, Int.toNat_natCast]; rfl)
 clear hcl
 generalize recAt m.smiths k = ss at *
 obtain ⟨st, be, rk, my, gu, lo, hi, hd, ca, ut, wk⟩ := ss
 simp only at d0 d1 d2 d3 d4 d5 d6 d7 d8 d9 d10
 go_wp2_with fail
 refine (isGone_any st be rk my gu lo hi hd ca ut wk _).mono ?_
 rintro e w4 ⟨rfl, hb⟩
 replace K := K.next hb
 clear hb c2 d0 d1 d2 d3 d4 d5 d6 d7 d8 d9 d10
 obtain rfl : q = !(st == 0) := uh HS
 go_wp2_with fail
 go_ret
 exact ⟨rfl, K.bb⟩
theorem implWantOf_any {w : World} {v0 v1 v2 v3 v4 : Value} {m : SmyV} {who q : Int} (hq : wantOfV m who = q) (h : Smy w v0 v1 v2 v3 v4 m) : Calls Tryz.prog 219 #[.agg #[v0, v1, v2, v3, v4, .int .i64 m.now], .int .i64 who] w fun e w' => e = .returned (.int .i64 q) ∧ Below w.heap.size w w' := by
 have Hq := hide hq
 clear hq
 obtain ⟨ok, hok⟩ : ∃ q, smyB m = q := ⟨_, rfl⟩
 have Hok := hide hok
 clear hok
 obtain ⟨a0, p0, a1, p1, a2, p2, a3, p3, a4, p4, rfl, rfl, rfl, rfl, rfl, K⟩ := Bx.new h
 clear h
 go_enter Tryz.func219, Tryz.ntmps219
 go_wp2_with fail
 generalize w.alloc (.cells #[.slice a0 m.rooms.length p0, .slice a1 m.guilds.length p1, .slice a2 m.smiths.length p2, .slice a3 m.desks.length p3, .slice a4 m.paces.length p4, .int .i64 m.now] 32) = W at *
 refine (implSmithyOk_q _ _ _ _ _ _ _ _ (uh Hok) K.smy).mono ?_
 rintro e w1 ⟨rfl, hb⟩
 replace K := K.next hb
 clear hb
 cases ok
 ·obtain rfl : q = -1 := by rw [← uh Hq]; unfold wantOfV; rw [uh Hok]; rfl
  go_wp2_with fail
  go_ret
  exact ⟨rfl, K.bb⟩
 obtain ⟨qh, hqh⟩ : ∃ q, whoB m who = q := ⟨_, rfl⟩
 have Hh := hide hqh
 clear hqh
 obtain ⟨c0, c1, c2, c3, c4, c5⟩ := K.cells
 go_wp2_with fail
 refine (isThere_any (uh Hh) K.smy).mono ?_
 rintro e w2 ⟨rfl, hb⟩
 replace K := K.next hb
 clear hb c0 c1 c2 c3 c4 c5
 cases qh
 ·obtain rfl : q = -1 := by rw [← uh Hq]; unfold wantOfV; rw [uh Hh]; simp
  go_wp2_with fail
  go_ret
  exact ⟨rfl, K.bb⟩
 obtain ⟨k, rfl, hk, hs⟩ := whoB_of (uh Hh)
 obtain rfl : q = wantV m (k : Int) := by rw [← uh Hq]; unfold wantOfV; rw [uh Hok, uh Hh]; rfl
 obtain ⟨c0, c1, c2, c3, c4, c5⟩ := K.cells
 go_wp2_with fail
 refine (wantOf_any K.smy (smy_loose (uh Hok)) hk hs).mono ?_
 rintro e w3 ⟨rfl, hb⟩
 replace K := K.next hb
 clear hb c0 c1 c2 c3 c4 c5
 go_wp2_with fail
 go_ret
 exact ⟨rfl, K.bb⟩
set_option maxRecDepth 100000
theorem usedAt_any {w : World} {v0 v1 v2 v3 v4 : Value} {m : SmyV} {b q : Int} (hq : usedV m b (-1) = q) (h : Smy w v0 v1 v2 v3 v4 m) (hW : Wants m) (hl : m.smiths.length ≤ 12) : Calls Tryz.prog 303 #[.agg #[v0, v1, v2, v3, v4, .int .i64 m.now], .int .i64 b] w fun e w' => e = .returned (.int .i64 q) ∧ Below w.heap.size w w' := by
 have Hq := hide hq
 clear hq
 have HW := hide hW
 clear hW
 obtain ⟨a0, p0, a1, p1, a2, p2, a3, p3, a4, p4, rfl, rfl, rfl, rfl, rfl, K⟩ := Bx.new h
 clear h
 go_enter Tryz.func303, Tryz.ntmps303
 go_upto_region 2 with fail
 generalize w.alloc (.cells #[.slice a0 m.rooms.length p0, .slice a1 m.guilds.length p1, .slice a2 m.smiths.length p2, .slice a3 m.desks.length p3, .slice a4 m.paces.length p4, .int .i64 m.now] 32) = W at *
 obtain ⟨c0, c1, c2, c3, c4, c5⟩ := K.cells
 go_wp2_with fail
 refine (whoIsAt_any b K.smy (by omega)).mono ?_
 rintro e w1 ⟨vn, rfl, hn, hb⟩
 obtain ⟨na, nc, rfl⟩ := RecAt.shape hn
 have HN := hide hn
 replace K := K.next hb
 clear hb hn c0 c1 c2 c3 c4 c5
 have Hwh := hide (fun k hk => where_at (m := m) (b := b) (k := k) hk)
 have Hat := hide (fun x hx => (whereTo_mem (atB b) m.smiths x m.smiths.length).1 hx)
 have hwl := whereTo_len (atB b) m.smiths m.smiths.length
 rw [← used_where] at Hq
 generalize whereTo (atB b) m.smiths m.smiths.length = ws at *
 go_wp2_with fail
 go_loopw [5, 12] (fun u i wr => ∃ k : Nat, k ≤ ws.length ∧ i = .int .i64 k ∧ u = .int .i64 (sumW m (ws.take k)) ∧ Bx w wr w.heap.size a0 p0 a1 p1 a2 p2 a3 p3 a4 p4 m ∧ Below w1.heap.size w1 wr) (fun _ i _ => ws.length - (intOf i).toNat)
 case atStart => exact ⟨0, Nat.zero_le _, rfl, rfl, K, Below.refl _ _⟩
 case round =>
  obtain ⟨k, hk, rfl, rfl, hK, hb0⟩ := hrel
  clear K
  have K := hK
  have BB := hide hb0
  clear hK hb0
  have hub := sumW_bd m (ws.take k)
  have htl : (ws.take k).length ≤ ws.length := by simp; omega
  by_cases hlt : k < ws.length
  ·have hlt1 : (k : Int) < (ws.length : Int) := by omega
   obtain ⟨g, hga, _, hgl, hcl, _⟩ := RecAt.view encNum_len (by omega) (uh HN) rfl (by omega)
   cases hga
   have z0 := hcl k hlt 0 _ rfl
   simp only [Nat.mul_one, Nat.add_zero] at z0
   have hgw : g < w1.heap.size := hgl
   rw [← (uh BB).cell (p := ⟨g, k, none⟩) hgw] at z0
   obtain ⟨i, hi, hiw⟩ := uh Hwh k hlt
   obtain ⟨_, _, hi2, hat⟩ := uh Hat _ (recAt_mem hlt)
   have hpi : (recAt m.smiths i).1 ≠ 0 := by
    rw [hiw] at hi2
    obtain rfl := Int.ofNat.inj hi2
    intro e
    unfold atB at hat
    rw [e] at hat
    simp at hat
   clear hcl hi2 hat
   have HS : Hid (sumW m (ws.take (k + 1)) = sumW m (ws.take k) + wantV m (i : Int)) := hide (by rw [sumW_step m hlt, hiw])
   rw [hiw] at z0
   have hwb := wantV_bd m (i : Int)
   have HC := hide (fun (X : World) (hX : Smy X (.slice a0 m.rooms.length p0) (.slice a1 m.guilds.length p1) (.slice a2 m.smiths.length p2) (.slice a3 m.desks.length p3) (.slice a4 m.paces.length p4) m) => wantOf_w hX (uh HW) hi hpi)
   generalize sumW m (ws.take k) = us at *
   generalize wantV m (i : Int) = wa at *
   have hgr : g < wr.heap.size := Nat.lt_of_lt_of_le hgw (uh BB).size
   obtain ⟨c0, c1, c2, c3, c4, c5⟩ := K.cells
   go_wp2_with fail
   refine (uh HC _ K.smy).mono ?_
   rintro e w2 ⟨rfl, hb⟩
   replace K := K.next hb
   replace BB := bt BB hb
   clear hb c0 c1 c2 c3 c4 c5 z0
   have hlen12 : (ws.length : Int) ≤ 12 := by omega
   go_wp2_with fail
   go_roundw
   case rel => exact ⟨k + 1, by omega, by go_num, by rw [uh HS], K, uh BB⟩
   case measure => simp [intOf]; omega
  ·obtain rfl : k = ws.length := by omega
   rw [List.take_length] at *
   obtain rfl : q = sumW m ws := (uh Hq).symm
   go_wp2_with fail
   go_ret
   exact ⟨rfl, K.bb⟩
theorem hasOpen_any {w : World} {v0 v1 v2 v3 v4 : Value} {m : SmyV} {b : Int} {q : Bool} (hq : openB m b = q) (h : Smy w v0 v1 v2 v3 v4 m) : Calls Tryz.prog 271 #[.agg #[v0, v1, v2, v3, v4, .int .i64 m.now], .int .i64 b] w fun e w' => e = .returned (.bool q) ∧ Below w.heap.size w w' := by
 have Hq := hide hq
 clear hq
 obtain ⟨a0, p0, a1, p1, a2, p2, a3, p3, a4, p4, rfl, rfl, rfl, rfl, rfl, K⟩ := Bx.new h
 clear h
 go_enter Tryz.func271, Tryz.ntmps271
 go_wp2_with fail
 generalize w.alloc (.cells #[.slice a0 m.rooms.length p0, .slice a1 m.guilds.length p1, .slice a2 m.smiths.length p2, .slice a3 m.desks.length p3, .slice a4 m.paces.length p4, .int .i64 m.now] 32) = W at *
 refine (desksOf_any _ _ _ _ _ _ _ _ _ _ _ _ _ _ _ _ _).mono ?_
 rintro e w2 ⟨rfl, hb⟩
 replace K := K.next hb
 clear hb
 obtain ⟨qh, hqh⟩ : ∃ q, hasB m.desks.length b = q := ⟨_, rfl⟩
 have Hh := hide hqh
 clear hqh
 go_wp2_with fail
 refine (hasDesk_any _ _ _ b _).mono ?_
 rw [uh Hh]
 rintro e w3 ⟨rfl, h9⟩
 subst w3
 cases qh
 ·obtain rfl : q = false := by rw [← uh Hq]; unfold openB; rw [uh Hh]; rfl
  go_wp2_with fail
  go_ret
  exact ⟨rfl, K.bb⟩
 have hbb : 0 ≤ b ∧ b < (m.desks.length : Int) := by have := uh Hh; unfold hasB at this; simpa using this
 obtain ⟨k, rfl⟩ : ∃ k : Nat, b = k := ⟨b.toNat, by omega⟩
 have hk : k < m.desks.length := by omega
 have hk1 : (k : Int) < (m.desks.length : Int) := by omega
 obtain ⟨_, _, hde, _, _, r3⟩ := K.smy.desks
 cases hde
 rcases r3 with e0 | ⟨db, off, rfl, hbw, hcl⟩
 ·rw [e0] at hk; simp at hk
 obtain ⟨d0, d1, d2⟩ := desk_cells hcl hk
 have hq2 : (recAt m.desks k).1 = q := by rw [← uh Hq]; unfold openB; rw [uh Hh, Int.toNat_natCast]; rfl
 clear hcl Hq
 generalize recAt m.desks k = dd at *
 obtain ⟨op, wo, mk⟩ := dd
 simp only at d0 d1 d2 hq2
 subst hq2
 obtain ⟨c0, c1, c2, c3, c4, c5⟩ := K.cells
 go_wp2_with fail
 refine (isOpen_any op wo mk _).mono ?_
 rintro e w4 ⟨rfl, hb⟩
 replace K := K.next hb
 clear hb c0 c1 c2 c3 c4 c5 d0 d1 d2
 go_wp2_with fail
 go_ret
 exact ⟨rfl, K.bb⟩
end Go.Proofs.YthbbahagpmdooaaGreatDoor
