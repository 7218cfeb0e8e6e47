/- Part 35 of what the proof rests on. No condition but those that a theorem names. -/
import Derived.Test.YthbbahagpmdooaaGreatDoorXw34
set_option maxHeartbeats 8000000
set_option maxRecDepth 100000
namespace Go.Proofs.YthbbahagpmdooaaGreatDoor
open Go.ChangeShapes Go.WideShapes Go.ChangeAt Go.RowKit Go.Sort Go.Shelf
set_option linter.unusedVariables false
set_option linter.unusedSimpArgs false
set_option maxRecDepth 100000
structure Nx (w W : World) (R : Nat) (v0 v1 v2 v3 v4 : Value) (m : SmyV) (qs : List (RoomV × Value)) : Prop where
 full : FullSmy w.heap.size W v0 v1 v2 v3 v4 m qs
 blk : Blk W R 32 #[v0, v1, v2, v3, v4, .int .i64 m.now]
 own : ∀ k, OwnB v0 v1 v2 v3 v4 qs k → k ≠ R
 bb : Below w.heap.size w W
 hR : w.heap.size ≤ R
section
variable {w W X : World} {R : Nat} {v0 v1 v2 v3 v4 : Value} {m : SmyV} {qs : List (RoomV × Value)}
theorem Nx.next (h : Nx w W R v0 v1 v2 v3 v4 m qs) (hb : Below W.heap.size W X) : Nx w X R v0 v1 v2 v3 v4 m qs := ⟨h.full.below hb, h.blk.below hb h.blk.lt, h.own, h.bb.trans (hb.mono h.bb.size), h.hR⟩
theorem Nx.cells (h : Nx w W R v0 v1 v2 v3 v4 m qs) : W.cell? ⟨R, 0, none⟩ = some v0 ∧ W.cell? ⟨R, 1, none⟩ = some v1 ∧ W.cell? ⟨R, 2, none⟩ = some v2 ∧ W.cell? ⟨R, 3, none⟩ = some v3 ∧ W.cell? ⟨R, 4, none⟩ = some v4 ∧ W.cell? ⟨R, 5, none⟩ = some (.int .i64 m.now) := h.blk.c6
theorem Nx.putS {g n cap : Nat} (h : Nx w W R v0 v1 (.slice (some ⟨g, 0, none⟩) n cap) v3 v4 m qs) (hn : n = m.smiths.length) {j i : Nat} (hj : j < m.smiths.length) (hi : i < 11) (u : Value) (x : SmithV) (hx : encSmith x = (encSmith (recAt m.smiths j)).set i u) : Nx w (W.setCell ⟨g, j * 11 + i, none⟩ u) R v0 v1 (.slice (some ⟨g, 0, none⟩) n cap) v3 v4 (setS m j x) qs := by
 have hg := h.full.own (k := g) (.inr (.inr (.inr (.inl rfl))))
 have hgR := h.own g (.inr (.inr (.inr (.inl rfl))))
 exact ⟨h.full.putS hn hj hi u x hx, h.blk.other (a := ⟨g, j * 11 + i, none⟩) (fun e => hgR e.symm) u, h.own, h.bb.setCell (p := ⟨g, j * 11 + i, none⟩) hg.1 u, h.hR⟩
end
def Chg (w : World) (R : Nat) (q : Int → Addr) (X : SmyV) (c : Int) (e : Ending) (W' : World) : Prop :=
 Below w.heap.size w W' ∧ ((c = 0 ∧ e = .returned .nilIface ∧ ∃ u0 u1 u2 u3 u4 rs, Nx w W' R u0 u1 u2 u3 u4 X rs) ∨ ((c = 1 ∨ c = 2 ∨ c = 3 ∨ c = 4) ∧ e = .returned (sent (q c))))
theorem Chg.no {w W' : World} {R : Nat} {q : Int → Addr} {X : SmyV} {c d : Int} (h : Below w.heap.size w W') (e : c = d) (hd : d = 1 ∨ d = 2 ∨ d = 3 ∨ d = 4) : Chg w R q X c (.returned (sent (q d))) W' := by
 subst e
 exact ⟨h, .inr ⟨hd, rfl⟩⟩
theorem Chg.yes {w W' : World} {R : Nat} {q : Int → Addr} {X Y : SmyV} {c : Int} {u0 u1 u2 u3 u4 : Value} {rs : List (RoomV × Value)} (h : Nx w W' R u0 u1 u2 u3 u4 Y rs) (e : c = 0) (hX : X = Y) : Chg w R q X c (.returned .nilIface) W' := by
 subst e hX
 exact ⟨h.bb, .inl ⟨rfl, rfl, _, _, _, _, _, _, h⟩⟩
theorem setS_same (m : SmyV) (k : Nat) (s t : SmithV) : setS (setS m k s) k t = setS m k t := by unfold setS; simp
theorem moveTo_any {w W : World} {R g n cap : Nat} {v0 v1 v3 v4 : Value} {m : SmyV} {qs : List (RoomV × Value)} (K : Nx w W R v0 v1 (.slice (some ⟨g, 0, none⟩) n cap) v3 v4 m qs) (hn : n = m.smiths.length) {k : Nat} (hk : k < m.smiths.length) (b had : Int) :
  Calls Tryz.prog 105 #[.pointer (some ⟨g, k * 11, none⟩), .int .i64 b, .int .i64 had] W fun e W' => e = .returned (.tuple #[]) ∧ Nx w W' R v0 v1 (.slice (some ⟨g, 0, none⟩) n cap) v3 v4 (setS m k (sitS (recAt m.smiths k) b had)) qs := by
 obtain ⟨⟨st, be, rk, my, gu, lo, hi, hd, ca, ut, wk⟩, hrk⟩ : ∃ d, recAt m.smiths k = d := ⟨_, rfl⟩
 have hl : ∀ x : SmithV, k < (setS m k x).smiths.length := fun x => by unfold setS; simpa using hk
 have hlen : ∀ x : SmithV, n = (setS m k x).smiths.length := fun x => by unfold setS; simpa using hn
 have hat : ∀ x : SmithV, recAt (setS m k x).smiths k = x := fun x => by unfold setS; rw [recAt_set hk, if_pos rfl]
 obtain ⟨_, hga, _, _, hc, hz⟩ := RecAt.view encSmith_len (by omega) K.full.smiths hn (by omega)
 cases hga
 have s0 := hc k hk 0 _ rfl
 have f0 := hz (k * 11)
 have K1 := K.putS hn hk (i := 0) (by omega) (.int .i64 2) (2, be, rk, my, gu, lo, hi, hd, ca, ut, wk) (by rw [hrk]; rfl)
 obtain ⟨_, hga, _, _, hc1, hz1⟩ := RecAt.view encSmith_len (by omega) K1.full.smiths (hlen _) (by have := hl (2, be, rk, my, gu, lo, hi, hd, ca, ut, wk); omega)
 cases hga
 have s1 := hc1 k (hl _) 1 _ rfl
 have f1 := hz1 (k * 11 + 1)
 have K2 := K1.putS (hlen _) (hl _) (i := 1) (by omega) (.int .i64 b) (2, b, rk, my, gu, lo, hi, hd, ca, ut, wk) (by rw [hat]; rfl)
 rw [setS_same] at K2
 obtain ⟨_, hga, _, _, hc2, hz2⟩ := RecAt.view encSmith_len (by omega) K2.full.smiths (hlen _) (by have := hl (2, b, rk, my, gu, lo, hi, hd, ca, ut, wk); omega)
 cases hga
 have s7 := hc2 k (hl _) 7 _ rfl
 have f7 := hz2 (k * 11 + 7)
 have K3 := K2.putS (hlen _) (hl _) (i := 7) (by omega) (.int .i64 had) (2, b, rk, my, gu, lo, hi, had, ca, ut, wk) (by rw [hat]; rfl)
 rw [setS_same] at K3
 simp only [Nat.add_zero] at s0 s1 s7 K3
 simp only [Nat.add_zero] at f1 f7
 have HK := hide K3
 have hres : sitS (st, be, rk, my, gu, lo, hi, hd, ca, ut, wk) b had = (2, b, rk, my, gu, lo, hi, had, ca, ut, wk) := rfl
 rw [hrk, hres]
 clear K K1 K2 K3 hc hz hc1 hz1 hc2 hz2 hat hl hlen hres hrk
 go_enter Tryz.func105, Tryz.ntmps105
 go_wp2_with fail
 go_end0
 exact ⟨rfl, uh HK⟩
theorem wakes_any {w W : World} {R : Nat} {v0 v1 v2 v3 v4 : Value} {m : SmyV} {qs : List (RoomV × Value)} {q : Int → Addr} (K : Nx w W R v0 v1 v2 v3 v4 m qs) (he : Errs w q) (hm : smyB m = true) (who : Int) : Calls Tryz.prog 60 #[.pointer (some ⟨R, 0, none⟩), .int .i64 who] W fun e W' => Chg w R q (wakeX m who.toNat (chosenOfV m who)) (wakeC m who) e W' := by
 obtain ⟨wq, hwq⟩ : ∃ b, whoB m who = b := ⟨_, rfl⟩
 have Hwq := hide hwq
 clear hwq
 have HM := hide hm
 have HE := hide he
 clear hm he
 obtain ⟨c0, c1, c2, c3, c4, c5⟩ := K.cells
 go_enter Tryz.func60, Tryz.ntmps60
 go_wp2_with fail
 refine (isThere_any (uh Hwq) K.full.smy).mono ?_
 rintro e w1 ⟨rfl, hb⟩
 replace K := K.next hb
 clear hb c0 c1 c2 c3 c4 c5
 cases wq
 ·have hc0 : wakeC m who = 1 := by unfold wakeC; rw [uh Hwq]; rfl
  have x1 := ((uh HE).below K.bb).c1
  go_wp2_with fail
  go_ret
  first | exact Chg.no K.bb hc0 (by omega) | exact Chg.no K.bb rfl (by omega)
 obtain ⟨k, rfl, hk, hs⟩ := whoB_of (uh Hwq)
 have hk1 : (k : Int) < (m.smiths.length : Int) := by omega
 obtain ⟨hA, bn, hbn, hbnl⟩ := askable_of (smy_loose (uh HM)) hk hs
 clear hA
 obtain ⟨a2, p2, rfl⟩ := RecAt.shape K.full.smiths
 obtain ⟨g2, rfl, hg2, hg2w, hc2, hz2⟩ := RecAt.view encSmith_len (by omega) K.full.smiths rfl (by omega)
 have s0 := hc2 k hk 0 _ rfl
 have s1 := hc2 k hk 1 _ rfl
 have s2 := hc2 k hk 2 _ rfl
 have s3 := hc2 k hk 3 _ rfl
 have s4 := hc2 k hk 4 _ rfl
 have s5 := hc2 k hk 5 _ rfl
 have s6 := hc2 k hk 6 _ rfl
 have s7 := hc2 k hk 7 _ rfl
 have s8 := hc2 k hk 8 _ rfl
 have s9 := hc2 k hk 9 _ rfl
 have s10 := hc2 k hk 10 _ rfl
 obtain ⟨⟨st, be, rk, my, gu, lo, hi, hd, ca, ut, wk⟩, hrk⟩ : ∃ d, recAt m.smiths k = d := ⟨_, rfl⟩
 rw [hrk] at s0 s1 s2 s3 s4 s5 s6 s7 s8 s9 s10
 simp only [Nat.add_zero] at s0 s1 s2 s3 s4 s5 s6 s7 s8 s9 s10
 have Hrk := hide hrk
 rw [hrk] at hbn hs
 simp only at hbn hs
 subst hbn
 obtain ⟨_, _, c2, _, _, _⟩ := K.cells
 clear hc2 hz2 hrk
 go_upto_region 4 with fail
 obtain ⟨W1, hW1, hba, ks⟩ := one_box w1 40 #[.int .i64 st, .int .i64 (bn : Int), .int .i64 rk, .int .i64 my, .int .i64 gu, .int .i64 lo, .int .i64 hi, .int .i64 hd, .int .i64 ca, .int .i64 ut, .int .i64 wk]
 replace K := K.next hba
 clear hba c2 s0 s1 s2 s3 s4 s5 s6 s7 s8 s9 s10
 rw [hW1]
 clear hW1
 generalize w1.heap.size = sb at *
 obtain ⟨b, hb0⟩ : ∃ b, chosenOfV m (k : Int) = b := ⟨_, rfl⟩
 have Hb := hide hb0
 clear hb0
 obtain ⟨c0, c1, c2, c3, c4, c5⟩ := K.cells
 go_wp2_with fail
 refine (implChosen_any (uh Hb) K.full.smy).mono ?_
 rintro e w2 ⟨rfl, hb⟩
 replace K := K.next hb
 replace ks := bl ks hb
 clear hb c0 c1 c2 c3 c4 c5
 obtain ⟨e0, e1, e2, e3, e4, e5, e6, e7, e8, e9, e10⟩ := (uh ks).c11
 go_wp2_with fail
 refine (isAway_any st (bn : Int) rk my gu lo hi hd ca ut wk _).mono ?_
 rintro e w3 ⟨rfl, hb⟩
 replace K := K.next hb
 replace ks := bl ks hb
 clear hb e0 e1 e2 e3 e4 e5 e6 e7 e8 e9 e10
 by_cases hst : st = 1
 rotate_left
 ·have n0 : (st == 1) = false := by simpa using hst
  rw [n0]
  have hc0 : wakeC m (k : Int) = 2 := by unfold wakeC; rw [uh Hwq, Int.toNat_natCast, uh Hrk]; simp [hst]
  have x1 := ((uh HE).below K.bb).c2
  go_wp2_with fail
  go_ret
  first | exact Chg.no K.bb hc0 (by omega) | exact Chg.no K.bb rfl (by omega)
 subst hst
 by_cases hbn1 : b = -1
 ·subst hbn1
  have hc0 : wakeC m (k : Int) = 2 := by unfold wakeC; rw [uh Hwq, Int.toNat_natCast, uh Hrk, uh Hb]; rfl
  have x1 := ((uh HE).below K.bb).c2
  go_wp2_with fail
  go_ret
  first | exact Chg.no K.bb hc0 (by omega) | exact Chg.no K.bb rfl (by omega)
 obtain ⟨bb, hbl, rfl⟩ : ∃ bb : Nat, bb < m.desks.length ∧ b = (bb : Int) := by
  have hcv : chosenOfV m (k : Int) = chosenV m (k : Int) := by unfold chosenOfV; rw [uh HM, uh Hwq]; rfl
  have := uh Hb
  rw [hcv] at this
  rcases chosen_or m (k : Int) with ⟨e, _⟩ | ⟨bb, hbl, e, _⟩
  ·exact absurd (this.symm.trans e) hbn1
  ·exact ⟨bb, hbl, this.symm.trans e⟩
 have hbl1 : (bb : Int) < (m.desks.length : Int) := by omega
 have hbnl1 : (bn : Int) < (m.desks.length : Int) := by omega
 have hbne : decide ((bb : Int) = -1) = false := decide_eq_false hbn1
 obtain ⟨a3, p3, rfl⟩ := RecAt.shape K.full.desks
 obtain ⟨g3, rfl, hg3, hg3w, hc3, hz3⟩ := RecAt.view encDesk_len (by omega) K.full.desks rfl (by omega)
 obtain ⟨mk, hmk⟩ : ∃ x, (recAt m.desks bb).2.2 = x := ⟨_, rfl⟩
 obtain ⟨mf, hmf⟩ : ∃ x, (recAt m.desks bn).2.2 = x := ⟨_, rfl⟩
 have d1 := hc3 bb hbl 2 (.int .i64 mk) (by rw [← hmk]; rfl)
 have d2 := hc3 bn hbnl 2 (.int .i64 mf) (by rw [← hmf]; rfl)
 obtain ⟨_, _, _, c3, _, _⟩ := K.cells
 obtain ⟨_, e1, _, _, _, _, _, e7, _, _, _⟩ := (uh ks).c11
 have hhad : wakeHad m (recAt m.smiths k) (bb : Int) = placedV (movedV hd mf mk) mk := by unfold wakeHad mark; rw [uh Hrk]; show placedV (movedV hd (recAt m.desks ((bn : Int)).toNat).2.2 (recAt m.desks ((bb : Int)).toNat).2.2) (recAt m.desks ((bb : Int)).toNat).2.2 = _; rw [Int.toNat_natCast, Int.toNat_natCast, hmf, hmk]
 have hmkb : mark m (bb : Int) = mk := by unfold mark; rw [Int.toNat_natCast, hmk]
 have Hhad := hide hhad
 have Hmkb := hide hmkb
 clear hc3 hz3 hmk hmf hhad hmkb
 have hst2 : ((1 : Int) == 1) = true := rfl
 rw [hst2]
 go_upto_region 8 with fail
 have k1 := cell_regrown c3
 have k2 := cell_regrown d1
 have k3 := cell_regrown d2
 have k4 := cell_regrown e1
 have k5 := cell_regrown e7
 refine wp_region_quiet_below (by kernel_rfl) (by kernel_rfl) ?_
 repeat (go_big_quiet_step (first | exact Calls.regrown_of (implMoved_any _ _ _ _) | exact Calls.regrown_of (implPlaced_any _ _ _)))
 refine wpQuiet_nil ?_
 intro _ hw'
 obtain ⟨⟨dq, osq⟩, hw''⟩ := hw'
 subst hw''
 have hb : Below w3.heap.size w3 (Go.Sort.grow (Go.redrawn w3 dq) osq) := below_regrown w3 dq osq
 generalize Go.Sort.grow (Go.redrawn w3 dq) osq = wq at *
 replace K := K.next hb
 clear hb c3 d1 d2 e1 e7 k1 k2 k3 k4 k5 ks
 generalize placedV (movedV hd mf mk) mk = hn at *
 go_wp2_with fail
 refine (implInBand_any hn mk _).mono ?_
 rintro e w4 ⟨rfl, hb⟩
 replace K := K.next hb
 clear hb
 have hbq : inBandB hn mk = bandB hn mk := by unfold inBandB bandB hadB; cases inB hn (-1000000000000) 1000000000000 <;> rfl
 rw [hbq]
 clear hbq
 obtain ⟨qb, hqb⟩ : ∃ x, bandB hn mk = x := ⟨_, rfl⟩
 have Hqb := hide hqb
 rw [hqb]
 clear hqb
 cases qb
 ·have hc0 : wakeC m (k : Int) = 4 := by unfold wakeC; rw [uh Hwq, Int.toNat_natCast, uh Hb, uh Hhad, uh Hmkb, uh Hqb, uh Hrk]; simp
  have x1 := ((uh HE).below K.bb).c4
  go_wp2_with fail
  go_ret
  first | exact Chg.no K.bb hc0 (by omega) | exact Chg.no K.bb rfl (by omega)
 have hc0 : wakeC m (k : Int) = 0 := by unfold wakeC; rw [uh Hwq, Int.toNat_natCast, uh Hb, uh Hhad, uh Hmkb, uh Hqb, uh Hrk]; simp
 have hx0 : wakeX m ((k : Int)).toNat (chosenOfV m (k : Int)) = setS m k (sitS (recAt m.smiths k) (bb : Int) hn) := by unfold wakeX; rw [Int.toNat_natCast, uh Hb, uh Hhad]
 obtain ⟨_, _, c2, _, _, _⟩ := K.cells
 go_wp2_with fail
 refine (moveTo_any K rfl hk (bb : Int) hn).mono ?_
 rintro e w5 ⟨rfl, K5⟩
 have HK := hide K5
 clear K5 c2
 go_wp2_with fail
 go_ret
 exact Chg.yes (uh HK) hc0 hx0
theorem there_is {n : Nat} {rank may guild : Int} (h : smithB (newS rank may guild) = true) : thereB n (newS rank may guild) = decide (guild < (n : Int)) := by
 obtain ⟨_, _, _, _, ⟨g0, _⟩, _⟩ := presB_of (new_pres h)
 unfold thereB hasB
 show ((1 : Int) == 0 || (guild == -1 || (decide (0 ≤ guild) && decide (guild < (n : Int))))) = _
 by_cases e : guild = -1
 ·subst e
  have : decide ((-1 : Int) < (n : Int)) = true := decide_eq_true (by omega)
  rw [this]; rfl
 ·have e2 : (guild == -1) = false := by simpa using e
  rw [e2, decide_eq_true (show 0 ≤ guild by omega)]
  rfl
theorem Nx.pushS {w W W9 : World} {R : Nat} {v0 v1 v2 v3 v4 u : Value} {m : SmyV} {qs : List (RoomV × Value)} {s : SmithV} {Y : World} (h : Nx w W R v0 v1 v2 v3 v4 m qs) (hb : Below W.heap.size W Y) (hg : Y.grownBy W9 v2.ownBlock) (hat : u.ownBlock = v2.ownBlock ∨ u.ownBlock = some Y.heap.size) (hr : SmithsAt w.heap.size W9 u (m.smiths ++ [s])) : Blk W9 R 32 #[v0, v1, v2, v3, v4, .int .i64 m.now] ∧ Nx w (W9.setCell ⟨R, 2, none⟩ u) R v0 v1 u v3 v4 (pushS m s) qs := by
 have hsz := hb.size
 have hlt := h.blk.lt
 have kb : Blk W9 R 32 #[v0, v1, v2, v3, v4, .int .i64 m.now] := (h.blk.below hb h.blk.lt).same (hg.block R (by omega) (fun e => h.own R (.inr (.inr (.inr (.inl e.symm)))) rfl))
 have hown : ∀ k, OwnB v0 v1 u v3 v4 qs k → k ≠ R := fun k e => by
  rcases e with e | e | e | e | e | e
  ·exact h.own k (.inl e)
  ·exact h.own k (.inr (.inl e))
  ·exact h.own k (.inr (.inr (.inl e)))
  ·rcases hat with e' | e'
   ·exact h.own k (.inr (.inr (.inr (.inl (e'.symm.trans e)))))
   ·rw [e'] at e
    have e8 := Option.some.inj e
    omega
  ·exact h.own k (.inr (.inr (.inr (.inr (.inl e)))))
  ·exact h.own k (.inr (.inr (.inr (.inr (.inr e)))))
 have hp := h.full.pushS hb hg hat hr
 refine ⟨kb, hp.set_off (fun k e => hown k e) _ _, kb.set 2 u, hown, ?_, h.hR⟩
 refine Below.setCell ?_ h.hR _
 exact (h.bb.trans (hb.mono h.bb.size)).grown hg (by have := h.bb.size; omega) (fun k e => (h.full.own (k := k) (.inr (.inr (.inr (.inl e))))).1)
theorem comes_any {w W : World} {R : Nat} {v0 v1 v2 v3 v4 : Value} {m : SmyV} {qs : List (RoomV × Value)} {q : Int → Addr} (K : Nx w W R v0 v1 v2 v3 v4 m qs) (he : Errs w q) (hm : smyB m = true) (rank may guild : Int) : Calls Tryz.prog 42 #[.pointer (some ⟨R, 0, none⟩), .agg #[.int .i64 0, .int .i64 0, .int .i64 rank, .int .i64 may, .int .i64 guild, .int .i64 0, .int .i64 1024, .int .i64 0, .int .i64 0, .int .i64 0, .int .i64 0]] W fun e W' => Chg w R q (comeX m rank may guild) (comeC m rank may guild) e W' := by
 have h12 := smy_twelve (smy_loose hm)
 have HM := hide hm
 have HE := hide he
 clear hm he
 have ks : Hid (Blk (W.alloc (.cells #[.int .i64 1, .int .i64 0, .int .i64 rank, .int .i64 may, .int .i64 guild, .int .i64 0, .int .i64 1024, .int .i64 0, .int .i64 0, .int .i64 0, .int .i64 0] 40)) W.heap.size 40 #[.int .i64 1, .int .i64 0, .int .i64 rank, .int .i64 may, .int .i64 guild, .int .i64 0, .int .i64 1024, .int .i64 0, .int .i64 0, .int .i64 0, .int .i64 0]) := hide (Blk.new _ _ _)
 have hba : Below W.heap.size W (W.alloc (.cells #[.int .i64 1, .int .i64 0, .int .i64 rank, .int .i64 may, .int .i64 guild, .int .i64 0, .int .i64 1024, .int .i64 0, .int .i64 0, .int .i64 0, .int .i64 0] 40)) := (Below.refl _ _).alloc (Nat.le_refl _) _
 have Hown : Hid (∀ k, OwnB v0 v1 v2 v3 v4 qs k → k < W.heap.size) := hide (fun k e => (K.full.own e).2)
 replace K := K.next hba
 clear hba
 go_enter Tryz.func42, Tryz.ntmps42
 go_upto_region 2 with fail
 generalize W.alloc (.cells #[.int .i64 1, .int .i64 0, .int .i64 rank, .int .i64 may, .int .i64 guild, .int .i64 0, .int .i64 1024, .int .i64 0, .int .i64 0, .int .i64 0, .int .i64 0] 40) = W1 at *
 have Hsb : Hid (W.heap.size < W1.heap.size ∧ ∀ k, OwnB v0 v1 v2 v3 v4 qs k → k < W.heap.size) := hide ⟨(uh ks).lt, uh Hown⟩
 clear Hown
 generalize W.heap.size = sb at *
 obtain ⟨sk, hsk⟩ : ∃ x, smithB (newS rank may guild) = x := ⟨_, rfl⟩
 have Hsk := hide hsk
 have HS := hide (fun X => Calls.bool_of (implSmithOk_any 1 0 rank may guild 0 1024 0 0 0 0 X) hsk)
 clear hsk
 obtain ⟨a1, p1, rfl⟩ := RecAt.shape K.full.guilds
 obtain ⟨e0, e1, e2, e3, e4, e5, e6, e7, e8, e9, e10⟩ := (uh ks).c11
 obtain ⟨c0, c1, c2, c3, c4, c5⟩ := K.cells
 have ke0 := cell_regrown e0
 have ke1 := cell_regrown e1
 have ke2 := cell_regrown e2
 have ke3 := cell_regrown e3
 have ke4 := cell_regrown e4
 have ke5 := cell_regrown e5
 have ke6 := cell_regrown e6
 have ke7 := cell_regrown e7
 have ke8 := cell_regrown e8
 have ke9 := cell_regrown e9
 have ke10 := cell_regrown e10
 have kc1 := cell_regrown c1
 cases sk
 ·
  refine wp_region_quiet_below (by kernel_rfl) (by kernel_rfl) ?_
  repeat (go_big_quiet_step (exact Calls.regrown_of (uh HS _)))
  refine wpQuiet_nil ?_
  intro _ hw'
  obtain ⟨⟨dq, osq⟩, hw''⟩ := hw'
  subst hw''
  have hb : Below W1.heap.size W1 (Go.Sort.grow (Go.redrawn W1 dq) osq) := below_regrown W1 dq osq
  generalize Go.Sort.grow (Go.redrawn W1 dq) osq = wq at *
  replace K := K.next hb
  clear hb c0 c1 c2 c3 c4 c5 kc1 ke0 ke1 ke2 ke3 ke4 ke5 ke6 ke7 ke8 ke9 ke10 e0 e1 e2 e3 e4 e5 e6 e7 e8 e9 e10
  have hc0 : comeC m rank may guild = 3 := by unfold comeC; rw [uh Hsk]; rfl
  have x1 := ((uh HE).below K.bb).c3
  go_wp2_with fail
  go_ret
  first | exact Chg.no K.bb hc0 (by omega) | exact Chg.no K.bb rfl (by omega)
 obtain ⟨gk, hgk⟩ : ∃ x, decide (guild < (m.guilds.length : Int)) = x := ⟨_, rfl⟩
 have Hgk := hide hgk
 have HG := hide (fun X => Calls.bool_of (guildIsThere_any 1 0 rank may guild 0 1024 0 0 0 0 a1 m.guilds.length p1 X) ((there_is (uh Hsk)).trans hgk))
 clear hgk
 have hcx : comeC m rank may guild = if gk then (if 12 ≤ m.smiths.length then 4 else (if chosenOfV (pushS m (newS rank may guild)) (m.smiths.length : Int) = -1 then 2 else 0)) else 3 := by unfold comeC; rw [uh Hsk, uh Hgk]; rfl
 have Hcx := hide hcx
 clear hcx
 refine wp_region_quiet_below (by kernel_rfl) (by kernel_rfl) ?_
 repeat (go_big_quiet_step (first | exact Calls.regrown_of (uh HS _) | exact Calls.regrown_of (uh HG _)))
 refine wpQuiet_nil ?_
 intro _ hw'
 obtain ⟨⟨dq, osq⟩, hw''⟩ := hw'
 subst hw''
 have hb : Below W1.heap.size W1 (Go.Sort.grow (Go.redrawn W1 dq) osq) := below_regrown W1 dq osq
 generalize Go.Sort.grow (Go.redrawn W1 dq) osq = wq at *
 replace K := K.next hb
 replace ks := bl ks hb
 clear hb c0 c1 c2 c3 c4 c5 kc1 ke0 ke1 ke2 ke3 ke4 ke5 ke6 ke7 ke8 ke9 ke10 e0 e1 e2 e3 e4 e5 e6 e7 e8 e9 e10
 cases gk
 ·have hc0 : comeC m rank may guild = 3 := uh Hcx
  have x1 := ((uh HE).below K.bb).c3
  go_wp2_with fail
  go_ret
  first | exact Chg.no K.bb hc0 (by omega) | exact Chg.no K.bb rfl (by omega)
 obtain ⟨a2, p2, rfl⟩ := RecAt.shape K.full.smiths
 by_cases hl : 12 ≤ m.smiths.length
 ·have hc0 : comeC m rank may guild = 4 := by rw [uh Hcx]; simp [hl]
  have hl1 : (12 : Int) ≤ (m.smiths.length : Int) := by omega
  have x1 := ((uh HE).below K.bb).c4
  obtain ⟨_, _, c2, _, _, _⟩ := K.cells
  go_wp2_with fail
  go_ret
  first | exact Chg.no K.bb hc0 (by omega) | exact Chg.no K.bb rfl (by omega)
 have hl1 : ¬ (12 : Int) ≤ (m.smiths.length : Int) := by omega
 have hl2 : m.smiths.length < 12 := by omega
 have hld : decide ((12 : Int) ≤ (m.smiths.length : Int)) = false := decide_eq_false hl1
 obtain ⟨_, _, x2, _, _, _⟩ := K.cells
 go_upto_region 7 with fail
 clear hl1 hld
 obtain ⟨e0, e1, e2, e3, e4, e5, e6, e7, e8, e9, e10⟩ := (uh ks).c11
 refine wp_region_last (S := fun w' => w'.cell? ⟨R, 2, none⟩ = some (.slice a2 m.smiths.length p2) ∧ w'.cell? ⟨sb, 0, none⟩ = some (.int .i64 1) ∧ w'.cell? ⟨sb, 1, none⟩ = some (.int .i64 0) ∧ w'.cell? ⟨sb, 2, none⟩ = some (.int .i64 rank) ∧ w'.cell? ⟨sb, 3, none⟩ = some (.int .i64 may) ∧ w'.cell? ⟨sb, 4, none⟩ = some (.int .i64 guild) ∧ w'.cell? ⟨sb, 5, none⟩ = some (.int .i64 0) ∧ w'.cell? ⟨sb, 6, none⟩ = some (.int .i64 1024) ∧ w'.cell? ⟨sb, 7, none⟩ = some (.int .i64 0) ∧ w'.cell? ⟨sb, 8, none⟩ = some (.int .i64 0) ∧ w'.cell? ⟨sb, 9, none⟩ = some (.int .i64 0) ∧ w'.cell? ⟨sb, 10, none⟩ = some (.int .i64 0)) (by kernel_rfl) (List.cons_ne_nil _ _) (by kernel_rfl) ⟨x2, e0, e1, e2, e3, e4, e5, e6, e7, e8, e9, e10⟩ (fun hHeld => ?_)
 simp only [List.dropLast_cons_cons, List.dropLast_singleton, List.length_cons, List.length_nil, Nat.zero_add, Nat.reduceAdd]
 (refine tk 0 rfl (by assumption) ?_; (try simp only [Act.put, sA, sZ, sS]))
 (refine tk 1 rfl (by assumption) ?_; (try simp only [Act.put, sA, sZ, sS]))
 (refine tk 2 rfl (by assumption) ?_; (try simp only [Act.put, sA, sZ, sS]))
 (refine tk 3 rfl (by assumption) ?_; (try simp only [Act.put, sA, sZ, sS]))
 (refine tk 4 rfl (by assumption) ?_; (try simp only [Act.put, sA, sZ, sS]))
 (refine tk 5 rfl (by assumption) ?_; (try simp only [Act.put, sA, sZ, sS]))
 refine wpAnyH_ready (rs := [6]) (by kernel_rfl) (by simp) ?_
 refine AllReadyH.cons rfl (fun K0 hK => ?_) AllReadyH.nil
 go_simp
 have hba : Below wq.heap.size wq (wq.drew.alloc (.cells #[.int .i64 1, .int .i64 0, .int .i64 rank, .int .i64 may, .int .i64 guild, .int .i64 0, .int .i64 1024, .int .i64 0, .int .i64 0, .int .i64 0, .int .i64 0] 40)) := (Below.refl _ _).drew.alloc (Nat.le_refl _) _
 have K2 := K.next hba
 have ks2 := (uh ks).below hba (uh ks).lt
 refine hK.out _ _ ⟨K2.blk.cell (i := 2) rfl, ks2.cell (i := 0) rfl, ks2.cell (i := 1) rfl, ks2.cell (i := 2) rfl, ks2.cell (i := 3) rfl, ks2.cell (i := 4) rfl, ks2.cell (i := 5) rfl, ks2.cell (i := 6) rfl, ks2.cell (i := 7) rfl, ks2.cell (i := 8) rfl, ks2.cell (i := 9) rfl, ks2.cell (i := 10) rfl⟩ (fun hHeld => ?_)
 clear hK K0
 (try simp only [Act.put, sA, sZ, sS])
 obtain ⟨u9, w9, hrun, hown9, hg9, hat9⟩ := run_append_recs tyS (w := wq.drew.alloc (.cells #[.int .i64 1, .int .i64 0, .int .i64 rank, .int .i64 may, .int .i64 guild, .int .i64 0, .int .i64 1024, .int .i64 0, .int .i64 0, .int .i64 0, .int .i64 0] 40)) (t := 28) (ty := 28) Tryz.underlying28 K2.full.smiths (recs_one (newS rank may guild) (g := wq.heap.size) (c := 1) rfl (Nat.le_refl _) (by omega)) (by simp; omega) (by have := K2.bb.size; simpa using this)
 obtain ⟨kb9, K9⟩ := K.pushS hba hg9 hat9 hown9
 have ks9 := ks2.same (hg9.block sb ks2.lt (fun e => by have := (uh Hsb).2 sb (.inr (.inr (.inr (.inl e.symm)))); omega))
 have R9 := hide hrun
 have HK := hide K9
 have HB := hide kb9
 have HS9 := hide ks9
 obtain ⟨ua, uc, hu9⟩ := RecAt.shape hown9
 obtain ⟨n9, hn9⟩ : ∃ x, x = (m.smiths ++ [newS rank may guild]).length := ⟨_, rfl⟩
 rw [← hn9] at hu9
 subst hu9
 have Hn9 := hide hn9
 clear hrun K9 kb9 ks9 hown9 hg9 hat9 hn9 K2 ks2
 refine wpAnyH_ready (rs := [7]) (by kernel_rfl) (by simp) ?_
 refine AllReadyH.cons rfl (fun K0 hK => ?_) AllReadyH.nil
 refine step_append_run rfl (.tmp 37) (.tmp 39) 28 rfl rfl rfl (uh R9) ?_
 refine hK.out _ _ ⟨(uh HB).cell (i := 2) rfl, (uh HS9).cell (i := 0) rfl, (uh HS9).cell (i := 1) rfl, (uh HS9).cell (i := 2) rfl, (uh HS9).cell (i := 3) rfl, (uh HS9).cell (i := 4) rfl, (uh HS9).cell (i := 5) rfl, (uh HS9).cell (i := 6) rfl, (uh HS9).cell (i := 7) rfl, (uh HS9).cell (i := 8) rfl, (uh HS9).cell (i := 9) rfl, (uh HS9).cell (i := 10) rfl⟩ (fun hHeld => ?_)
 clear hK K0
 (try simp only [Act.put, sA, sZ, sS])
 (refine tk 8 rfl (by assumption) ?_; (try simp only [Act.put, sA, sZ, sS]))
 (refine tk 9 rfl (by assumption) ?_; (try simp only [Act.put, sA, sZ, sS]))
 have y2 := (uh HB).cell (i := 2) (v := .slice a2 m.smiths.length p2) rfl
 have f2 := (uh HB).free 2
 clear hba
 refine wpAnyH_done (by kernel_rfl) ?_ _
 refine tailQ_run rfl rfl ?_
 go_simp
 clear hHeld
 obtain ⟨b, hb0⟩ : ∃ b, chosenOfV (pushS m (newS rank may guild)) (m.smiths.length : Int) = b := ⟨_, rfl⟩
 have Hb := hide hb0
 clear hb0
 clear e0 e1 e2 e3 e4 e5 e6 e7 e8 e9 e10 x2 R9 HS9
 go_upto_region 8 with fail
 clear y2 f2
 replace K := uh HK
 clear HK HB ks
 generalize w9.setCell ⟨R, 2, none⟩ (.slice ua n9 uc) = W3 at *
 obtain ⟨g2, hga, _, _, _, _⟩ := RecAt.view encSmith_len (by omega) K.full.smiths (uh Hn9) (by show 0 < (m.smiths ++ [newS rank may guild]).length; simp)
 cases hga
 obtain ⟨c0, c1, c2, c3, c4, c5⟩ := K.cells
 go_wp2_with fail
 refine (implChosen_any (uh Hb) K.full.smy).mono ?_
 rintro e w4 ⟨rfl, hb⟩
 replace K := K.next hb
 clear hb c0 c1 c2 c3 c4 c5
 by_cases hb1 : b = -1
 ·subst hb1
  have hc0 : comeC m rank may guild = 2 := by rw [uh Hcx, if_pos trivial, if_neg hl, uh Hb, if_pos rfl]
  have x1 := ((uh HE).below K.bb).c2
  go_wp2_with fail
  go_ret
  first | exact Chg.no K.bb hc0 (by omega) | exact Chg.no K.bb rfl (by omega)
 obtain ⟨bb, hbl, rfl⟩ : ∃ bb : Nat, bb < m.desks.length ∧ b = (bb : Int) := by
  have hcp := (come_push (uh HM) (uh Hsk) (by simpa using uh Hgk) hl2).2
  have := uh Hb
  rw [hcp] at this
  unfold comeB at this
  rcases chosen_or (pushS m (newS rank may guild)) (m.smiths.length : Int) with ⟨e, _⟩ | ⟨bb, hbl, e, _⟩
  ·exact absurd (this.symm.trans e) hb1
  ·exact ⟨bb, hbl, this.symm.trans e⟩
 have hc0 : comeC m rank may guild = 0 := by rw [uh Hcx, if_pos trivial, if_neg hl, uh Hb, if_neg hb1]
 have hbl1 : (bb : Int) < (m.desks.length : Int) := by omega
 have hbne : decide ((bb : Int) = -1) = false := decide_eq_false hb1
 obtain ⟨a3, p3, rfl⟩ := RecAt.shape K.full.desks
 obtain ⟨g3, rfl, hg3, hg3w, hc3, hz3⟩ := RecAt.view encDesk_len (by omega) K.full.desks rfl (by show 0 < m.desks.length; omega)
 obtain ⟨mk, hmk⟩ : ∃ x, (recAt m.desks bb).2.2 = x := ⟨_, rfl⟩
 have d1 := hc3 bb hbl 2 (.int .i64 mk) (by rw [← hmk]; rfl)
 have hat : recAt (pushS m (newS rank may guild)).smiths m.smiths.length = newS rank may guild := by
  show recAt (m.smiths ++ [newS rank may guild]) m.smiths.length = _
  rw [recAt_push, if_pos rfl]
 have hx0 : comeX m rank may guild = setS (pushS m (newS rank may guild)) m.smiths.length (sitS (recAt (pushS m (newS rank may guild)).smiths m.smiths.length) (bb : Int) mk) := by
  rw [hat]; unfold comeX; rw [uh Hb]; unfold mark; rw [Int.toNat_natCast, hmk]
 have Hx0 := hide hx0
 have hkl : m.smiths.length < (pushS m (newS rank may guild)).smiths.length := by show _ < (m.smiths ++ [newS rank may guild]).length; simp
 have hn91 : (m.smiths.length : Int) < (n9 : Int) := by have := uh Hn9; simp at this; omega
 obtain ⟨_, _, c2, c3, _, _⟩ := K.cells
 clear hc3 hz3 hmk hx0
 go_wp2_with fail
 refine wp_region_last (S := fun w' => w'.cell? ⟨R, 2, none⟩ = some (.slice (some ⟨g2, 0, none⟩) n9 uc) ∧ w'.cell? ⟨R, 3, none⟩ = some (.slice (some ⟨g3, 0, none⟩) m.desks.length p3) ∧ w'.cell? ⟨g3, bb * 3 + 2, none⟩ = some (.int .i64 mk)) (by kernel_rfl) (List.cons_ne_nil _ _) (by kernel_rfl) ⟨c2, c3, d1⟩ (fun hHeld => ?_)
 simp only [List.dropLast_cons_cons, List.dropLast_singleton, List.length_cons, List.length_nil, Nat.zero_add, Nat.reduceAdd]
 (refine tk 0 rfl (by assumption) ?_; (try simp only [Act.put, sA, sZ, sS]))
 (refine tk 1 rfl (by assumption) ?_; (try simp only [Act.put, sA, sZ, sS]))
 (refine tk 2 rfl (by assumption) ?_; (try simp only [Act.put, sA, sZ, sS]))
 (refine tk 3 rfl (by assumption) ?_; (try simp only [Act.put, sA, sZ, sS]))
 (refine tk 4 rfl (by assumption) ?_; (try simp only [Act.put, sA, sZ, sS]))
 (refine tk 5 rfl (by assumption) ?_; (try simp only [Act.put, sA, sZ, sS]))
 (refine tk 6 rfl (by assumption) ?_; (try simp only [Act.put, sA, sZ, sS]))
 (refine tk 7 rfl (by assumption) ?_; (try simp only [Act.put, sA, sZ, sS]))
 (refine tk 8 rfl (by assumption) ?_; (try simp only [Act.put, sA, sZ, sS]))
 (refine tk 9 rfl (by assumption) ?_; (try simp only [Act.put, sA, sZ, sS]))
 (refine tk 10 rfl (by assumption) ?_; (try simp only [Act.put, sA, sZ, sS]))
 (refine tk 11 rfl (by assumption) ?_; (try simp only [Act.put, sA, sZ, sS]))
 (refine tk 12 rfl (by assumption) ?_; (try simp only [Act.put, sA, sZ, sS]))
 (refine tk 13 rfl (by assumption) ?_; (try simp only [Act.put, sA, sZ, sS]))
 (refine tk 14 rfl (by assumption) ?_; (try simp only [Act.put, sA, sZ, sS]))
 refine wpAnyH_done (by kernel_rfl) ?_ _
 refine tailQ_run rfl rfl ?_
 go_simp
 clear hHeld c2 c3 d1
 have K3 := K.next (Below.refl _ _).drew
 refine (moveTo_any K3 (uh Hn9) hkl (bb : Int) mk).mono ?_
 rintro e w5 ⟨rfl, K5⟩
 have HK := hide K5
 clear K5 K3
 go_wp2_with fail
 go_ret
 exact Chg.yes (uh HK) hc0 (uh Hx0)
end Go.Proofs.YthbbahagpmdooaaGreatDoor
