/- Part 32 of what the proof rests on. No condition but those that a theorem names. -/
import Derived.Test.YthbbahagpmdooaaGreatDoorXw31
set_option maxHeartbeats 8000000
set_option maxRecDepth 100000
namespace Go.Proofs.YthbbahagpmdooaaGreatDoor
open Go.ChangeShapes Go.WideShapes Go.ChangeAt Go.RowKit Go.Sort
set_option linter.unusedVariables false
set_option linter.unusedSimpArgs false
theorem paces_few {m : SmyV} (h : Loose m) : m.paces.length ≤ 1000 := by
 rw [paces_len h]
 have hd := h.head
 unfold headB at hd
 simp only [Bool.and_eq_true, decide_eq_true_eq] at hd
 have := (hallB_of hd.1).2.1
 omega
theorem askable_of {m : SmyV} (h : Loose m) {k : Nat} (hk : k < m.smiths.length) (hs : (recAt m.smiths k).1 ≠ 0) : Askable m k ∧ ∃ bn : Nat, (recAt m.smiths k).2.1 = (bn : Int) ∧ bn < m.desks.length := by
 obtain ⟨p, _, hb⟩ := h.limits hk hs
 obtain ⟨⟨st, be, rk, my, gu, lo, hi, hd, ca, ut, wk⟩, hrk⟩ : ∃ d, recAt m.smiths k = d := ⟨_, rfl⟩
 rw [hrk] at p hb
 obtain ⟨_, x1, _, x3, _⟩ := presB_of p
 simp only at hb
 refine ⟨⟨hk, hs, ?_, ?_⟩, be.toNat, ?_, by omega⟩
 ·rw [hrk]; show (0 : Int) ≤ my; omega
 ·rw [hrk]; show my ≤ 255; omega
 ·rw [hrk]; show be = _; omega
theorem specWake_any {w : World} {v0 v1 v2 v3 v4 : Value} {m : SmyV} (who : Int) (h : Smy w v0 v1 v2 v3 v4 m) :
  Calls Tryz.prog 21 #[.agg #[v0, v1, v2, v3, v4, .int .i64 m.now], .int .i64 who] w fun e w' => GotM w.heap.size (wakeV m who).1 (wakeV m who).2 e w' ∧ Below w.heap.size w w' := by
 obtain ⟨X, hX⟩ : ∃ x, wakeV m who = x := ⟨_, rfl⟩
 rw [hX]
 have HX := hide hX
 clear hX
 have Hv0 := hide h
 obtain ⟨a0, p0, a1, p1, a2, p2, a3, p3, a4, p4, rfl, rfl, rfl, rfl, rfl, _, _, _, _, _, _, _, _, _, _⟩ := h.five
 clear h
 obtain ⟨ok, hok⟩ : ∃ q, smyB m = q := ⟨_, rfl⟩
 have Hok := hide hok
 clear hok
 go_enter Tryz.func21, Tryz.ntmps21
 go_wp2_with fail
 obtain ⟨W, hW, kb, kr, BB⟩ := two_boxes w 32 (S6 a0 p0 a1 p1 a2 p2 a3 p3 a4 p4 m) 32 E6
 have Hv := hide ((uh Hv0).below (uh BB))
 clear Hv0
 rw [hW]
 clear hW
 refine (spec_q (uh Hok) (uh Hv)).mono ?_
 rintro e w1 ⟨rfl, hb⟩
 replace kb := bl kb hb
 replace kr := bl kr hb
 replace Hv := hide ((uh Hv).below hb)
 replace BB := bt BB hb
 clear hb
 cases ok
 ·
  obtain ⟨c0, c1, c2, c3, c4, c5⟩ := (uh kb).c6
  go_wp2_with fail
  clear c0 c1 c2 c3 c4 c5
  refine (l15Bad_any (uh Hv)).mono ?_
  rintro e w2 ⟨rfl, hb⟩
  replace kb := bl kb hb
  replace kr := bl kr hb
  replace Hv := hide ((uh Hv).below hb)
  replace BB := bt BB hb
  clear hb
  obtain ⟨o0, o1, o2, o3, o4, o5⟩ := (uh kr).c6
  obtain ⟨f0, f1, f2, f3, f4, f5⟩ := (uh kr).f6
  go_wp2_with fail
  have hX0 : X = (zeroM, 3) := by rw [← uh HX]; unfold wakeV; rw [uh Hok]; rfl
  refine bodyPost_ret (v := .tuple #[.agg #[.slice none 0 0, .slice none 0 0, .slice none 0 0, .slice none 0 0, .slice none 0 0, .int .i64 0], .int .i64 3]) (by simp [results, Tryz.results21, go_sem, *]) rfl ⟨?_, ?_⟩
  ·rw [hX0]; exact ⟨_, _, _, _, _, [], rfl, full_zero _ _⟩
  ·iterate 6 (refine Below.setCell ?_ (by show _ ≤ w.heap.size + 1; omega) _)
   exact uh BB
 have hlo := smy_loose (uh Hok)
 have HLo := hide hlo
 have HFew := hide (few_of hlo)
 clear hlo
 obtain ⟨c0, c1, c2, c3, c4, c5⟩ := (uh kb).c6
 go_wp2_with fail
 clear c0 c1 c2 c3 c4 c5
 have hWs : w.heap.size + 2 ≤ w1.heap.size := by have := (uh kr).lt; omega
 refine (l11Copy_any (uh Hv) (uh HFew)).mono ?_
 rintro e w2 ⟨y0, y1, y2, y3, y4, oq, rfl, ho, hb⟩
 have k9 := ho.smy
 obtain ⟨b0, q0, b1, q1, b2, q2, b3, q3, b4, q4, rfl, rfl, rfl, rfl, rfl, _, _, _, _, _, _, _, _, _, _⟩ := k9.five
 clear k9
 replace kb := bl kb hb
 replace kr := bl kr hb
 replace Hv := hide ((uh Hv).below hb)
 replace BB := bt BB hb
 have HO := hide (ho.mono hWs)
 have LO : Hid (∀ k, OwnB (.slice b0 m.rooms.length q0) (.slice b1 m.guilds.length q1) (.slice b2 m.smiths.length q2) (.slice b3 m.desks.length q3) (.slice b4 m.paces.length q4) oq k → w.heap.size + 2 ≤ k ∧ k < w2.heap.size) := hide (fun k e => (uh HO).own e)
 have hsz9 := hb.size
 clear ho hb
 go_upto_region 4 with fail
 obtain ⟨W2, hW2, hba, ko⟩ := one_box w2 32 (S6 b0 q0 b1 q1 b2 q2 b3 q3 b4 q4 m)
 replace kb := bl kb hba
 replace kr := bl kr hba
 replace Hv := hide ((uh Hv).below hba)
 replace HO := hide ((uh HO).below hba)
 replace BB := bt BB hba
 have hob : w.heap.size + 2 ≤ w2.heap.size := Nat.le_trans hWs hsz9
 clear hba hsz9 hWs
 rw [hW2]
 clear hW2
 generalize w2.heap.size = ob at *
 obtain ⟨qw, hqw⟩ : ∃ q, whoB m who = q := ⟨_, rfl⟩
 have Hqw := hide hqw
 clear hqw
 obtain ⟨c0, c1, c2, c3, c4, c5⟩ := (uh kb).c6
 go_wp2_with fail
 clear c0 c1 c2 c3 c4 c5
 refine (l11Who_q (uh Hqw) (uh Hv)).mono ?_
 rintro e w3 ⟨rfl, hb⟩
 replace kb := bl kb hb
 replace kr := bl kr hb
 replace Hv := hide ((uh Hv).below hb)
 replace HO := hide ((uh HO).below hb)
 replace ko := bl ko hb
 replace BB := bt BB hb
 clear hb
 cases qw
 ·
  obtain ⟨x0, x1, x2, x3, x4, x5⟩ := (uh ko).c6
  obtain ⟨o0, o1, o2, o3, o4, o5⟩ := (uh kr).c6
  obtain ⟨f0, f1, f2, f3, f4, f5⟩ := (uh kr).f6
  go_wp2_with fail
  have hX0 : X = (m, 1) := by rw [← uh HX]; unfold wakeV; rw [uh Hok, uh Hqw]; rfl
  refine bodyPost_ret (v := .tuple #[.agg #[.slice b0 m.rooms.length q0, .slice b1 m.guilds.length q1, .slice b2 m.smiths.length q2, .slice b3 m.desks.length q3, .slice b4 m.paces.length q4, .int .i64 m.now], .int .i64 1]) (by simp [results, Tryz.results21, go_sem, *]) rfl ⟨?_, ?_⟩
  ·rw [hX0]; refine ⟨_, _, _, _, _, oq, rfl, ?_⟩
   iterate 6 (refine FullSmy.set_off ?_ (fun k e => by have := (uh LO k e).1; omega) _ _)
   exact (uh HO).mono (by omega)
  ·iterate 6 (refine Below.setCell ?_ (by show _ ≤ w.heap.size + 1; omega) _)
   exact uh BB
 obtain ⟨k, rfl, hk, hs0⟩ := whoB_of (uh Hqw)
 have hk1 : (k : Int) < (m.smiths.length : Int) := by omega
 obtain ⟨hA, bn, hbn, hbnl⟩ := askable_of (uh HLo) hk hs0
 have HA := hide hA
 clear hA
 obtain ⟨_, _, hse, _, _, r2⟩ := (uh Hv).smiths
 cases hse
 rcases r2 with e0 | ⟨sb, off, rfl, hbw, hcl⟩
 ·rw [e0] at hk; simp at hk
 obtain ⟨d0, d1, d2, d3, d4, d5, d6, d7, d8, d9, d10⟩ := smith_cells hcl hk
 clear hcl
 obtain ⟨⟨st, be, rk, my, gu, lo, hi, hd, ca, ut, wk⟩, hrk⟩ : ∃ d, recAt m.smiths k = d := ⟨_, rfl⟩
 rw [hrk] at d0 d1 d2 d3 d4 d5 d6 d7 d8 d9 d10 hbn hs0
 simp only at d0 d1 d2 d3 d4 d5 d6 d7 d8 d9 d10 hbn hs0
 subst hbn
 have Hrk := hide hrk
 clear hrk
 have c2 := (uh kb).cell (i := 2) (v := .slice (some ⟨sb, off, none⟩) m.smiths.length p2) rfl
 go_upto_region 7 with fail
 clear d0 d1 d2 d3 d4 d5 d6 d7 d8 d9 d10 c2
 obtain ⟨W3, hW3, hba, ks⟩ := one_box w3 40 #[.int .i64 st, .int .i64 (bn : Int), .int .i64 rk, .int .i64 my, .int .i64 gu, .int .i64 lo, .int .i64 hi, .int .i64 hd, .int .i64 ca, .int .i64 ut, .int .i64 wk]
 replace kb := bl kb hba
 replace kr := bl kr hba
 replace Hv := hide ((uh Hv).below hba)
 replace HO := hide ((uh HO).below hba)
 replace ko := bl ko hba
 replace BB := bt BB hba
 clear hba
 rw [hW3]
 clear hW3
 generalize w3.heap.size = sv at *
 by_cases hst : st = 1
 rotate_left
 ·
  have e0 := (uh ks).cell (i := 0) (v := .int .i64 st) rfl
  have hst1 : (st == 1) = false := by simp [hst]
  have hst2 : decide (st = 1) = false := by simp [hst]
  obtain ⟨x0, x1, x2, x3, x4, x5⟩ := (uh ko).c6
  obtain ⟨o0, o1, o2, o3, o4, o5⟩ := (uh kr).c6
  obtain ⟨f0, f1, f2, f3, f4, f5⟩ := (uh kr).f6
  go_wp2_with fail
  have hX0 : X = (m, 2) := by rw [← uh HX]; unfold wakeV; rw [uh Hok, uh Hqw]; simp only [if_true, Int.toNat_natCast]; rw [if_neg (show ¬ (recAt m.smiths k).1 = 1 by rw [uh Hrk]; exact hst)]
  refine bodyPost_ret (v := .tuple #[.agg #[.slice b0 m.rooms.length q0, .slice b1 m.guilds.length q1, .slice b2 m.smiths.length q2, .slice b3 m.desks.length q3, .slice b4 m.paces.length q4, .int .i64 m.now], .int .i64 2]) (by simp [results, Tryz.results21, go_sem, *]) rfl ⟨?_, ?_⟩
  ·rw [hX0]; refine ⟨_, _, _, _, _, oq, rfl, ?_⟩
   iterate 6 (refine FullSmy.set_off ?_ (fun k e => by have := (uh LO k e).1; omega) _ _)
   exact (uh HO).mono (by omega)
  ·iterate 6 (refine Below.setCell ?_ (by show _ ≤ w.heap.size + 1; omega) _)
   exact uh BB
 subst hst
 have Hst : Hid ((recAt m.smiths k).1 = 1) := hide (by rw [uh Hrk])
 have e0 := (uh ks).cell (i := 0) (v := .int .i64 1) rfl
 obtain ⟨b, hb⟩ : ∃ q, chosenV m (k : Int) = q := ⟨_, rfl⟩
 have Hb := hide hb
 clear hb
 obtain ⟨c0, c1, c2, c3, c4, c5⟩ := (uh kb).c6
 go_wp2_with fail
 clear c0 c1 c2 c3 c4 c5
 clear e0
 refine (l14Chosen_any (who := k) (uh Hv) (uh HLo).sane (paces_few (uh HLo)) (uh HA)).mono ?_
 rw [uh Hb]
 rintro e w4 ⟨rfl, hb⟩
 replace kb := bl kb hb
 replace kr := bl kr hb
 replace Hv := hide ((uh Hv).below hb)
 replace HO := hide ((uh HO).below hb)
 replace ko := bl ko hb
 replace ks := bl ks hb
 replace BB := bt BB hb
 clear hb
 by_cases hbn : b < 0
 ·
  obtain ⟨x0, x1, x2, x3, x4, x5⟩ := (uh ko).c6
  obtain ⟨o0, o1, o2, o3, o4, o5⟩ := (uh kr).c6
  obtain ⟨f0, f1, f2, f3, f4, f5⟩ := (uh kr).f6
  go_wp2_with fail
  have hX0 : X = (m, 2) := by rw [← uh HX]; unfold wakeV; rw [uh Hok, uh Hqw]; simp only [if_true, Int.toNat_natCast]; rw [if_pos (uh Hst), uh Hb, if_pos hbn]
  refine bodyPost_ret (v := .tuple #[.agg #[.slice b0 m.rooms.length q0, .slice b1 m.guilds.length q1, .slice b2 m.smiths.length q2, .slice b3 m.desks.length q3, .slice b4 m.paces.length q4, .int .i64 m.now], .int .i64 2]) (by simp [results, Tryz.results21, go_sem, *]) rfl ⟨?_, ?_⟩
  ·rw [hX0]; refine ⟨_, _, _, _, _, oq, rfl, ?_⟩
   iterate 6 (refine FullSmy.set_off ?_ (fun k e => by have := (uh LO k e).1; omega) _ _)
   exact (uh HO).mono (by omega)
  ·iterate 6 (refine Below.setCell ?_ (by show _ ≤ w.heap.size + 1; omega) _)
   exact uh BB
 obtain ⟨bb, hbb, rfl⟩ : ∃ bb : Nat, bb < m.desks.length ∧ b = (bb : Int) := by
  rcases chosen_or m (k : Int) with ⟨e, _⟩ | ⟨bb, hbl, e, _⟩
  ·rw [uh Hb] at e; omega
  ·exact ⟨bb, hbl, (uh Hb).symm.trans e⟩
 obtain ⟨c0, c1, c2, c3, c4, c5⟩ := (uh kb).c6
 go_wp2_with fail
 clear c0 c1 c2 c3 c4 c5
 have hobw := (uh ko).lt
 refine (l11Copy_any (uh Hv) (uh HFew)).mono ?_
 rintro e w5 ⟨y0, y1, y2, y3, y4, xq, rfl, ho, hb⟩
 have k9 := ho.smy
 obtain ⟨xa0, xp0, xa1, xp1, xa2, xp2, xa3, xp3, xa4, xp4, rfl, rfl, rfl, rfl, rfl, _, _, _, _, _, _, _, _, _, _⟩ := k9.five
 clear k9
 replace kb := bl kb hb
 replace kr := bl kr hb
 replace Hv := hide ((uh Hv).below hb)
 replace HO := hide ((uh HO).below hb)
 replace ko := bl ko hb
 replace ks := bl ks hb
 replace BB := bt BB hb
 have hszx := hb.size
 have HY := hide (ho.mono (n₁ := w.heap.size + 2) (by omega))
 have LX : Hid (∀ k, OwnB (.slice xa0 m.rooms.length xp0) (.slice xa1 m.guilds.length xp1) (.slice xa2 m.smiths.length xp2) (.slice xa3 m.desks.length xp3) (.slice xa4 m.paces.length xp4) xq k → ob + 1 ≤ k ∧ k < w5.heap.size) := hide (fun k e => by have := ho.own e; omega)
 have hxb : ob + 1 ≤ w5.heap.size := by omega
 clear ho hb hobw hszx
 go_upto_region 13 with fail
 obtain ⟨W4, hW4, hba, kx⟩ := one_box w5 32 (S6 xa0 xp0 xa1 xp1 xa2 xp2 xa3 xp3 xa4 xp4 m)
 replace kb := bl kb hba
 replace kr := bl kr hba
 replace Hv := hide ((uh Hv).below hba)
 replace HO := hide ((uh HO).below hba)
 replace ko := bl ko hba
 replace ks := bl ks hba
 replace HY := hide ((uh HY).below hba)
 replace BB := bt BB hba
 clear hba
 rw [hW4]
 clear hW4
 generalize w5.heap.size = xb at *
 obtain ⟨_, _, hde, _, _, r3⟩ := (uh Hv).desks
 cases hde
 rcases r3 with e0 | ⟨db, doff, rfl, hdw, hcl⟩
 ·rw [e0] at hbb; simp at hbb
 obtain ⟨_, _, m1⟩ := desk_cells hcl hbnl
 obtain ⟨_, _, m2⟩ := desk_cells hcl hbb
 clear hcl
 obtain ⟨mk1, hmk1⟩ : ∃ q, (recAt m.desks bn).2.2 = q := ⟨_, rfl⟩
 obtain ⟨mk2, hmk2⟩ : ∃ q, (recAt m.desks bb).2.2 = q := ⟨_, rfl⟩
 rw [hmk1] at m1
 rw [hmk2] at m2
 have hwk : wakeX m k (bb : Int) = setS m k (2, (bb : Int), rk, my, gu, lo, hi, (placedV (movedV hd mk1 mk2) mk2), ca, ut, wk) := by
  unfold wakeX wakeHad sitS mark hadS
  rw [uh Hrk]
  simp only [Int.toNat_natCast]
  rw [hmk1, hmk2]
 have Hwk := hide hwk
 clear hmk1 hmk2 hwk
 have c3 := (uh kb).cell (i := 3) (v := .slice (some ⟨db, doff, none⟩) m.desks.length p3) rfl
 have e1 := (uh ks).cell (i := 1) (v := .int .i64 (bn : Int)) rfl
 have e7 := (uh ks).cell (i := 7) (v := .int .i64 hd) rfl
 obtain ⟨g2, hga, _, _, hc2, hz2⟩ := RecAt.view encSmith_len (by omega) (uh HY).smiths rfl (by omega)
 cases hga
 have hg2o := (uh LX g2 (.inr (.inr (.inr (.inl rfl)))))
 have x2 := (uh kx).cell (i := 2) (v := .slice (some ⟨g2, 0, none⟩) m.smiths.length xp2) rfl
 have s7 := hc2 k hk 7 _ rfl
 have f7 := hz2 (k * 11 + 7)
 have hput := (uh HY).putS rfl (j := k) (i := 7) hk (by omega) (.int .i64 (placedV (movedV hd mk1 mk2) mk2)) (1, (bn : Int), rk, my, gu, lo, hi, (placedV (movedV hd mk1 mk2) mk2), ca, ut, wk) (by rw [uh Hrk]; rfl)
 have HP := hide hput
 clear hput hc2 hz2
 have hbn2 : (bn : Int) < (m.desks.length : Int) := by omega
 have hbb2 : (bb : Int) < (m.desks.length : Int) := by omega
 go_wp2_with fail
 refine wp_region_last (S := fun w' => w'.cell? ⟨xb, 2, none⟩ = some (.slice (some ⟨g2, 0, none⟩) m.smiths.length xp2) ∧ w'.cell? ⟨sv, 7, none⟩ = some (.int .i64 hd) ∧ w'.cell? ⟨w.heap.size, 3, none⟩ = some (.slice (some ⟨db, doff, none⟩) m.desks.length p3) ∧ w'.cell? ⟨sv, 1, none⟩ = some (.int .i64 (bn : Int)) ∧ w'.cell? ⟨db, doff + bn * 3 + 2, none⟩ = some (.int .i64 mk1) ∧ w'.cell? ⟨db, doff + bb * 3 + 2, none⟩ = some (.int .i64 mk2)) (by kernel_rfl) (List.cons_ne_nil _ _) (by kernel_rfl) ⟨x2, e7, c3, e1, m1, m2⟩ (fun hHeld => ?_)
 simp only [List.dropLast_cons_cons, List.dropLast_singleton, List.length_cons, List.length_nil, Nat.zero_add, Nat.reduceAdd]
 (refine tk 0 rfl (by assumption) ?_; (try simp only [Act.put, sA, sZ, sS]))
 (refine tk 1 rfl (by assumption) ?_; (try simp only [Act.put, sA, sZ, sS]))
 (refine tk 2 rfl (by assumption) ?_; (try simp only [Act.put, sA, sZ, sS]))
 (refine tk 3 rfl (by assumption) ?_; (try simp only [Act.put, sA, sZ, sS]))
 (refine tk 4 rfl (by assumption) ?_; (try simp only [Act.put, sA, sZ, sS]))
 (refine tk 5 rfl (by assumption) ?_; (try simp only [Act.put, sA, sZ, sS]))
 (refine tk 6 rfl (by assumption) ?_; (try simp only [Act.put, sA, sZ, sS]))
 (refine tk 7 rfl (by assumption) ?_; (try simp only [Act.put, sA, sZ, sS]))
 (refine tk 8 rfl (by assumption) ?_; (try simp only [Act.put, sA, sZ, sS]))
 (refine tk 9 rfl (by assumption) ?_; (try simp only [Act.put, sA, sZ, sS]))
 (refine tk 10 rfl (by assumption) ?_; (try simp only [Act.put, sA, sZ, sS]))
 (refine tk 11 rfl (by assumption) ?_; (try simp only [Act.put, sA, sZ, sS]))
 (refine tk 12 rfl (by assumption) ?_; (try simp only [Act.put, sA, sZ, sS]))
 (refine tk 13 rfl (by assumption) ?_; (try simp only [Act.put, sA, sZ, sS]))
 (refine tk 14 rfl (by assumption) ?_; (try simp only [Act.put, sA, sZ, sS]))
 (refine tk 15 rfl (by assumption) ?_; (try simp only [Act.put, sA, sZ, sS]))
 (refine tk 16 rfl (by assumption) ?_; (try simp only [Act.put, sA, sZ, sS]))
 (refine tk 17 rfl (by assumption) ?_; (try simp only [Act.put, sA, sZ, sS]))
 (refine tk 19 rfl (by assumption) ?_; (try simp only [Act.put, sA, sZ, sS]))
 (refine tk 20 rfl (by assumption) ?_; (try simp only [Act.put, sA, sZ, sS]))
 (refine tk 21 rfl (by assumption) ?_; (try simp only [Act.put, sA, sZ, sS]))
 (refine tk 22 rfl (by assumption) ?_; (try simp only [Act.put, sA, sZ, sS]))
 (refine tk 23 rfl (by assumption) ?_; (try simp only [Act.put, sA, sZ, sS]))
 (refine tk 24 rfl (by assumption) ?_; (try simp only [Act.put, sA, sZ, sS]))
 refine rd 18 rfl (fun K hK => ?_)
 go_simp
 refine (specMoved_any hd mk1 mk2 _).mono ?_
 rintro e9 w9 ⟨rfl, hw9⟩
 subst w9
 refine hK.out _ _ hHeld (fun hHeld => ?_)
 clear hK K
 (try simp only [Act.put, sA, sZ, sS])
 refine rd 25 rfl (fun K hK => ?_)
 go_simp
 refine (specPlaced_any (movedV hd mk1 mk2) mk2 _).mono ?_
 rintro e9 w9 ⟨rfl, hw9⟩
 subst w9
 refine hK.out _ _ hHeld (fun hHeld => ?_)
 clear hK K
 (try simp only [Act.put, sA, sZ, sS])
 (refine tk 26 rfl (by assumption) ?_; (try simp only [Act.put, sA, sZ, sS]))
 (refine tk 27 rfl (by assumption) ?_; (try simp only [Act.put, sA, sZ, sS]))
 refine wpAnyH_done (by kernel_rfl) ?_ _
 refine tailQ_run rfl rfl ?_
 go_simp
 clear hHeld x2 e7 c3 e1 m1 m2 s7 f7
 go_wp2_with fail
 replace kx : Hid (Blk ((W4.setCell ⟨g2, k * 11 + 7, none⟩ (.int .i64 (placedV (movedV hd mk1 mk2) mk2))).drew) xb 32 #[.slice xa0 m.rooms.length xp0, .slice xa1 m.guilds.length xp1, .slice (some ⟨g2, 0, none⟩) m.smiths.length xp2, .slice xa3 m.desks.length xp3, .slice xa4 m.paces.length xp4, .int .i64 m.now]) := hide ((((uh kx).other (a := ⟨g2, k * 11 + 7, none⟩) (by show xb ≠ g2; omega) (.int .i64 (placedV (movedV hd mk1 mk2) mk2)))).below (Below.refl _ _).drew ((uh kx).other (a := ⟨g2, k * 11 + 7, none⟩) (by show xb ≠ g2; omega) (.int .i64 (placedV (movedV hd mk1 mk2) mk2))).lt)
 replace ko : Hid (Blk ((W4.setCell ⟨g2, k * 11 + 7, none⟩ (.int .i64 (placedV (movedV hd mk1 mk2) mk2))).drew) ob 32 #[.slice b0 m.rooms.length q0, .slice b1 m.guilds.length q1, .slice b2 m.smiths.length q2, .slice b3 m.desks.length q3, .slice b4 m.paces.length q4, .int .i64 m.now]) := hide ((((uh ko).other (a := ⟨g2, k * 11 + 7, none⟩) (by show ob ≠ g2; omega) (.int .i64 (placedV (movedV hd mk1 mk2) mk2)))).below (Below.refl _ _).drew ((uh ko).other (a := ⟨g2, k * 11 + 7, none⟩) (by show ob ≠ g2; omega) (.int .i64 (placedV (movedV hd mk1 mk2) mk2))).lt)
 replace kr : Hid (Blk ((W4.setCell ⟨g2, k * 11 + 7, none⟩ (.int .i64 (placedV (movedV hd mk1 mk2) mk2))).drew) (w.heap.size + 1) 32 #[.slice none 0 0, .slice none 0 0, .slice none 0 0, .slice none 0 0, .slice none 0 0, .int .i64 0]) := hide ((((uh kr).other (a := ⟨g2, k * 11 + 7, none⟩) (by show (w.heap.size + 1) ≠ g2; omega) (.int .i64 (placedV (movedV hd mk1 mk2) mk2)))).below (Below.refl _ _).drew ((uh kr).other (a := ⟨g2, k * 11 + 7, none⟩) (by show (w.heap.size + 1) ≠ g2; omega) (.int .i64 (placedV (movedV hd mk1 mk2) mk2))).lt)
 replace HO : Hid (FullSmy (w.heap.size + 2) ((W4.setCell ⟨g2, k * 11 + 7, none⟩ (.int .i64 (placedV (movedV hd mk1 mk2) mk2))).drew) (.slice b0 m.rooms.length q0) (.slice b1 m.guilds.length q1) (.slice b2 m.smiths.length q2) (.slice b3 m.desks.length q3) (.slice b4 m.paces.length q4) m oq) := hide (((uh HO).set_off (fun k e => by have := (uh LO k e).2; omega) _ _).below (Below.refl _ _).drew)
 replace HP := hide ((uh HP).below (Below.refl _ _).drew)
 replace BB : Hid (Below w.heap.size w ((W4.setCell ⟨g2, k * 11 + 7, none⟩ (.int .i64 (placedV (movedV hd mk1 mk2) mk2))).drew)) := hide ((uh BB).setCell (p := ⟨g2, k * 11 + 7, none⟩) (by show w.heap.size ≤ g2; omega) (.int .i64 (placedV (movedV hd mk1 mk2) mk2))).drew
 clear kb Hv ks HY
 generalize (W4.setCell ⟨g2, k * 11 + 7, none⟩ (.int .i64 (placedV (movedV hd mk1 mk2) mk2))).drew = W5 at *
 have hofX : ∀ k, OwnB (.slice xa0 m.rooms.length xp0) (.slice xa1 m.guilds.length xp1) (.slice (some ⟨g2, 0, none⟩) m.smiths.length xp2) (.slice xa3 m.desks.length xp3) (.slice xa4 m.paces.length xp4) xq k → k ≠ xb := fun k e => by have := (uh LX k e).2; omega
 refine (l15Sit_any (m := setS m k (1, (bn : Int), rk, my, gu, lo, hi, (placedV (movedV hd mk1 mk2) mk2), ca, ut, wk)) (k := k) (uh kx) (uh HP) (fun e => hofX _ (.inr (.inr (.inr (.inl e)))) rfl) (fun e => hofX _ (.inr (.inr (.inr (.inr (.inl e))))) rfl) (by show k < (m.smiths.set k _).length; simp; omega) (bb : Int)).mono ?_
 rintro e w7 ⟨rfl, hf7, ht7⟩
 have hW : setS (setS m k (1, (bn : Int), rk, my, gu, lo, hi, (placedV (movedV hd mk1 mk2) mk2), ca, ut, wk)) k (2, (bb : Int), (recAt (setS m k (1, (bn : Int), rk, my, gu, lo, hi, (placedV (movedV hd mk1 mk2) mk2), ca, ut, wk)).smiths k).2.2) = wakeX m k (bb : Int) := by
  rw [setS_setS, uh Hwk]
  show setS m k (2, (bb : Int), (recAt (m.smiths.set k _) k).2.2) = _
  rw [recAt_set hk, if_pos rfl]
 rw [hW] at hf7
 replace kx := hide ((uh kx).two ht7 (fun e => hofX _ (.inr (.inr (.inr (.inl e)))) rfl) (fun e => hofX _ (.inr (.inr (.inr (.inr (.inl e))))) rfl))
 replace ko := hide ((uh ko).two ht7 (fun e => by have := (uh LX _ (.inr (.inr (.inr (.inl e))))).1; omega) (fun e => by have := (uh LX _ (.inr (.inr (.inr (.inr (.inl e)))))).1; omega))
 replace kr := hide ((uh kr).two ht7 (fun e => by have := (uh LX _ (.inr (.inr (.inr (.inl e))))).1; omega) (fun e => by have := (uh LX _ (.inr (.inr (.inr (.inr (.inl e)))))).1; omega))
 replace HO := hide ((uh HO).keep (fun k e0 => ht7.block k ((uh HO).own e0).2 (fun e => by have := (uh LX _ (.inr (.inr (.inr (.inl e))))).1; have := (uh LO k e0).2; omega) (fun e => by have := (uh LX _ (.inr (.inr (.inr (.inr (.inl e)))))).1; have := (uh LO k e0).2; omega)))
 replace BB := hide ((uh BB).trans (ht7.below (uh BB).size (fun k e => by have := (uh LX k (.inr (.inr (.inr (.inl e))))).1; omega) (fun k e => by have := (uh LX k (.inr (.inr (.inr (.inr (.inl e)))))).1; omega)))
 replace HP := hide hf7
 clear hf7 ht7 hW hofX
 obtain ⟨lb, hlb⟩ : ∃ q, looseB (wakeX m k (bb : Int)) = q := ⟨_, rfl⟩
 have Hlb := hide hlb
 clear hlb
 obtain ⟨z0, z1, z2, z3, z4, z5⟩ := (uh kx).c6
 go_wp2_with fail
 clear z0 z1 z2 z3 z4 z5
 refine (l11Loose_any (m := wakeX m k (bb : Int)) (uh HP).smy).mono ?_
 rw [uh Hlb]
 rintro e w8 ⟨rfl, hb⟩
 replace kx := bl kx hb
 replace ko := bl ko hb
 replace kr := bl kr hb
 replace HO := hide ((uh HO).below hb)
 replace HP := hide ((uh HP).below hb)
 replace BB := bt BB hb
 clear hb
 cases lb
 ·
  obtain ⟨x0, x1, x2, x3, x4, x5⟩ := (uh ko).c6
  obtain ⟨o0, o1, o2, o3, o4, o5⟩ := (uh kr).c6
  obtain ⟨f0, f1, f2, f3, f4, f5⟩ := (uh kr).f6
  go_wp2_with fail
  have hX0 : X = (m, 4) := by rw [← uh HX]; unfold wakeV; rw [uh Hok, uh Hqw]; simp only [if_true, Int.toNat_natCast]; rw [if_pos (uh Hst), uh Hb, if_neg (by omega), uh Hlb]; rfl
  refine bodyPost_ret (v := .tuple #[.agg #[.slice b0 m.rooms.length q0, .slice b1 m.guilds.length q1, .slice b2 m.smiths.length q2, .slice b3 m.desks.length q3, .slice b4 m.paces.length q4, .int .i64 m.now], .int .i64 4]) (by simp [results, Tryz.results21, go_sem, *]) rfl ⟨?_, ?_⟩
  ·rw [hX0]; refine ⟨_, _, _, _, _, oq, rfl, ?_⟩
   iterate 6 (refine FullSmy.set_off ?_ (fun k e => by have := (uh LO k e).1; omega) _ _)
   exact (uh HO).mono (by omega)
  ·iterate 6 (refine Below.setCell ?_ (by show _ ≤ w.heap.size + 1; omega) _)
   exact uh BB
 have hfw := uh HFew
 go_wp2_with fail
 have hofX : ∀ k, OwnB (.slice xa0 m.rooms.length xp0) (.slice xa1 m.guilds.length xp1) (.slice (some ⟨g2, 0, none⟩) m.smiths.length xp2) (.slice xa3 m.desks.length xp3) (.slice xa4 m.paces.length xp4) xq k → k ≠ xb := fun k e => by have := (uh LX k e).2; omega
 refine (l15Done_any (m := wakeX m k (bb : Int)) (uh kx) (uh HP) (fun e => hofX _ (.inr (.inr (.inr (.inl e)))) rfl) (fun e => hofX _ (.inr (.inr (.inr (.inr (.inl e))))) rfl) (by show (m.smiths.set k _).length ≤ 800; have := hfw.smiths; simp; omega) hfw.desks).mono ?_
 rintro e w9 ⟨rfl, hf9, ht9⟩
 replace kr := hide ((uh kr).two ht9 (fun e => by have := (uh LX _ (.inr (.inr (.inr (.inl e))))).1; omega) (fun e => by have := (uh LX _ (.inr (.inr (.inr (.inr (.inl e)))))).1; omega))
 replace BB := hide ((uh BB).trans (ht9.below (uh BB).size (fun k e => by have := (uh LX k (.inr (.inr (.inr (.inl e))))).1; omega) (fun k e => by have := (uh LX k (.inr (.inr (.inr (.inr (.inl e)))))).1; omega)))
 have HF9 := hide hf9
 clear hf9 ht9 hofX
 obtain ⟨o0, o1, o2, o3, o4, o5⟩ := (uh kr).c6
 obtain ⟨f0, f1, f2, f3, f4, f5⟩ := (uh kr).f6
 go_wp2_with fail
 have hX0 : X = (turnV (wakeX m k (bb : Int)), 0) := by rw [← uh HX]; unfold wakeV; rw [uh Hok, uh Hqw]; simp only [if_true, Int.toNat_natCast]; rw [if_pos (uh Hst), uh Hb, if_neg (by omega), uh Hlb]; rfl
 have hnow : (turnV (wakeX m k (bb : Int))).now = m.now := (turnK_same _ _).2.2.2.1
 refine bodyPost_ret (v := .tuple #[.agg #[.slice xa0 m.rooms.length xp0, .slice xa1 m.guilds.length xp1, .slice (some ⟨g2, 0, none⟩) m.smiths.length xp2, .slice xa3 m.desks.length xp3, .slice xa4 m.paces.length xp4, .int .i64 m.now], .int .i64 0]) (by simp [results, Tryz.results21, go_sem, setS, pushS, wakeX, *]) rfl ⟨?_, ?_⟩
 ·rw [hX0]; refine ⟨_, _, _, _, _, xq, by rw [hnow], ?_⟩
  iterate 6 (refine FullSmy.set_off ?_ (fun k e => by have := (uh LX k e).1; omega) _ _)
  exact (uh HF9).mono (by omega)
 ·iterate 6 (refine Below.setCell ?_ (by show _ ≤ w.heap.size + 1; omega) _)
  exact uh BB
end Go.Proofs.YthbbahagpmdooaaGreatDoor
