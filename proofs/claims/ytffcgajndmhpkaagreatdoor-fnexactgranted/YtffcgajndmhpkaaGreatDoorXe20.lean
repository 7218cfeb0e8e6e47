/- Part 20 of what the proof rests on. No condition but those that a theorem names. -/
import Derived.Test.YtffcgajndmhpkaaGreatDoorXe19
set_option maxHeartbeats 8000000
set_option maxRecDepth 100000
namespace Go.Proofs.YtffcgajndmhpkaaGreatDoor
open Go.ChangeShapes Go.WideShapes Go.ChangeAt Go.RowKit Go.Sort
set_option linter.unusedVariables false
theorem firstV_no {ps : List PaceV} (h : (queueB ps && decide (0 < ps.length)) = false) : firstV ps = ((0, 0), false) := by unfold firstV; rw [h]; rfl
theorem firstV_yes {ps : List PaceV} (h : queueB ps = true) (hl : 0 < ps.length) : firstV ps = (paceAt ps 0, true) := by unfold firstV; rw [h, decide_eq_true hl]; rfl
theorem implFirstIn_any {w : World} {v : Value} {ps : List PaceV} (h : IsPaces w v ps) :
  Calls Tryz.prog 205 #[v] w fun e w' => e = .returned (.tuple #[.agg #[.int .i64 (firstV ps).1.1, .int .i64 (firstV ps).1.2], .bool (firstV ps).2]) ∧ Below w.heap.size w w' := by
 have Hv := hide h
 obtain ⟨a, cap, rfl, hc, hm, hr⟩ := h
 cases hq : queueB ps
 ·rw [firstV_no (by rw [hq]; rfl)]
  clear hr
  go_enter Tryz.func205, Tryz.ntmps205
  go_wp2_with fail
  refine (implQueueOk_any ((uh Hv).below ((ba _ _)))).mono ?_
  rw [hq]
  rintro e w1 ⟨rfl, hb⟩
  have Hb := hide hb
  have hsz := hb.size
  simp at hsz
  obtain ⟨k1, k2⟩ := bcell hb
  clear hb
  go_wp2_with fail
  exact bodyPost_ret (v := .tuple #[.agg #[.int .i64 0, .int .i64 0], .bool false]) (by simp [results, Tryz.results205, go_sem, k1]) rfl ⟨rfl, ((((ba _ _)).trans ((uh Hb).mono (by simp))).setCell (by simp) _).setCell (by simp) _⟩
 ·rcases hr with hr | ⟨b, off, rfl, hbw, hcl⟩
  ·subst hr
   rw [firstV_no (by simp)]
   go_enter Tryz.func205, Tryz.ntmps205
   go_wp2_with fail
   refine (implQueueOk_any ((uh Hv).below ((ba _ _)))).mono ?_
   rw [hq]
   rintro e w1 ⟨rfl, hb⟩
   have Hb := hide hb
   have hsz := hb.size
   simp at hsz
   obtain ⟨k1, k2⟩ := bcell hb
   clear hb
   go_wp2_with fail
   exact bodyPost_ret (v := .tuple #[.agg #[.int .i64 0, .int .i64 0], .bool false]) (by simp [results, Tryz.results205, go_sem, k1]) rfl ⟨rfl, ((((ba _ _)).trans ((uh Hb).mono (by simp))).setCell (by simp) _).setCell (by simp) _⟩
  ·by_cases hl : 0 < ps.length
   ·rw [firstV_yes hq hl]
    obtain ⟨c0, c1⟩ := hcl 0 hl
    simp only [Nat.zero_mul, Nat.add_zero] at c0 c1
    generalize paceAt ps 0 = p at *
    obtain ⟨f, z⟩ := p
    simp only at c0 c1
    have hl2 : (ps.length == 0) = false := beq_eq_false_iff_ne.2 (by omega)
    have hl3 : ((ps.length : Int) == 0) = false := beq_eq_false_iff_ne.2 (by omega)
    have hne : b ≠ w.heap.size := Nat.ne_of_lt hbw
    clear hcl
    go_enter Tryz.func205, Tryz.ntmps205
    go_wp2_with fail
    refine (implQueueOk_any ((uh Hv).below ((ba _ _)))).mono ?_
    rw [hq]
    rintro e w1 ⟨rfl, hb⟩
    have Hb := hide hb
    have hsz := hb.size
    simp at hsz
    have c0' := (hb.cell (p := ⟨b, off, none⟩) (by simp; omega)).trans ((World.cell?_alloc_old _ _ _ hne).trans c0)
    have c1' := (hb.cell (p := ⟨b, off + 1, none⟩) (by simp; omega)).trans ((World.cell?_alloc_old _ _ _ hne).trans c1)
    obtain ⟨k1, k2⟩ := bcell hb
    clear hb c0 c1
    go_wp2_with fail
    exact bodyPost_ret (v := .tuple #[.agg #[.int .i64 f, .int .i64 z], .bool true]) (by simp [results, Tryz.results205, go_sem, k1]) rfl ⟨rfl, ((((ba _ _)).trans ((uh Hb).mono (by simp))).setCell (by simp) _).setCell (by simp) _⟩
   ·obtain rfl : ps = [] := List.eq_nil_of_length_eq_zero (by omega)
    rw [firstV_no (by simp)]
    clear hcl
    go_enter Tryz.func205, Tryz.ntmps205
    go_wp2_with fail
    refine (implQueueOk_any ((uh Hv).below ((ba _ _)))).mono ?_
    rw [hq]
    rintro e w1 ⟨rfl, hb⟩
    have Hb := hide hb
    have hsz := hb.size
    simp at hsz
    obtain ⟨k1, k2⟩ := bcell hb
    clear hb
    go_wp2_with fail
    exact bodyPost_ret (v := .tuple #[.agg #[.int .i64 0, .int .i64 0], .bool false]) (by simp [results, Tryz.results205, go_sem, k1]) rfl ⟨rfl, ((((ba _ _)).trans ((uh Hb).mono (by simp))).setCell (by simp) _).setCell (by simp) _⟩
set_option linter.unusedSimpArgs false
set_option maxRecDepth 100000
theorem turnB_prog {m : SmyV} {b : Nat} {e : PaceV} {t : List PaceV} (h : atV m.smiths b m.smiths.length = e :: t) : turnB m b = { m with smiths := waitAll (m.smiths.set e.2.toNat (stS (recAt m.smiths e.2.toNat) 3)) t, desks := m.desks.set b ((recAt m.desks b).1, e.2, markedV (recAt m.desks b).2.2 e.1) } := by
 rw [turnB_cons h, turn_way h]
theorem callAt_any {w : World} {n₀ : Nat} {v0 v1 v2 v3 v4 : Value} {m : SmyV} {qs : List (RoomV × Value)} {b : Nat} (hf : FullSmy n₀ w v0 v1 v2 v3 v4 m qs) (hL : Loose m) (hb : b < m.desks.length) :
  Calls Tryz.prog 153 #[.agg #[v0, v1, v2, v3, v4, .int .i64 m.now], .int .i64 (b : Int)] w fun e w' => e = .returned (.tuple #[]) ∧ FullSmy n₀ w' v0 v1 v2 v3 v4 (turnB m b) qs ∧ Two v2.ownBlock v3.ownBlock w w' := by
 have h := hf.smy
 obtain ⟨a0, p0, a1, p1, a2, p2, a3, p3, a4, p4, rfl, rfl, rfl, rfl, rfl, _, _, _, _, _, _, _, _, _, _⟩ := h.five
 have hl12 := smy_twelve hL
 have heig := hL.sane.eight
 obtain ⟨g3, hga, hg3, hg3w, _, _⟩ := RecAt.view encDesk_len (by omega) hf.desks rfl (by omega)
 cases hga
 have L2 : Hid (∀ i, (Value.slice a2 m.smiths.length p2).ownBlock = some i → i < w.heap.size) := hide (fun i e => (RecAt.lt hf.smiths e).2)
 have HQ := hide (at_queue hL (b : Int) m.smiths.length (Nat.le_refl _))
 have HN : Hid (atV m.smiths (b : Int) m.smiths.length = [] → turnB m b = { m with desks := m.desks.set b ((recAt m.desks b).1, -1, (recAt m.desks b).2.2) }) := hide (fun h => turnB_nil h)
 have HC : Hid (∀ e t, atV m.smiths (b : Int) m.smiths.length = e :: t → turnB m b = { m with smiths := waitAll (m.smiths.set e.2.toNat (stS (recAt m.smiths e.2.toNat) 3)) t, desks := m.desks.set b ((recAt m.desks b).1, e.2, markedV (recAt m.desks b).2.2 e.1) }) := hide (fun e t h => turnB_prog h)
 have Hm : Hid (∀ x ∈ atV m.smiths (b : Int) m.smiths.length, ∃ j : Nat, j < m.smiths.length ∧ x.2 = (j : Int)) := hide (fun x hx => by
  obtain ⟨j, hj, _, _, rfl⟩ := (atV_mem m.smiths (b : Int) x m.smiths.length).1 hx
  exact ⟨j, hj, rfl⟩)
 have Hql := hide (atV_len m.smiths (b : Int) m.smiths.length)
 have HF := hide hf
 have HL := hide hL
 have hb1 : (b : Int) < (m.desks.length : Int) := by omega
 clear h hf hL hg3
 go_enter Tryz.func153, Tryz.ntmps153
 go_upto_region 1 with fail
 have hba : Below w.heap.size w (w.alloc (.cells (S6 a0 p0 a1 p1 a2 p2 (some ⟨g3, 0, none⟩) p3 a4 p4 m) 32)) := ba _ _
 have kb : Hid (Blk (w.alloc (.cells (S6 a0 p0 a1 p1 a2 p2 (some ⟨g3, 0, none⟩) p3 a4 p4 m) 32)) w.heap.size 32 (S6 a0 p0 a1 p1 a2 p2 (some ⟨g3, 0, none⟩) p3 a4 p4 m)) := hide (Blk.new _ _ _)
 replace HF := hide ((uh HF).below hba)
 have Tw : Hid (Two (Value.slice a2 m.smiths.length p2).ownBlock (some g3) w (w.alloc (.cells (S6 a0 p0 a1 p1 a2 p2 (some ⟨g3, 0, none⟩) p3 a4 p4 m) 32))) := hide (Two.of_below hba)
 have hgW : g3 < (w.alloc (.cells (S6 a0 p0 a1 p1 a2 p2 (some ⟨g3, 0, none⟩) p3 a4 p4 m) 32)).heap.size := Nat.lt_of_lt_of_le hg3w hba.size
 have hRW : w.heap.size < (w.alloc (.cells (S6 a0 p0 a1 p1 a2 p2 (some ⟨g3, 0, none⟩) p3 a4 p4 m) 32)).heap.size := (uh kb).lt
 clear hba
 generalize w.alloc (.cells (S6 a0 p0 a1 p1 a2 p2 (some ⟨g3, 0, none⟩) p3 a4 p4 m) 32) = W at *
 have H2 : Hid ((Value.slice a2 m.smiths.length p2).ownBlock ≠ some w.heap.size) := hide (fun e => by have := uh L2 _ e; omega)
 have H3 : Hid (some g3 ≠ some w.heap.size) := hide (fun e => by cases e; omega)
 have Low2 : Hid (∀ i, (Value.slice a2 m.smiths.length p2).ownBlock = some i → i < W.heap.size) := hide (fun i e => by have := uh L2 i e; omega)
 obtain ⟨c0, c1, c2, c3, c4, c5⟩ := (uh kb).c6
 go_wp2_with fail
 refine (queueAt_any (b : Int) (uh HF).smy (uh HL)).mono ?_
 rintro e w1 ⟨v', rfl, he, hb⟩
 clear c0 c1 c2 c3 c4 c5
 generalize atV m.smiths (b : Int) m.smiths.length = q at *
 obtain ⟨qa, qc, rfl⟩ := EntsAt.shape he
 have HE := hide he
 replace HF := hide ((uh HF).below hb)
 replace kb := bl kb hb
 replace Tw := hide ((uh Tw).trans (Two.of_below hb))
 have hgw1 : g3 < w1.heap.size := Nat.lt_of_lt_of_le hgW hb.size
 have hw1 := hb.size
 clear he hb
 go_wp2_with fail
 refine ck (implFirstIn_any (uh HE).paces) fun w2 hb => ?_
 replace HE := hide ((uh HE).later hb)
 replace HF := hide ((uh HF).below hb)
 replace kb := bl kb hb
 replace Tw := hide ((uh Tw).trans (Two.of_below hb))
 have hgw2 : g3 < w2.heap.size := Nat.lt_of_lt_of_le hgw1 hb.size
 have hw2 : W.heap.size ≤ w2.heap.size := Nat.le_trans hw1 hb.size
 clear hb hw1 hgw1
 obtain ⟨⟨op, wh, mk⟩, hrk⟩ : ∃ d, recAt m.desks b = d := ⟨_, rfl⟩
 rw [hrk] at HN HC
 simp only at HN HC
 have Hrk := hide hrk
 clear hrk
 have Hset : Hid (∀ d, recAt (m.desks.set b d) b = d) := hide (fun d => by rw [recAt_set hb, if_pos rfl])
 cases q with
 | nil =>
  have hfv : firstV [] = ((0, 0), false) := firstV_no rfl
  rw [hfv]
  clear HC hfv
  go_upto_region 4 with fail
  have hba : Below w2.heap.size w2 (w2.alloc (.cells #[.int .i64 0, .int .i64 0] 151)) := ba _ _
  replace HF := hide ((uh HF).below hba)
  replace kb := bl kb hba
  replace Tw := hide ((uh Tw).trans (Two.of_below hba))
  clear hba
  generalize w2.alloc (.cells #[.int .i64 0, .int .i64 0] 151) = X at *
  obtain ⟨_, hga, _, _, hc3, hz3⟩ := RecAt.view encDesk_len (by omega) (uh HF).desks rfl (by omega)
  cases hga
  have d1 := hc3 b hb 1 _ rfl
  rw [uh Hrk] at d1
  have f1 := hz3 (b * 3 + 1)
  have c3 := (uh kb).cell (i := 3) (v := .slice (some ⟨g3, 0, none⟩) m.desks.length p3) rfl
  have hput := (uh HF).putD rfl (j := b) (i := 1) hb (by omega) (.int .i64 (-1)) (op, -1, mk) (by rw [uh Hrk]; rfl)
  have HP := hide hput
  clear hput hc3 hz3
  go_wp2_with fail
  refine bodyPost_ret (results_none rfl _ _ _) rfl ?_
  exact ⟨rfl, by rw [uh HN (by first | rfl | trivial)]; exact uh HP, (uh Tw).trans (Two.of_set X (.inr rfl) _ _)⟩
 | cons e t =>
  have hfv : firstV (e :: t) = (e, true) := firstV_yes (uh HQ) (by simp)
  obtain ⟨i0, hi0, hie⟩ := uh Hm e (by simp)
  obtain ⟨hd0, ei⟩ := e
  simp only at hie
  subst hie
  rw [hfv]
  have hcons := uh HC (hd0, (i0 : Int)) t rfl
  simp only [show ((i0 : Int)).toNat = i0 by simp] at hcons
  have Hcons := hide hcons
  have hi1 : (i0 : Int) < (m.smiths.length : Int) := by omega
  have htl : t.length ≤ 12 := by have := uh Hql; simp at this; omega
  have Hmt : Hid (∀ x ∈ t, ∃ j : Nat, j < m.smiths.length ∧ x.2 = (j : Int)) := hide (fun x hx => uh Hm x (List.mem_cons_of_mem _ hx))
  clear HN HC hfv hcons Hm HQ Hql
  obtain ⟨n1, hn1⟩ : ∃ n, n = ((hd0, (i0 : Int)) :: t).length := ⟨_, rfl⟩
  rw [← hn1] at HE
  rw [← hn1]
  clear hn1
  dsimp only
  go_upto_region 5 with fail
  have hba : Below w2.heap.size w2 (w2.alloc (.cells #[.int .i64 hd0, .int .i64 (i0 : Int)] 151)) := ba _ _
  have ke : Hid (Blk (w2.alloc (.cells #[.int .i64 hd0, .int .i64 (i0 : Int)] 151)) w2.heap.size 151 #[.int .i64 hd0, .int .i64 (i0 : Int)]) := hide (Blk.new _ _ _)
  replace HE := hide ((uh HE).later hba)
  replace HF := hide ((uh HF).below hba)
  replace kb := bl kb hba
  replace Tw := hide ((uh Tw).trans (Two.of_below hba))
  have hgX : w2.heap.size < (w2.alloc (.cells #[.int .i64 hd0, .int .i64 (i0 : Int)] 151)).heap.size := (uh ke).lt
  clear hba
  generalize w2.alloc (.cells #[.int .i64 hd0, .int .i64 (i0 : Int)] 151) = X at *
  obtain ⟨g2, hga, _, _, hc2, hz2⟩ := RecAt.view encSmith_len (by omega) (uh HF).smiths rfl (by omega)
  cases hga
  have hg2W := uh Low2 g2 rfl
  have hn23 : g2 ≠ g3 := fun e => (uh HF).a23 g2 rfl (by rw [e]; rfl)
  have s0 := hc2 i0 hi0 0 _ rfl
  have f0 := hz2 (i0 * 11)
  have hput := (uh HF).putS rfl (j := i0) (i := 0) hi0 (by omega) (.int .i64 3) (stS (recAt m.smiths i0) 3) rfl
  simp only [Nat.add_zero] at s0 hput
  have HF1 := hide hput
  have c2 := (uh kb).cell (i := 2) (v := .slice (some ⟨g2, 0, none⟩) m.smiths.length p2) rfl
  have e1 := (uh ke).cell (i := 1) (v := .int .i64 (i0 : Int)) rfl
  clear hput hc2 hz2
  have ht : Two (some g2) (some g3) X (X.setCell ⟨g2, i0 * 11, none⟩ (.int .i64 3)) := Two.of_set X (.inl rfl) _ _
  have h2R : (some g2 : Option Nat) ≠ some w.heap.size := uh H2
  have h3R : (some g3 : Option Nat) ≠ some w.heap.size := uh H3
  have h2E : (some g2 : Option Nat) ≠ some w2.heap.size := fun e => by cases e; omega
  have h3E : (some g3 : Option Nat) ≠ some w2.heap.size := fun e => by cases e; omega
  replace kb := hide ((uh kb).two ht h2R h3R)
  replace ke := hide ((uh ke).two ht h2E h3E)
  replace HE := hide (Two.ents (uh HE) ht (fun i e => by cases e; omega) (fun i e => by cases e; omega))
  have Tw1 : Hid (Two (some g2) (some g3) w (X.setCell ⟨g2, i0 * 11, none⟩ (.int .i64 3))) := hide ((uh Tw).trans ht)
  clear ht Tw HF
  go_upto_region 6 with fail
  clear s0 f0 c2 e1
  generalize X.setCell ⟨g2, i0 * 11, none⟩ (.int .i64 3) = X1 at *
  obtain ⟨ss, hss⟩ : ∃ q, m.smiths.set i0 (stS (recAt m.smiths i0) 3) = q := ⟨_, rfl⟩
  have hsl : ss.length = m.smiths.length := by rw [← hss]; simp
  rw [hss] at Hcons HF1
  clear hss
  obtain ⟨_, hga, _, _, hc3, hz3⟩ := RecAt.view encDesk_len (by omega) (uh HF1).desks rfl (by show 0 < m.desks.length; omega)
  cases hga
  have d1 := hc3 b hb 1 _ rfl
  have hrk2 : recAt ({ m with smiths := ss } : SmyV).desks b = (op, wh, mk) := uh Hrk
  rw [hrk2] at d1
  have f1 := hz3 (b * 3 + 1)
  have c3 := (uh kb).cell (i := 3) (v := .slice (some ⟨g3, 0, none⟩) m.desks.length p3) rfl
  have e1 := (uh ke).cell (i := 1) (v := .int .i64 (i0 : Int)) rfl
  have hput := (uh HF1).putD rfl (j := b) (i := 1) hb (by omega) (.int .i64 (i0 : Int)) (op, (i0 : Int), mk) (by rw [hrk2]; rfl)
  have HF2 := hide hput
  clear hput hc3 hz3 hrk2
  have ht : Two (some g2) (some g3) X1 (X1.setCell ⟨g3, b * 3 + 1, none⟩ (.int .i64 (i0 : Int))) := Two.of_set X1 (.inr rfl) _ _
  replace kb := hide ((uh kb).two ht h2R h3R)
  replace ke := hide ((uh ke).two ht h2E h3E)
  replace HE := hide (Two.ents (uh HE) ht (fun i e => by cases e; omega) (fun i e => by cases e; omega))
  have Tw2 : Hid (Two (some g2) (some g3) w (X1.setCell ⟨g3, b * 3 + 1, none⟩ (.int .i64 (i0 : Int)))) := hide ((uh Tw1).trans ht)
  clear ht Tw1 HF1
  go_upto_region 7 with fail
  clear d1 f1 c3 e1
  generalize X1.setCell ⟨g3, b * 3 + 1, none⟩ (.int .i64 (i0 : Int)) = X2 at *
  have hD1 : (m.desks.set b (op, (i0 : Int), mk)).length = m.desks.length := by simp
  obtain ⟨_, hga, _, _, hc3, hz3⟩ := RecAt.view encDesk_len (by omega) (uh HF2).desks hD1.symm (by show 0 < (m.desks.set b _).length; omega)
  cases hga
  have hrk2 : recAt ({ m with smiths := ss, desks := m.desks.set b (op, (i0 : Int), mk) } : SmyV).desks b = (op, (i0 : Int), mk) := uh Hset _
  have d2 := hc3 b (by show b < (m.desks.set b _).length; omega) 2 _ rfl
  rw [hrk2] at d2
  simp only at d2
  have f2 := hz3 (b * 3 + 2)
  have c3 := (uh kb).cell (i := 3) (v := .slice (some ⟨g3, 0, none⟩) m.desks.length p3) rfl
  have e0 := (uh ke).cell (i := 0) (v := .int .i64 hd0) rfl
  have hput := (uh HF2).putD hD1.symm (j := b) (i := 2) (by show b < (m.desks.set b _).length; omega) (by omega) (.int .i64 (markedV mk hd0)) (op, (i0 : Int), (markedV mk hd0)) (by rw [hrk2]; rfl)
  simp only [List.set_set] at hput
  clear hc3 hz3 hrk2
  refine wp_region_last (S := fun w' => w'.cell? ⟨w.heap.size, 3, none⟩ = some (.slice (some ⟨g3, 0, none⟩) m.desks.length p3) ∧ w'.cell? ⟨g3, b * 3 + 2, none⟩ = some (.int .i64 mk) ∧ w'.cell? ⟨w2.heap.size, 0, none⟩ = some (.int .i64 hd0) ∧ w'.frozen? ⟨g3, b * 3 + 2, none⟩ = false) (by kernel_rfl) (List.cons_ne_nil _ _) (by kernel_rfl) ⟨c3, d2, e0, f2⟩ (fun hHeld => ?_)
  simp only [List.dropLast_cons_cons, List.dropLast_singleton, List.length_cons, List.length_nil, Nat.zero_add, Nat.reduceAdd]
  have hbd : Below X2.heap.size X2 X2.drew := (Below.refl _ _).drew
  (refine tq 0 ?_; (try simp only [Act.put, sA, sZ, sS]))
  (refine tq 1 ?_; (try simp only [Act.put, sA, sZ, sS]))
  (refine tq 2 ?_; (try simp only [Act.put, sA, sZ, sS]))
  (refine tq 3 ?_; (try simp only [Act.put, sA, sZ, sS]))
  (refine tq 4 ?_; (try simp only [Act.put, sA, sZ, sS]))
  (refine tq 5 ?_; (try simp only [Act.put, sA, sZ, sS]))
  (refine tq 6 ?_; (try simp only [Act.put, sA, sZ, sS]))
  (refine tq 7 ?_; (try simp only [Act.put, sA, sZ, sS]))
  (refine tq 8 ?_; (try simp only [Act.put, sA, sZ, sS]))
  (refine tq 9 ?_; (try simp only [Act.put, sA, sZ, sS]))
  (refine tq 10 ?_; (try simp only [Act.put, sA, sZ, sS]))
  refine rd 11 rfl (fun K hK => ?_)
  go_simp
  refine (implMarked_any mk hd0 _).mono ?_
  rintro e9 w9 ⟨rfl, hb9'⟩
  have hb9 : Below X2.heap.size X2 w9 := hbd.trans hb9'
  clear hb9' hbd
  replace kb := hide ((uh kb).below hb9 (uh kb).lt)
  replace ke := hide ((uh ke).below hb9 (uh ke).lt)
  replace HE := hide ((uh HE).later hb9)
  replace Tw2 := hide ((uh Tw2).trans (Two.of_below hb9))
  have HF3 : Hid (FullSmy n₀ w9 (.slice a0 m.rooms.length p0) (.slice a1 m.guilds.length p1) (.slice (some ⟨g2, 0, none⟩) m.smiths.length p2) (.slice (some ⟨g3, 0, none⟩) m.desks.length p3) (.slice a4 m.paces.length p4) { m with smiths := ss, desks := m.desks.set b (op, (i0 : Int), mk) } qs) := hide ((uh HF2).below hb9)
  clear hput
  obtain ⟨_, hga, _, _, hc3, hz3⟩ := RecAt.view encDesk_len (by omega) (uh HF3).desks hD1.symm (by show 0 < (m.desks.set b _).length; omega)
  cases hga
  have hrk2 : recAt ({ m with smiths := ss, desks := m.desks.set b (op, (i0 : Int), mk) } : SmyV).desks b = (op, (i0 : Int), mk) := uh Hset _
  have d3 := hc3 b (by show b < (m.desks.set b _).length; omega) 2 _ rfl
  rw [hrk2] at d3
  simp only at d3
  have f3 := hz3 (b * 3 + 2)
  have hput := (uh HF3).putD hD1.symm (j := b) (i := 2) (by show b < (m.desks.set b _).length; omega) (by omega) (.int .i64 (markedV mk hd0)) (op, (i0 : Int), (markedV mk hd0)) (by rw [hrk2]; rfl)
  simp only [List.set_set] at hput
  have HF4 := hide hput
  clear hput hc3 hz3 hrk2
  refine hK.out _ _ ⟨(uh kb).cell (i := 3) rfl, d3, (uh ke).cell (i := 0) rfl, f3⟩ (fun hHeld => ?_)
  clear hK K c3 e0 d2 f2 hb9
  (try simp only [Act.put, sA, sZ, sS])
  (refine tq 12 ?_; (try simp only [Act.put, sA, sZ, sS]))
  (refine tq 13 ?_; (try simp only [Act.put, sA, sZ, sS]))
  refine wpAnyH_done (by kernel_rfl) ?_ _
  refine tailQ_run rfl rfl ?_
  go_simp
  clear hHeld d3 f3
  have ht : Two (some g2) (some g3) w9 (w9.setCell ⟨g3, b * 3 + 2, none⟩ (.int .i64 (markedV mk hd0))) := Two.of_set w9 (.inr rfl) _ _
  replace kb := hide ((uh kb).two ht h2R h3R)
  replace HE := hide (Two.ents (uh HE) ht (fun i e => by cases e; omega) (fun i e => by cases e; omega))
  have Tw4 : Hid (Two (some g2) (some g3) w (w9.setCell ⟨g3, b * 3 + 2, none⟩ (.int .i64 (markedV mk hd0)))) := hide ((uh Tw2).trans ht)
  clear ht Tw2 HF3 HF2 ke
  generalize w9.setCell ⟨g3, b * 3 + 2, none⟩ (.int .i64 (markedV mk hd0)) = X4 at *
  obtain ⟨ds, hds⟩ : ∃ q, m.desks.set b (op, (i0 : Int), (markedV mk hd0)) = q := ⟨_, rfl⟩
  rw [hds] at Hcons HF4
  clear hds hD1
  have h2X : g2 < X4.heap.size := by have h9 := (uh HF4).smiths; exact (RecAt.lt h9 rfl).2
  have h3X : g3 < X4.heap.size := by have h9 := (uh HF4).desks; exact (RecAt.lt h9 rfl).2
  go_wp2_with fail
  refine (waitingIn_any (uh HE).paces (by omega)).mono ?_
  rintro e w5 ⟨v5, rfl, he5, hb5⟩
  obtain ⟨ya, yc, rfl⟩ := EntsAt.shape he5
  have HE5 := hide he5
  have hX4 : w.heap.size < X4.heap.size := (uh kb).lt
  replace kb := hide ((uh kb).below hb5 (uh kb).lt)
  replace HF4 := hide ((uh HF4).below hb5)
  replace Tw4 := hide ((uh Tw4).trans (Two.of_below hb5))
  clear he5 hb5 HE
  go_wp2_with fail
  go_loopw [54] (fun i wi => ∃ j : Nat, j ≤ t.length ∧ i = .int .i64 j ∧ FullSmy n₀ wi (.slice a0 m.rooms.length p0) (.slice a1 m.guilds.length p1) (.slice (some ⟨g2, 0, none⟩) m.smiths.length p2) (.slice (some ⟨g3, 0, none⟩) m.desks.length p3) (.slice a4 m.paces.length p4) { m with smiths := waitAll ss (t.take j), desks := ds } qs ∧ Two (some g2) (some g3) w5 wi) (fun i _ => t.length - (intOf i).toNat)
  case atStart => exact ⟨0, Nat.zero_le _, rfl, by simpa [waitAll] using uh HF4, Two.refl _ _ _⟩
  case round =>
   obtain ⟨j, hj, rfl, hf3, htw3⟩ := hrel
   have HF5 := hide hf3
   have Tw5 := hide htw3
   have K5 := hide ((uh kb).two htw3 h2R h3R)
   have HE6 := hide (Two.ents (uh HE5) htw3 (fun i e => by cases e; exact h2X) (fun i e => by cases e; exact h3X))
   have hzr := htw3.size
   clear hf3 htw3
   by_cases hjl : j < t.length
   ·obtain ⟨_, _, hqe, _, _, hr⟩ := EntsAt.paces (uh HE6)
    cases hqe
    rcases hr with e0 | ⟨eb, eo, rfl, hbw, hcl⟩
    ·rw [e0] at hjl; simp at hjl
    obtain ⟨d0, d1⟩ := hcl j hjl
    obtain ⟨i2, hi2, hie⟩ := uh Hmt _ (paceAt_mem hjl)
    rw [hie] at d1
    have Htk : Hid (waitAll ss (t.take (j + 1)) = (waitAll ss (t.take j)).set i2 (stS (recAt (waitAll ss (t.take j)) i2) 2)) := hide (by rw [take_one hjl, waitAll_snoc, hie]; simp)
    obtain ⟨hh, hhh⟩ : ∃ q, (paceAt t j).1 = q := ⟨_, rfl⟩
    rw [hhh] at d0
    have hjl1 : (j : Int) < (t.length : Int) := by omega
    clear hcl hie hhh
    go_upto_region 11 with fail
    clear d0 d1
    obtain ⟨Y, hY, hba, ke⟩ := one_box wr 151 #[.int .i64 hh, .int .i64 (i2 : Int)]
    replace K5 := bl K5 hba
    replace HF5 := hide ((uh HF5).below hba)
    replace Tw5 := hide ((uh Tw5).trans (Two.of_below hba))
    clear hba
    rw [hY]
    clear hY
    have hwl : (waitAll ss (t.take j)).length = m.smiths.length := by rw [waitAll_len, hsl]
    obtain ⟨_, hga, _, _, hc2, hz2⟩ := RecAt.view encSmith_len (by omega) (uh HF5).smiths hwl.symm (by show 0 < (waitAll ss (t.take j)).length; omega)
    cases hga
    have s0 := hc2 i2 (by show i2 < (waitAll ss (t.take j)).length; omega) 0 _ rfl
    have f0 := hz2 (i2 * 11)
    have hput := (uh HF5).putS hwl.symm (j := i2) (i := 0) (by show i2 < (waitAll ss (t.take j)).length; omega) (by omega) (.int .i64 2) (stS (recAt (waitAll ss (t.take j)) i2) 2) rfl
    simp only [Nat.add_zero] at s0 hput
    have HF6 := hide hput
    have c2 := (uh K5).cell (i := 2) (v := .slice (some ⟨g2, 0, none⟩) m.smiths.length p2) rfl
    have e1 := (uh ke).cell (i := 1) (v := .int .i64 (i2 : Int)) rfl
    have hi3 : (i2 : Int) < (m.smiths.length : Int) := by omega
    clear hput hc2 hz2 hwl
    go_wp2_with fail
    go_roundw
    case rel => exact ⟨j + 1, by omega, by go_num, by rw [uh Htk]; exact uh HF6, (uh Tw5).trans (Two.of_set _ (.inl rfl) _ _)⟩
    case measure => exact ms
   ·obtain rfl : j = t.length := by omega
    rw [List.take_length] at HF5
    go_wp2_with fail
    go_end0
    exact ⟨rfl, by rw [uh Hcons]; exact uh HF5, (uh Tw4).trans (uh Tw5)⟩
theorem implTurned_any (w : World) (v0 v1 v2 v3 v4 : Value) (m : SmyV) (h : Smy w v0 v1 v2 v3 v4 m) :
  Calls Tryz.prog 96 #[.agg #[v0, v1, v2, v3, v4, .int .i64 m.now]] w fun e w' => ∃ u0 u1 u2 u3 u4 rs, e = .returned (.agg #[u0, u1, u2, u3, u4, .int .i64 (turnedV m).now]) ∧ FullSmy w.heap.size w' u0 u1 u2 u3 u4 (turnedV m) rs ∧ Below w.heap.size w w' := by
 obtain ⟨M, hM⟩ : ∃ x, turnedV m = x := ⟨_, rfl⟩
 rw [hM]
 have HM := hide hM
 clear hM
 have Hv0 := hide h
 obtain ⟨a0, p0, a1, p1, a2, p2, a3, p3, a4, p4, rfl, rfl, rfl, rfl, rfl, _, _, _, _, _, _, _, _, _, _⟩ := h.five
 clear h
 obtain ⟨ok, hok⟩ : ∃ q, looseB m = q := ⟨_, rfl⟩
 have Hok := hide hok
 have Hok2 : Hid (inPlaceIB m = ok) := hide (by rw [loose_same]; exact hok)
 clear hok
 go_enter Tryz.func96, Tryz.ntmps96
 go_wp2_with fail
 obtain ⟨W, hW, kb, kr, BB⟩ := two_boxes w 32 (S6 a0 p0 a1 p1 a2 p2 a3 p3 a4 p4 m) 32 E6
 have Hv := hide ((uh Hv0).below (uh BB))
 rw [hW]
 clear hW
 refine (allInPlace_any (uh Hv)).mono ?_
 rw [uh Hok2]
 rintro e w1 ⟨rfl, hb⟩
 replace Hv := hide ((uh Hv).below hb)
 replace kb := bl kb hb
 replace kr := bl kr hb
 replace BB := bt BB hb
 clear hb
 cases ok
 ·
  obtain rfl : M = zeroM := by rw [← uh HM]; unfold turnedV; rw [uh Hok]; rfl
  obtain ⟨o0, o1, o2, o3, o4, o5⟩ := (uh kr).c6
  obtain ⟨f0, f1, f2, f3, f4, f5⟩ := (uh kr).f6
  go_wp2_with fail
  refine bodyPost_ret (v := .agg E6) (by simp [results, Tryz.results96, go_sem, *]) rfl ⟨_, _, _, _, _, [], rfl, full_zero _ _, ?_⟩
  iterate 6 (refine Below.setCell ?_ (by show _ ≤ w.heap.size + 1; omega) _)
  exact uh BB
 obtain rfl : M = turnV m := by rw [← uh HM]; unfold turnedV; rw [uh Hok]; rfl
 have hlo := loose_of (uh Hok)
 have HLo := hide hlo
 have HFew := hide (few_of hlo)
 clear hlo
 obtain ⟨c0, c1, c2, c3, c4, c5⟩ := (uh kb).c6
 go_wp2_with fail
 clear c0 c1 c2 c3 c4 c5
 have hWs : w.heap.size + 2 ≤ w1.heap.size := by have := (uh kr).lt; omega
 refine (copyOfSmithy_any (uh Hv) (uh HFew)).mono ?_
 rintro e w2 ⟨y0, y1, y2, y3, y4, oq, rfl, ho, hb⟩
 have k9 := ho.smy
 obtain ⟨b0, q0, b1, q1, b2, q2, b3, q3, b4, q4, rfl, rfl, rfl, rfl, rfl, _, _, _, _, _, _, _, _, _, _⟩ := k9.five
 replace Hv := hide ((uh Hv).below hb)
 replace kb := bl kb hb
 replace kr := bl kr hb
 replace BB := bt BB hb
 have HO := hide (ho.mono hWs)
 have LO : Hid (∀ k, OwnB (.slice b0 m.rooms.length q0) (.slice b1 m.guilds.length q1) (.slice b2 m.smiths.length q2) (.slice b3 m.desks.length q3) (.slice b4 m.paces.length q4) oq k → w.heap.size + 2 ≤ k ∧ k < w2.heap.size) := hide (fun k e => (uh HO).own e)
 have hsz9 := hb.size
 clear ho hb k9
 go_upto_region 4 with fail
 obtain ⟨W2, hW2, hb, ko⟩ := one_box w2 32 (S6 b0 q0 b1 q1 b2 q2 b3 q3 b4 q4 m)
 replace Hv := hide ((uh Hv).below hb)
 replace kb := bl kb hb
 replace kr := bl kr hb
 replace BB := bt BB hb
 replace HO := hide ((uh HO).below hb)
 have hob : w.heap.size + 2 ≤ w2.heap.size := Nat.le_trans hWs hsz9
 clear hb hsz9 hWs
 rw [hW2]
 clear hW2
 generalize w2.heap.size = ob at *
 have x3 := (uh ko).cell (i := 3) (v := .slice b3 m.desks.length q3) rfl
 go_wp2_with fail
 clear x3
 go_loopw [4, 14] (fun u i wr => ∃ k : Nat, k ≤ m.desks.length ∧ i = .int .i64 k ∧ FullSmy (w.heap.size + 2) wr (.slice b0 m.rooms.length q0) (.slice b1 m.guilds.length q1) (.slice b2 m.smiths.length q2) (.slice b3 m.desks.length q3) (.slice b4 m.paces.length q4) (turnK m k) oq ∧ Two (Value.slice b2 m.smiths.length q2).ownBlock (Value.slice b3 m.desks.length q3).ownBlock W2 wr) (fun _ i _ => m.desks.length - (intOf i).toNat)
 case atStart => exact ⟨0, Nat.zero_le _, rfl, uh HO, Two.refl _ _ _⟩
 case round =>
  obtain ⟨k, hk, rfl, hf1, htw⟩ := hrel
  have H2 : (Value.slice b2 m.smiths.length q2).ownBlock ≠ some ob := fun e => by have := (uh LO _ (.inr (.inr (.inr (.inl e))))).2; omega
  have H3 : (Value.slice b3 m.desks.length q3).ownBlock ≠ some ob := fun e => by have := (uh LO _ (.inr (.inr (.inr (.inr (.inl e)))))).2; omega
  have ko1 := hide ((uh ko).two htw H2 H3)
  have HF1 := hide hf1
  have Tw := hide htw
  clear hf1 htw H2 H3
  have hnow : (turnK m k).now = m.now := (turnK_same m k).2.2.2.1
  have hdl : (turnK m k).desks.length = m.desks.length := (turnK_same m k).2.2.2.2.2
  by_cases hlt : k < m.desks.length
  ·have hlt1 : (k : Int) < (m.desks.length : Int) := by omega
   have hc := callAt_any (b := k) (uh HF1) (turnK_loose (uh HLo) k hk) (by omega)
   rw [hnow] at hc
   have Hc := hide hc
   clear hc hnow hdl
   obtain ⟨x0, x1, x2, x3, x4, x5⟩ := (uh ko1).c6
   go_wp2_with fail
   clear x0 x1 x2 x3 x4 x5
   refine (uh Hc).mono ?_
   rintro e w5 ⟨rfl, hf5, ht5⟩
   have HF5 := hide hf5
   have T5 := hide ((uh Tw).trans ht5)
   clear hf5 ht5
   go_wp2_with fail
   go_roundw
   case rel => exact ⟨k + 1, by omega, by go_num, uh HF5, uh T5⟩
   case measure => exact ms
  ·
   obtain rfl : k = m.desks.length := by omega
   replace kr := hide ((uh kr).two (uh Tw) (fun e => by have := (uh LO _ (.inr (.inr (.inr (.inl e))))).1; omega) (fun e => by have := (uh LO _ (.inr (.inr (.inr (.inr (.inl e)))))).1; omega))
   replace BB := hide ((uh BB).trans ((uh Tw).below (uh BB).size (fun k e => by have := (uh LO k (.inr (.inr (.inr (.inl e))))).1; omega) (fun k e => by have := (uh LO k (.inr (.inr (.inr (.inr (.inl e)))))).1; omega)))
   obtain ⟨x0, x1, x2, x3, x4, x5⟩ := (uh ko1).c6
   obtain ⟨o0, o1, o2, o3, o4, o5⟩ := (uh kr).c6
   obtain ⟨f0, f1, f2, f3, f4, f5⟩ := (uh kr).f6
   have Hnow : Hid ((turnV m).now = m.now) := hide hnow
   clear hnow hdl
   go_wp2_with fail
   refine bodyPost_ret (v := .agg (S6 b0 q0 b1 q1 b2 q2 b3 q3 b4 q4 m)) (by simp [results, Tryz.results96, go_sem, *]) rfl ⟨_, _, _, _, _, oq, by rw [uh Hnow], ?_, ?_⟩
   ·iterate 6 (refine FullSmy.set_off ?_ (fun k e => by have := (uh LO k e).1; omega) _ _)
    exact (uh HF1).mono (by omega)
   ·iterate 6 (refine Below.setCell ?_ (by show _ ≤ w.heap.size + 1; omega) _)
    exact uh BB
open Go.ChangeShapes Go.WideShapes Go.ChangeAt Go.RowKit Go.Sort Go.Shelf
set_option maxRecDepth 100000
theorem ticked1_any {w W : World} {R : Nat} {v0 v1 v2 v3 v4 : Value} {m : SmyV} {qs : List (RoomV × Value)} {q : Int → Addr} (K : Nx w W R v0 v1 v2 v3 v4 m qs) (he : Errs w q) (hm : smyB m = true) (n : Int) {cb : Nat} (hc : Blk W cb 2 #[.int .i64 n]) : Calls Tryz.prog 36 #[.pointer (some ⟨R, 0, none⟩), .pointer (some ⟨cb, 0, none⟩)] W fun e W' => Chg w R q (tickY m n) (tickC m n) e W' := by
 have HC := hide (passes_any K he hm n)
 have c0 := hc.cell (i := 0) (v := .int .i64 n) rfl
 clear hc K
 go_enter Tryz.func36, Tryz.ntmps36
 go_wp2_with fail
 refine (uh HC).mono ?_
 rintro e w1 ⟨hb, h9⟩
 clear c0
 rcases h9 with ⟨hc0, rfl, hx⟩ | ⟨hc0, rfl⟩
 ·go_wp2_with fail
  go_ret
  exact ⟨hb, .inl ⟨hc0, rfl, hx⟩⟩
 ·go_wp2_with fail
  go_ret
  exact ⟨hb, .inr ⟨hc0, rfl⟩⟩
theorem tried_ticked {w : World} {v0 v1 v2 v3 v4 : Value} {m : SmyV} {q : Int → Addr} (h : Smy w v0 v1 v2 v3 v4 m) (he : Errs w q) (n : Int) {cb : Nat} (hc : Blk w cb 2 #[.int .i64 n]) : Calls Tryz.prog 35 #[.agg #[v0, v1, v2, v3, v4, .int .i64 m.now], .func (Fn.func 36) #[] #[.pointer (some ⟨cb, 0, none⟩)]] w fun e w' => Tr w q m (tickY m n) (tickC m n) e w' := by
 obtain ⟨ok, hok⟩ : ∃ x, smyB m = x := ⟨_, rfl⟩
 have Hok := hide hok
 clear hok
 have HE := hide he
 have HC := hide hc
 have Hlow : Hid (0 < w.heap.size) := hide (World.block_lt_of_cell? _ _ he.c3)
 clear he hc
 obtain ⟨a0, p0, a1, p1, a2, p2, a3, p3, a4, p4, rfl, rfl, rfl, rfl, rfl, K⟩ := Bx.new h
 clear h
 replace K := K.alloc (.cells E6 32)
 have kr : Hid (Blk ((w.alloc (.cells (S6 a0 p0 a1 p1 a2 p2 a3 p3 a4 p4 m) 32)).alloc (.cells E6 32)) (w.heap.size + 1) 32 E6) := hide (by
  have k := Blk.new (w.alloc (.cells (S6 a0 p0 a1 p1 a2 p2 a3 p3 a4 p4 m) 32)) 32 E6
  rw [World.size_alloc] at k
  exact k)
 replace HC := hide ((uh HC).below K.bb (uh HC).lt)
 replace HE := hide ((uh HE).below K.bb)
 go_enter Tryz.func35, Tryz.ntmps35
 go_wp2_with fail
 generalize ((w.alloc (.cells (S6 a0 p0 a1 p1 a2 p2 a3 p3 a4 p4 m) 32)).alloc (.cells E6 32)) = W1 at *
 refine ck (implSmithyOk_q _ _ _ _ _ _ _ _ (uh Hok) K.smy) fun w1 hb => ?_
 replace K := K.next hb
 replace kr := bl kr hb
 replace HC := bl HC hb
 replace HE := hide ((uh HE).below hb)
 clear hb
 cases ok
 ·
  have x1 := (uh HE).c3
  obtain ⟨o0, o1, o2, o3, o4, o5⟩ := (uh kr).c6
  obtain ⟨f0, f1, f2, f3, f4, f5⟩ := (uh kr).f6
  go_wp2_with fail
  go_region
  all_goals (try go_wp2_with fail)
  all_goals (refine bodyPost_ret (v := .tuple #[.agg E6, sent (q 3)]) (by simp [results, Tryz.results35, go_sem, *]) rfl ⟨?_, .inl ⟨uh Hok, rfl⟩⟩)
  all_goals (refine Below.drew ?_)
  all_goals (iterate 6 (refine Below.setCell ?_ (by show _ ≤ w.heap.size + 1; omega) _))
  all_goals (exact K.bb)
 have HFew := hide (few_of (smy_loose (uh Hok)))
 obtain ⟨c0, c1, c2, c3, c4, c5⟩ := K.cells
 go_wp2_with fail
 have hw1 : w.heap.size + 2 ≤ w1.heap.size := by have := (uh kr).lt; omega
 refine (copyOfSmithy_any K.smy (uh HFew)).mono ?_
 rintro e w2 ⟨u0, u1, u2, u3, u4, rs, rfl, hf, hb⟩
 clear c0 c1 c2 c3 c4 c5
 obtain ⟨b0, r0, b1, r1, b2, r2, b3, r3, b4, r4, rfl, rfl, rfl, rfl, rfl⟩ := full_five hf
 have N1 : Nx w1 (w2.alloc (.cells (S6 b0 r0 b1 r1 b2 r2 b3 r3 b4 r4 m) 32)) w2.heap.size (.slice b0 m.rooms.length r0) (.slice b1 m.guilds.length r1) (.slice b2 m.smiths.length r2) (.slice b3 m.desks.length r3) (.slice b4 m.paces.length r4) m rs := by
  have hba : Below w2.heap.size w2 (w2.alloc (.cells (S6 b0 r0 b1 r1 b2 r2 b3 r3 b4 r4 m) 32)) := ba _ _
  exact ⟨hf.below hba, Blk.new _ _ _, fun k e => by have := (hf.own e).2; omega, hb.trans (hba.mono hb.size), hb.size⟩
 have HN := hide N1
 clear N1 hf hb
 go_upto_region 4 with fail
 generalize w2.alloc (.cells (S6 b0 r0 b1 r1 b2 r2 b3 r3 b4 r4 m) 32) = W3 at *
 generalize w2.heap.size = R at *
 go_wp2_with fail
 refine (ticked1_any (uh HN) (uh HE) (uh Hok) n ((uh HC).below (uh HN).bb (uh HC).lt)).mono ?_
 rintro e w4 ⟨hb4, h9⟩
 have hKs := K.smy.below hb4
 have hKb := K.blk.below hb4 K.blk.lt
 have hrb := (uh kr).below hb4 (uh kr).lt
 have hbb := K.bb.trans (hb4.mono K.bb.size)
 have K4 : Bx w w4 w.heap.size a0 p0 a1 p1 a2 p2 a3 p3 a4 p4 m := ⟨hKs, hKb, hbb⟩
 clear K
 have K := K4
 replace kr := hide hrb
 clear K4 hKs hKb hrb hbb
 rcases h9 with ⟨hc0, rfl, v0, v1, v2, v3, v4, rs4, N4⟩ | ⟨hc0, rfl⟩
 ·
  obtain ⟨d0, s0, d1, s1, d2, s2, d3, s3, d4, s4, rfl, rfl, rfl, rfl, rfl⟩ := full_five N4.full
  have HN4 := hide N4
  obtain ⟨c0, c1, c2, c3, c4, c5⟩ := N4.cells
  clear N4 HN
  go_wp2_with fail
  refine (implTurned_any _ _ _ _ _ _ _ (uh HN4).full.smy).mono ?_
  rintro e w5 ⟨u0, u1, u2, u3, u4, rs5, rfl, hf, hb⟩
  clear c0 c1 c2 c3 c4 c5
  obtain ⟨e0, g0, e1, g1, e2, g2, e3, g3, e4, g4, rfl, rfl, rfl, rfl, rfl⟩ := full_five hf
  have hsz : w.heap.size + 2 ≤ w4.heap.size := by have := (uh kr).lt; omega
  have HF := hide (hf.mono (n₁ := w.heap.size + 2) hsz)
  replace K := K.next hb
  replace kr := bl kr hb
  clear hb hf
  obtain ⟨o0, o1, o2, o3, o4, o5⟩ := (uh kr).c6
  obtain ⟨f0, f1, f2, f3, f4, f5⟩ := (uh kr).f6
  go_wp2_with fail
  refine bodyPost_ret (v := .tuple #[.agg #[.slice e0 (turnedV (tickY m n)).rooms.length g0, .slice e1 (turnedV (tickY m n)).guilds.length g1, .slice e2 (turnedV (tickY m n)).smiths.length g2, .slice e3 (turnedV (tickY m n)).desks.length g3, .slice e4 (turnedV (tickY m n)).paces.length g4, .int .i64 (turnedV (tickY m n)).now], .nilIface]) (by simp [results, Tryz.results35, go_sem, *]) rfl ⟨?_, .inr (.inl ⟨uh Hok, hc0, e0, g0, e1, g1, e2, g2, e3, g3, e4, g4, rs5, rfl, ?_⟩)⟩
  ·iterate 6 (refine Below.setCell ?_ (by show _ ≤ w.heap.size + 1; omega) _)
   exact K.bb
  ·refine FullSmy.mono (n₀ := w.heap.size + 2) ?_ (by omega)
   iterate 6 (refine FullSmy.set_off ?_ (fun k e => by have := ((uh HF).own e).1; omega) _ _)
   exact uh HF
 ·
  clear HN
  obtain ⟨c0, c1, c2, c3, c4, c5⟩ := K.cells
  go_wp2_with fail
  refine (copyOfSmithy_any K.smy (uh HFew)).mono ?_
  rintro e w5 ⟨u0, u1, u2, u3, u4, rs5, rfl, hf, hb⟩
  clear c0 c1 c2 c3 c4 c5
  obtain ⟨e0, g0, e1, g1, e2, g2, e3, g3, e4, g4, rfl, rfl, rfl, rfl, rfl⟩ := full_five hf
  have hsz : w.heap.size + 2 ≤ w4.heap.size := by have := (uh kr).lt; omega
  have hba : Below w5.heap.size w5 (w5.alloc (.cells #[.slice e0 m.rooms.length g0, .slice e1 m.guilds.length g1, .slice e2 m.smiths.length g2, .slice e3 m.desks.length g3, .slice e4 m.paces.length g4, .int .i64 m.now, sent (q (tickC m n))] 126)) := ba _ _
  have kp : Hid (Blk (w5.alloc (.cells #[.slice e0 m.rooms.length g0, .slice e1 m.guilds.length g1, .slice e2 m.smiths.length g2, .slice e3 m.desks.length g3, .slice e4 m.paces.length g4, .int .i64 m.now, sent (q (tickC m n))] 126)) w5.heap.size 126 #[.slice e0 m.rooms.length g0, .slice e1 m.guilds.length g1, .slice e2 m.smiths.length g2, .slice e3 m.desks.length g3, .slice e4 m.paces.length g4, .int .i64 m.now, sent (q (tickC m n))]) := hide (Blk.new _ _ _)
  have HF := hide ((hf.mono (n₁ := w.heap.size + 2) hsz).below hba)
  have h5 : w.heap.size + 2 ≤ w5.heap.size := Nat.le_trans hsz hb.size
  replace K := (K.next hb).next hba
  replace kr := bl (bl kr hb) hba
  clear hb hf hba
  obtain ⟨o0, o1, o2, o3, o4, o5⟩ := (uh kr).c6
  obtain ⟨f0, f1, f2, f3, f4, f5⟩ := (uh kr).f6
  go_wp2_with fail
  refine bodyPost_ret (v := .tuple #[.agg E6, refu w5.heap.size]) (by simp [results, Tryz.results35, go_sem, *]) rfl ⟨?_, .inr (.inr ⟨uh Hok, hc0, w5.heap.size, e0, g0, e1, g1, e2, g2, e3, g3, e4, g4, rs5, rfl, ?_, ?_⟩)⟩
  ·iterate 6 (refine Below.setCell ?_ (by show _ ≤ w.heap.size + 1; omega) _)
   exact K.bb
  ·iterate 6 (refine Blk.other ?_ (by show w5.heap.size ≠ w.heap.size + 1; omega) _)
   exact uh kp
  ·refine FullSmy.mono (n₀ := w.heap.size + 2) ?_ (by omega)
   iterate 6 (refine FullSmy.set_off ?_ (fun k e => by have := ((uh HF).own e).1; omega) _ _)
   exact uh HF
theorem implTicked_any {w : World} {v0 v1 v2 v3 v4 : Value} {m : SmyV} {q : Int → Addr} (n : Int) (he : Errs w q) (h : Smy w v0 v1 v2 v3 v4 m) : Calls Tryz.prog 9 #[.agg #[v0, v1, v2, v3, v4, .int .i64 m.now], .int .i64 n] w fun e w' => GotM w.heap.size (tickV m n).1 (tickV m n).2 e w' ∧ Below w.heap.size w w' := by
 have HE := hide he
 clear he
 obtain ⟨a0, p0, a1, p1, a2, p2, a3, p3, a4, p4, rfl, rfl, rfl, rfl, rfl, K⟩ := Bx.new h
 clear h
 replace K := (K.alloc (.cells #[.int .i64 n] 2)).alloc (.cells E6 32)
 have kr : Hid (Blk (((w.alloc (.cells (S6 a0 p0 a1 p1 a2 p2 a3 p3 a4 p4 m) 32)).alloc (.cells #[.int .i64 n] 2)).alloc (.cells E6 32)) (w.heap.size + 1 + 1) 32 E6) := hide (by
  have k := Blk.new ((w.alloc (.cells (S6 a0 p0 a1 p1 a2 p2 a3 p3 a4 p4 m) 32)).alloc (.cells #[.int .i64 n] 2)) 32 E6
  rw [World.size_alloc, World.size_alloc] at k
  exact k)
 have kc : Hid (Blk (((w.alloc (.cells (S6 a0 p0 a1 p1 a2 p2 a3 p3 a4 p4 m) 32)).alloc (.cells #[.int .i64 n] 2)).alloc (.cells E6 32)) (w.heap.size + 1) 2 #[.int .i64 n]) := hide (by
  have k := Blk.new (w.alloc (.cells (S6 a0 p0 a1 p1 a2 p2 a3 p3 a4 p4 m) 32)) 2 #[.int .i64 n]
  rw [World.size_alloc] at k
  exact k.alloc _)
 replace HE := hide ((uh HE).below K.bb)
 have hsz : (((w.alloc (.cells (S6 a0 p0 a1 p1 a2 p2 a3 p3 a4 p4 m) 32)).alloc (.cells #[.int .i64 n] 2)).alloc (.cells E6 32)).heap.size = w.heap.size + 1 + 1 + 1 := by simp
 obtain ⟨X9, hX9⟩ : ∃ x, doneV m (tickY m n) (tickC m n) = x := ⟨_, rfl⟩
 rw [tick_is, hX9]
 have HX9 := hide hX9
 clear hX9
 go_enter Tryz.func9, Tryz.ntmps9
 go_upto_region 1 with fail
 generalize (((w.alloc (.cells (S6 a0 p0 a1 p1 a2 p2 a3 p3 a4 p4 m) 32)).alloc (.cells #[.int .i64 n] 2)).alloc (.cells E6 32)) = W1 at *
 obtain ⟨c0, c1, c2, c3, c4, c5⟩ := K.cells
 go_wp2_with fail
 refine (tried_ticked K.smy (uh HE) n (uh kc)).mono ?_
 rintro e w2 ⟨hb, h9⟩
 replace K := K.next hb
 replace kr := bl kr hb
 replace HE := hide ((uh HE).below hb)
 clear c0 c1 c2 c3 c4 c5 kc
 rcases h9 with ⟨hm, rfl⟩ | ⟨hm, hc0, b0, r0, b1, r1, b2, r2, b3, r3, b4, r4, rs, rfl, hf⟩ | ⟨hm, hc0, p, b0, r0, b1, r1, b2, r2, b3, r3, b4, r4, rs, rfl, kp, hf⟩
 ·
  have hX0 := hide ((uh HX9).symm.trans (done_bad hm _ _))
  clear hb
  go_wp2_with fail
  refine ck (told_bare (uh HE)) fun w3 hb => ?_
  replace K := K.next hb
  replace kr := bl kr hb
  clear hb
  obtain ⟨o0, o1, o2, o3, o4, o5⟩ := (uh kr).c6
  obtain ⟨f0, f1, f2, f3, f4, f5⟩ := (uh kr).f6
  go_wp2_with fail
  refine bodyPost_ret (v := .tuple #[.agg E6, .int .i64 3]) (by simp [results, Tryz.results9, go_sem, *]) rfl ⟨by rw [uh hX0]; exact ⟨_, _, _, _, _, [], rfl, full_zero _ _⟩, ?_⟩
  iterate 6 (refine Below.setCell ?_ (by show _ ≤ w.heap.size + 1 + 1; omega) _)
  exact K.bb
 ·
  have hX0 : Hid (X9 = (turnedV (tickY m n), 0)) := hide (by rw [← uh HX9, hc0]; exact done_yes hm _)
  have HF := hide (hf.mono (n₁ := w.heap.size + 1 + 1 + 1) (by omega))
  clear hf hb HX9
  generalize turnedV (tickY m n) = Y at *
  go_wp2_with fail
  refine told_nil.mono ?_
  rintro e w3 ⟨rfl, hb⟩
  replace K := K.next hb
  replace kr := bl kr hb
  replace HF := hide ((uh HF).below hb)
  clear hb
  obtain ⟨o0, o1, o2, o3, o4, o5⟩ := (uh kr).c6
  obtain ⟨f0, f1, f2, f3, f4, f5⟩ := (uh kr).f6
  go_wp2_with fail
  refine bodyPost_ret (v := .tuple #[.agg (S6 b0 r0 b1 r1 b2 r2 b3 r3 b4 r4 Y), .int .i64 0]) (by simp [results, Tryz.results9, go_sem, *]) rfl ⟨?_, ?_⟩
  ·rw [uh hX0]
   refine ⟨_, _, _, _, _, rs, rfl, ?_⟩
   refine FullSmy.mono (n₀ := w.heap.size + 1 + 1 + 1) ?_ (by omega)
   iterate 6 (refine FullSmy.set_off ?_ (fun k e => by have := ((uh HF).own e).1; omega) _ _)
   exact uh HF
  ·iterate 6 (refine Below.setCell ?_ (by show _ ≤ w.heap.size + 1 + 1; omega) _)
   exact K.bb
 ·
  have hcn : (tickC m n) ≠ 0 := by omega
  have hX0 := hide ((uh HX9).symm.trans (done_no hm _ hcn))
  have HF := hide (hf.mono (n₁ := w.heap.size + 1 + 1 + 1) (by omega))
  have Hkp := hide kp
  clear hf hb kp hcn HX9
  generalize tickC m n = cd at *
  go_wp2_with fail
  refine ck (told_wrap (uh HE) hc0 (uh Hkp)) fun w3 hb => ?_
  replace K := K.next hb
  replace kr := bl kr hb
  replace HF := hide ((uh HF).below hb)
  clear hb Hkp
  obtain ⟨o0, o1, o2, o3, o4, o5⟩ := (uh kr).c6
  obtain ⟨f0, f1, f2, f3, f4, f5⟩ := (uh kr).f6
  go_wp2_with fail
  refine bodyPost_ret (v := .tuple #[.agg (S6 b0 r0 b1 r1 b2 r2 b3 r3 b4 r4 m), .int .i64 cd]) (by simp [results, Tryz.results9, go_sem, *]) rfl ⟨?_, ?_⟩
  ·rw [uh hX0]
   refine ⟨_, _, _, _, _, rs, rfl, ?_⟩
   refine FullSmy.mono (n₀ := w.heap.size + 1 + 1 + 1) ?_ (by omega)
   iterate 6 (refine FullSmy.set_off ?_ (fun k e => by have := ((uh HF).own e).1; omega) _ _)
   exact uh HF
  ·iterate 6 (refine Below.setCell ?_ (by show _ ≤ w.heap.size + 1 + 1; omega) _)
   exact K.bb
theorem granted1_any {w W : World} {R : Nat} {v0 v1 v2 v3 v4 : Value} {m : SmyV} {qs : List (RoomV × Value)} {q : Int → Addr} (K : Nx w W R v0 v1 v2 v3 v4 m qs) (he : Errs w q) (hm : smyB m = true) (room pace : Int) {cb cd : Nat} (hc : Blk W cb 2 #[.int .i64 room]) (hd : Blk W cd 2 #[.int .i64 pace]) : Calls Tryz.prog 56 #[.pointer (some ⟨R, 0, none⟩), .pointer (some ⟨cb, 0, none⟩), .pointer (some ⟨cd, 0, none⟩)] W fun e W' => Chg w R q (grantX m room pace) (grantC m room pace) e W' := by
 have HC := hide (grants_any K he hm room pace)
 have c0 := hc.cell (i := 0) (v := .int .i64 room) rfl
 have c1 := hd.cell (i := 0) (v := .int .i64 pace) rfl
 clear hc hd K
 go_enter Tryz.func56, Tryz.ntmps56
 go_wp2_with fail
 refine (uh HC).mono ?_
 rintro e w1 ⟨hb, h9⟩
 clear c0 c1
 rcases h9 with ⟨hc0, rfl, hx⟩ | ⟨hc0, rfl⟩
 ·go_wp2_with fail
  go_ret
  exact ⟨hb, .inl ⟨hc0, rfl, hx⟩⟩
 ·go_wp2_with fail
  go_ret
  exact ⟨hb, .inr ⟨hc0, rfl⟩⟩
theorem tried_granted {w : World} {v0 v1 v2 v3 v4 : Value} {m : SmyV} {q : Int → Addr} (h : Smy w v0 v1 v2 v3 v4 m) (he : Errs w q) (room pace : Int) {cb cd : Nat} (hc : Blk w cb 2 #[.int .i64 room]) (hd : Blk w cd 2 #[.int .i64 pace]) : Calls Tryz.prog 35 #[.agg #[v0, v1, v2, v3, v4, .int .i64 m.now], .func (Fn.func 56) #[] #[.pointer (some ⟨cb, 0, none⟩), .pointer (some ⟨cd, 0, none⟩)]] w fun e w' => Tr w q m (grantX m room pace) (grantC m room pace) e w' := by
 obtain ⟨ok, hok⟩ : ∃ x, smyB m = x := ⟨_, rfl⟩
 have Hok := hide hok
 clear hok
 have HE := hide he
 have HC := hide hc
 have HD := hide hd
 have Hlow : Hid (0 < w.heap.size) := hide (World.block_lt_of_cell? _ _ he.c3)
 clear he hc hd
 obtain ⟨a0, p0, a1, p1, a2, p2, a3, p3, a4, p4, rfl, rfl, rfl, rfl, rfl, K⟩ := Bx.new h
 clear h
 replace K := K.alloc (.cells E6 32)
 have kr : Hid (Blk ((w.alloc (.cells (S6 a0 p0 a1 p1 a2 p2 a3 p3 a4 p4 m) 32)).alloc (.cells E6 32)) (w.heap.size + 1) 32 E6) := hide (by
  have k := Blk.new (w.alloc (.cells (S6 a0 p0 a1 p1 a2 p2 a3 p3 a4 p4 m) 32)) 32 E6
  rw [World.size_alloc] at k
  exact k)
 replace HC := hide ((uh HC).below K.bb (uh HC).lt)
 replace HD := hide ((uh HD).below K.bb (uh HD).lt)
 replace HE := hide ((uh HE).below K.bb)
 go_enter Tryz.func35, Tryz.ntmps35
 go_wp2_with fail
 generalize ((w.alloc (.cells (S6 a0 p0 a1 p1 a2 p2 a3 p3 a4 p4 m) 32)).alloc (.cells E6 32)) = W1 at *
 refine ck (implSmithyOk_q _ _ _ _ _ _ _ _ (uh Hok) K.smy) fun w1 hb => ?_
 replace K := K.next hb
 replace kr := bl kr hb
 replace HC := bl HC hb
 replace HD := bl HD hb
 replace HE := hide ((uh HE).below hb)
 clear hb
 cases ok
 ·
  have x1 := (uh HE).c3
  obtain ⟨o0, o1, o2, o3, o4, o5⟩ := (uh kr).c6
  obtain ⟨f0, f1, f2, f3, f4, f5⟩ := (uh kr).f6
  go_wp2_with fail
  go_region
  all_goals (try go_wp2_with fail)
  all_goals (refine bodyPost_ret (v := .tuple #[.agg E6, sent (q 3)]) (by simp [results, Tryz.results35, go_sem, *]) rfl ⟨?_, .inl ⟨uh Hok, rfl⟩⟩)
  all_goals (refine Below.drew ?_)
  all_goals (iterate 6 (refine Below.setCell ?_ (by show _ ≤ w.heap.size + 1; omega) _))
  all_goals (exact K.bb)
 have HFew := hide (few_of (smy_loose (uh Hok)))
 obtain ⟨c0, c1, c2, c3, c4, c5⟩ := K.cells
 go_wp2_with fail
 have hw1 : w.heap.size + 2 ≤ w1.heap.size := by have := (uh kr).lt; omega
 refine (copyOfSmithy_any K.smy (uh HFew)).mono ?_
 rintro e w2 ⟨u0, u1, u2, u3, u4, rs, rfl, hf, hb⟩
 clear c0 c1 c2 c3 c4 c5
 obtain ⟨b0, r0, b1, r1, b2, r2, b3, r3, b4, r4, rfl, rfl, rfl, rfl, rfl⟩ := full_five hf
 have N1 : Nx w1 (w2.alloc (.cells (S6 b0 r0 b1 r1 b2 r2 b3 r3 b4 r4 m) 32)) w2.heap.size (.slice b0 m.rooms.length r0) (.slice b1 m.guilds.length r1) (.slice b2 m.smiths.length r2) (.slice b3 m.desks.length r3) (.slice b4 m.paces.length r4) m rs := by
  have hba : Below w2.heap.size w2 (w2.alloc (.cells (S6 b0 r0 b1 r1 b2 r2 b3 r3 b4 r4 m) 32)) := ba _ _
  exact ⟨hf.below hba, Blk.new _ _ _, fun k e => by have := (hf.own e).2; omega, hb.trans (hba.mono hb.size), hb.size⟩
 have HN := hide N1
 clear N1 hf hb
 go_upto_region 4 with fail
 generalize w2.alloc (.cells (S6 b0 r0 b1 r1 b2 r2 b3 r3 b4 r4 m) 32) = W3 at *
 generalize w2.heap.size = R at *
 go_wp2_with fail
 refine (granted1_any (uh HN) (uh HE) (uh Hok) room pace ((uh HC).below (uh HN).bb (uh HC).lt) ((uh HD).below (uh HN).bb (uh HD).lt)).mono ?_
 rintro e w4 ⟨hb4, h9⟩
 have hKs := K.smy.below hb4
 have hKb := K.blk.below hb4 K.blk.lt
 have hrb := (uh kr).below hb4 (uh kr).lt
 have hbb := K.bb.trans (hb4.mono K.bb.size)
 have K4 : Bx w w4 w.heap.size a0 p0 a1 p1 a2 p2 a3 p3 a4 p4 m := ⟨hKs, hKb, hbb⟩
 clear K
 have K := K4
 replace kr := hide hrb
 clear K4 hKs hKb hrb hbb
 rcases h9 with ⟨hc0, rfl, v0, v1, v2, v3, v4, rs4, N4⟩ | ⟨hc0, rfl⟩
 ·
  obtain ⟨d0, s0, d1, s1, d2, s2, d3, s3, d4, s4, rfl, rfl, rfl, rfl, rfl⟩ := full_five N4.full
  have HN4 := hide N4
  obtain ⟨c0, c1, c2, c3, c4, c5⟩ := N4.cells
  clear N4 HN
  go_wp2_with fail
  refine (implTurned_any _ _ _ _ _ _ _ (uh HN4).full.smy).mono ?_
  rintro e w5 ⟨u0, u1, u2, u3, u4, rs5, rfl, hf, hb⟩
  clear c0 c1 c2 c3 c4 c5
  obtain ⟨e0, g0, e1, g1, e2, g2, e3, g3, e4, g4, rfl, rfl, rfl, rfl, rfl⟩ := full_five hf
  have hsz : w.heap.size + 2 ≤ w4.heap.size := by have := (uh kr).lt; omega
  have HF := hide (hf.mono (n₁ := w.heap.size + 2) hsz)
  replace K := K.next hb
  replace kr := bl kr hb
  clear hb hf
  obtain ⟨o0, o1, o2, o3, o4, o5⟩ := (uh kr).c6
  obtain ⟨f0, f1, f2, f3, f4, f5⟩ := (uh kr).f6
  go_wp2_with fail
  refine bodyPost_ret (v := .tuple #[.agg #[.slice e0 (turnedV (grantX m room pace)).rooms.length g0, .slice e1 (turnedV (grantX m room pace)).guilds.length g1, .slice e2 (turnedV (grantX m room pace)).smiths.length g2, .slice e3 (turnedV (grantX m room pace)).desks.length g3, .slice e4 (turnedV (grantX m room pace)).paces.length g4, .int .i64 (turnedV (grantX m room pace)).now], .nilIface]) (by simp [results, Tryz.results35, go_sem, *]) rfl ⟨?_, .inr (.inl ⟨uh Hok, hc0, e0, g0, e1, g1, e2, g2, e3, g3, e4, g4, rs5, rfl, ?_⟩)⟩
  ·iterate 6 (refine Below.setCell ?_ (by show _ ≤ w.heap.size + 1; omega) _)
   exact K.bb
  ·refine FullSmy.mono (n₀ := w.heap.size + 2) ?_ (by omega)
   iterate 6 (refine FullSmy.set_off ?_ (fun k e => by have := ((uh HF).own e).1; omega) _ _)
   exact uh HF
 ·
  clear HN
  obtain ⟨c0, c1, c2, c3, c4, c5⟩ := K.cells
  go_wp2_with fail
  refine (copyOfSmithy_any K.smy (uh HFew)).mono ?_
  rintro e w5 ⟨u0, u1, u2, u3, u4, rs5, rfl, hf, hb⟩
  clear c0 c1 c2 c3 c4 c5
  obtain ⟨e0, g0, e1, g1, e2, g2, e3, g3, e4, g4, rfl, rfl, rfl, rfl, rfl⟩ := full_five hf
  have hsz : w.heap.size + 2 ≤ w4.heap.size := by have := (uh kr).lt; omega
  have hba : Below w5.heap.size w5 (w5.alloc (.cells #[.slice e0 m.rooms.length g0, .slice e1 m.guilds.length g1, .slice e2 m.smiths.length g2, .slice e3 m.desks.length g3, .slice e4 m.paces.length g4, .int .i64 m.now, sent (q (grantC m room pace))] 126)) := ba _ _
  have kp : Hid (Blk (w5.alloc (.cells #[.slice e0 m.rooms.length g0, .slice e1 m.guilds.length g1, .slice e2 m.smiths.length g2, .slice e3 m.desks.length g3, .slice e4 m.paces.length g4, .int .i64 m.now, sent (q (grantC m room pace))] 126)) w5.heap.size 126 #[.slice e0 m.rooms.length g0, .slice e1 m.guilds.length g1, .slice e2 m.smiths.length g2, .slice e3 m.desks.length g3, .slice e4 m.paces.length g4, .int .i64 m.now, sent (q (grantC m room pace))]) := hide (Blk.new _ _ _)
  have HF := hide ((hf.mono (n₁ := w.heap.size + 2) hsz).below hba)
  have h5 : w.heap.size + 2 ≤ w5.heap.size := Nat.le_trans hsz hb.size
  replace K := (K.next hb).next hba
  replace kr := bl (bl kr hb) hba
  clear hb hf hba
  obtain ⟨o0, o1, o2, o3, o4, o5⟩ := (uh kr).c6
  obtain ⟨f0, f1, f2, f3, f4, f5⟩ := (uh kr).f6
  go_wp2_with fail
  refine bodyPost_ret (v := .tuple #[.agg E6, refu w5.heap.size]) (by simp [results, Tryz.results35, go_sem, *]) rfl ⟨?_, .inr (.inr ⟨uh Hok, hc0, w5.heap.size, e0, g0, e1, g1, e2, g2, e3, g3, e4, g4, rs5, rfl, ?_, ?_⟩)⟩
  ·iterate 6 (refine Below.setCell ?_ (by show _ ≤ w.heap.size + 1; omega) _)
   exact K.bb
  ·iterate 6 (refine Blk.other ?_ (by show w5.heap.size ≠ w.heap.size + 1; omega) _)
   exact uh kp
  ·refine FullSmy.mono (n₀ := w.heap.size + 2) ?_ (by omega)
   iterate 6 (refine FullSmy.set_off ?_ (fun k e => by have := ((uh HF).own e).1; omega) _ _)
   exact uh HF
theorem implGranted_any {w : World} {v0 v1 v2 v3 v4 : Value} {m : SmyV} {q : Int → Addr} (room pace : Int) (he : Errs w q) (h : Smy w v0 v1 v2 v3 v4 m) : Calls Tryz.prog 19 #[.agg #[v0, v1, v2, v3, v4, .int .i64 m.now], .int .i64 room, .int .i64 pace] w fun e w' => GotM w.heap.size (grantV m room pace).1 (grantV m room pace).2 e w' ∧ Below w.heap.size w w' := by
 have HE := hide he
 clear he
 obtain ⟨a0, p0, a1, p1, a2, p2, a3, p3, a4, p4, rfl, rfl, rfl, rfl, rfl, K⟩ := Bx.new h
 clear h
 replace K := ((K.alloc (.cells #[.int .i64 room] 2)).alloc (.cells #[.int .i64 pace] 2)).alloc (.cells E6 32)
 have kr : Hid (Blk ((((w.alloc (.cells (S6 a0 p0 a1 p1 a2 p2 a3 p3 a4 p4 m) 32)).alloc (.cells #[.int .i64 room] 2)).alloc (.cells #[.int .i64 pace] 2)).alloc (.cells E6 32)) (w.heap.size + 1 + 1 + 1) 32 E6) := hide (by
  have k := Blk.new (((w.alloc (.cells (S6 a0 p0 a1 p1 a2 p2 a3 p3 a4 p4 m) 32)).alloc (.cells #[.int .i64 room] 2)).alloc (.cells #[.int .i64 pace] 2)) 32 E6
  rw [World.size_alloc, World.size_alloc, World.size_alloc] at k
  exact k)
 have kc : Hid (Blk ((((w.alloc (.cells (S6 a0 p0 a1 p1 a2 p2 a3 p3 a4 p4 m) 32)).alloc (.cells #[.int .i64 room] 2)).alloc (.cells #[.int .i64 pace] 2)).alloc (.cells E6 32)) (w.heap.size + 1) 2 #[.int .i64 room]) := hide (by
  have k := Blk.new (w.alloc (.cells (S6 a0 p0 a1 p1 a2 p2 a3 p3 a4 p4 m) 32)) 2 #[.int .i64 room]
  rw [World.size_alloc] at k
  exact (k.alloc _).alloc _)
 have kd : Hid (Blk ((((w.alloc (.cells (S6 a0 p0 a1 p1 a2 p2 a3 p3 a4 p4 m) 32)).alloc (.cells #[.int .i64 room] 2)).alloc (.cells #[.int .i64 pace] 2)).alloc (.cells E6 32)) (w.heap.size + 1 + 1) 2 #[.int .i64 pace]) := hide (by
  have k := Blk.new ((w.alloc (.cells (S6 a0 p0 a1 p1 a2 p2 a3 p3 a4 p4 m) 32)).alloc (.cells #[.int .i64 room] 2)) 2 #[.int .i64 pace]
  rw [World.size_alloc, World.size_alloc] at k
  exact k.alloc _)
 replace HE := hide ((uh HE).below K.bb)
 have hsz : ((((w.alloc (.cells (S6 a0 p0 a1 p1 a2 p2 a3 p3 a4 p4 m) 32)).alloc (.cells #[.int .i64 room] 2)).alloc (.cells #[.int .i64 pace] 2)).alloc (.cells E6 32)).heap.size = w.heap.size + 1 + 1 + 1 + 1 := by simp
 obtain ⟨X9, hX9⟩ : ∃ x, doneV m (grantX m room pace) (grantC m room pace) = x := ⟨_, rfl⟩
 rw [grant_is, hX9]
 have HX9 := hide hX9
 clear hX9
 go_enter Tryz.func19, Tryz.ntmps19
 go_upto_region 1 with fail
 generalize ((((w.alloc (.cells (S6 a0 p0 a1 p1 a2 p2 a3 p3 a4 p4 m) 32)).alloc (.cells #[.int .i64 room] 2)).alloc (.cells #[.int .i64 pace] 2)).alloc (.cells E6 32)) = W1 at *
 obtain ⟨c0, c1, c2, c3, c4, c5⟩ := K.cells
 go_wp2_with fail
 refine (tried_granted K.smy (uh HE) room pace (uh kc) (uh kd)).mono ?_
 rintro e w2 ⟨hb, h9⟩
 replace K := K.next hb
 replace kr := bl kr hb
 replace HE := hide ((uh HE).below hb)
 clear c0 c1 c2 c3 c4 c5 kc kd
 rcases h9 with ⟨hm, rfl⟩ | ⟨hm, hc0, b0, r0, b1, r1, b2, r2, b3, r3, b4, r4, rs, rfl, hf⟩ | ⟨hm, hc0, p, b0, r0, b1, r1, b2, r2, b3, r3, b4, r4, rs, rfl, kp, hf⟩
 ·
  have hX0 := hide ((uh HX9).symm.trans (done_bad hm _ _))
  clear hb
  go_wp2_with fail
  refine ck (told_bare (uh HE)) fun w3 hb => ?_
  replace K := K.next hb
  replace kr := bl kr hb
  clear hb
  obtain ⟨o0, o1, o2, o3, o4, o5⟩ := (uh kr).c6
  obtain ⟨f0, f1, f2, f3, f4, f5⟩ := (uh kr).f6
  go_wp2_with fail
  refine bodyPost_ret (v := .tuple #[.agg E6, .int .i64 3]) (by simp [results, Tryz.results19, go_sem, *]) rfl ⟨by rw [uh hX0]; exact ⟨_, _, _, _, _, [], rfl, full_zero _ _⟩, ?_⟩
  iterate 6 (refine Below.setCell ?_ (by show _ ≤ w.heap.size + 1 + 1 + 1; omega) _)
  exact K.bb
 ·
  have hX0 : Hid (X9 = (turnedV (grantX m room pace), 0)) := hide (by rw [← uh HX9, hc0]; exact done_yes hm _)
  have HF := hide (hf.mono (n₁ := w.heap.size + 1 + 1 + 1 + 1) (by omega))
  clear hf hb HX9
  generalize turnedV (grantX m room pace) = Y at *
  go_wp2_with fail
  refine told_nil.mono ?_
  rintro e w3 ⟨rfl, hb⟩
  replace K := K.next hb
  replace kr := bl kr hb
  replace HF := hide ((uh HF).below hb)
  clear hb
  obtain ⟨o0, o1, o2, o3, o4, o5⟩ := (uh kr).c6
  obtain ⟨f0, f1, f2, f3, f4, f5⟩ := (uh kr).f6
  go_wp2_with fail
  refine bodyPost_ret (v := .tuple #[.agg (S6 b0 r0 b1 r1 b2 r2 b3 r3 b4 r4 Y), .int .i64 0]) (by simp [results, Tryz.results19, go_sem, *]) rfl ⟨?_, ?_⟩
  ·rw [uh hX0]
   refine ⟨_, _, _, _, _, rs, rfl, ?_⟩
   refine FullSmy.mono (n₀ := w.heap.size + 1 + 1 + 1 + 1) ?_ (by omega)
   iterate 6 (refine FullSmy.set_off ?_ (fun k e => by have := ((uh HF).own e).1; omega) _ _)
   exact uh HF
  ·iterate 6 (refine Below.setCell ?_ (by show _ ≤ w.heap.size + 1 + 1 + 1; omega) _)
   exact K.bb
 ·
  have hcn : (grantC m room pace) ≠ 0 := by omega
  have hX0 := hide ((uh HX9).symm.trans (done_no hm _ hcn))
  have HF := hide (hf.mono (n₁ := w.heap.size + 1 + 1 + 1 + 1) (by omega))
  have Hkp := hide kp
  clear hf hb kp hcn HX9
  generalize grantC m room pace = cd at *
  go_wp2_with fail
  refine ck (told_wrap (uh HE) hc0 (uh Hkp)) fun w3 hb => ?_
  replace K := K.next hb
  replace kr := bl kr hb
  replace HF := hide ((uh HF).below hb)
  clear hb Hkp
  obtain ⟨o0, o1, o2, o3, o4, o5⟩ := (uh kr).c6
  obtain ⟨f0, f1, f2, f3, f4, f5⟩ := (uh kr).f6
  go_wp2_with fail
  refine bodyPost_ret (v := .tuple #[.agg (S6 b0 r0 b1 r1 b2 r2 b3 r3 b4 r4 m), .int .i64 cd]) (by simp [results, Tryz.results19, go_sem, *]) rfl ⟨?_, ?_⟩
  ·rw [uh hX0]
   refine ⟨_, _, _, _, _, rs, rfl, ?_⟩
   refine FullSmy.mono (n₀ := w.heap.size + 1 + 1 + 1 + 1) ?_ (by omega)
   iterate 6 (refine FullSmy.set_off ?_ (fun k e => by have := ((uh HF).own e).1; omega) _ _)
   exact uh HF
  ·iterate 6 (refine Below.setCell ?_ (by show _ ≤ w.heap.size + 1 + 1 + 1; omega) _)
   exact K.bb
theorem right_small {m : SmyV} (h : smyB m = true) : SmySmall m := by
 have hf := few_of (smy_loose h)
 have h1 := hf.rooms
 have h2 := hf.guilds
 have h3 := hf.smiths
 have h4 := hf.desks
 have h5 := hf.nums
 exact ⟨⟨by omega, fun j hj => by have := hf.paces _ (roomAt_mem hj); omega⟩, by omega, by omega, by omega, by omega⟩
theorem zero_small : SmySmall zeroM := ⟨⟨by simp [zeroM], fun j hj => by simp [zeroM] at hj⟩, by simp [zeroM], by simp [zeroM], by simp [zeroM], by simp [zeroM]⟩
end Go.Proofs.YtffcgajndmhpkaaGreatDoor
