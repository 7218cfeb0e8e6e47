/- Part 28 of what the proof rests on. No condition but those that a theorem names. -/
import Derived.Test.YthbbahagpmdooaaGreatDoorXw27
set_option maxHeartbeats 8000000
set_option maxRecDepth 100000
namespace Go.Proofs.YthbbahagpmdooaaGreatDoor
open Go.ChangeShapes Go.WideShapes Go.ChangeAt Go.RowKit Go.Sort Go.Shelf
set_option linter.unusedVariables false
set_option linter.unusedSimpArgs false
set_option maxRecDepth 100000
theorem for_len (m : SmyV) (who : Int) : (forV m who).length ≤ 8 := by
 unfold forV
 split
 ·rename_i h
  simp only [Bool.and_eq_true] at h
  have := (smy_loose h.1).sane.eight
  have := mayTo_len m who m.desks.length
  omega
 ·simp
theorem fit_few (m : SmyV) (who : Int) : (fittingOfV m who).length ≤ 1000 := by
 rw [← for_fit, List.length_map]
 have := List.length_filter_le (takesB (wantOfV m who)) (forV m who)
 have := for_len m who
 omega
theorem fit_who {m : SmyV} {who : Int} {fs : List Int} (h : fittingOfV m who = fs) (h0 : ¬ fs.length = 0) : ∃ k : Nat, who = (k : Int) ∧ k < m.smiths.length := by
 unfold fittingOfV at h
 cases hc : (smyB m && whoB m who)
 ·rw [hc] at h; subst h; simp at h0
 ·simp only [Bool.and_eq_true] at hc
  obtain ⟨k, rfl, hk, _⟩ := whoB_of hc.2
  exact ⟨k, rfl, hk⟩
attribute [local go_sem] m_place m_spare
theorem roomiestOf_any {w : World} {v : Value} {n0 : Nat} {us : List BenchV} (h : BenchesAt n0 w v us) (hl : us.length ≤ 1000) : Calls Tryz.prog 171 #[v] w fun e w' => e = .returned (.int .i64 (roomL us).1) ∧ Below w.heap.size w w' := by
 obtain ⟨ua, uc, rfl⟩ := RecAt.shape h
 have H0 := hide h
 clear h
 go_enter Tryz.func171, Tryz.ntmps171
 go_wp2_with fail
 go_loopw [3, 4, 9] (fun c t i wr => ∃ j : Nat, j ≤ us.length ∧ i = .int .i64 j ∧ c = .int .i64 (roomL (us.take j)).1 ∧ t = .int .i64 (roomL (us.take j)).2 ∧ Below w.heap.size w wr) (fun _ _ i _ => us.length - (intOf i).toNat)
 case atStart => exact ⟨0, Nat.zero_le _, rfl, rfl, rfl, Below.refl _ _⟩
 case round =>
  obtain ⟨j, hj, rfl, rfl, rfl, hb⟩ := hrel
  have HU := hide (RecAt.later (uh H0) hb)
  have BB := hide hb
  clear hb
  by_cases hlt : j < us.length
  ·have hlt1 : (j : Int) < (us.length : Int) := by omega
   have HR := hide (room_next hlt)
   generalize hcm : roomL (us.take j) = cm at *
   clear hcm
   obtain ⟨ch, mo⟩ := cm
   obtain ⟨g, rfl, hgl, hgw, hcl, _⟩ := RecAt.view encBench_len (by omega) (uh HU) rfl (by omega)
   have z0 := bench_cell hcl hlt
   clear hcl
   generalize hx : recAt us j = x at *
   clear hx
   obtain ⟨bx, ux, fx⟩ := x
   simp only at z0
   unfold roomStep at HR
   simp only at HR ⊢
   by_cases h1 : ch = -1
   ·subst h1
    rw [if_pos (.inl rfl)] at HR
    go_upto_region 6 with fail
    go_wp2_with (first | (go_at_call 393; refine (place_any _ _ _ _).mono ?_; rintro e w1 ⟨rfl, hb⟩; replace BB := bt BB hb; clear hb) | (go_at_call 394; refine (spare_any _ _ _ _).mono ?_; rintro e w2 ⟨rfl, hb⟩; replace BB := bt BB hb; clear hb))
    go_roundw
    case rel => exact ⟨j + 1, by omega, by go_num, by rw [uh HR], by rw [uh HR], uh BB⟩
    case measure => simp [intOf]; omega
   ·have h1b : (ch == -1) = false := beq_eq_false_iff_ne.mpr h1
    obtain ⟨sp, hsp⟩ : ∃ x, spareV ux fx = x := ⟨_, rfl⟩
    have HSP := hide (fun X => Calls.int_of (spare_any bx ux fx X) hsp)
    rw [hsp] at HR
    clear hsp
    go_upto_region 5 with fail
    go_wp2_with fail
    refine (uh HSP _).mono ?_
    rintro e w1 ⟨rfl, hb⟩
    replace BB := bt BB hb
    clear hb
    by_cases h2 : mo < sp
    ·rw [if_pos (.inr h2)] at HR
     go_upto_region 6 with fail
     go_wp2_with (first | (go_at_call 393; refine (place_any _ _ _ _).mono ?_; rintro e w2 ⟨rfl, hb⟩; replace BB := bt BB hb; clear hb) | (go_at_call 394; refine (uh HSP _).mono ?_; rintro e w3 ⟨rfl, hb⟩; replace BB := bt BB hb; clear hb))
     go_roundw
     case rel => exact ⟨j + 1, by omega, by go_num, by rw [uh HR], by rw [uh HR], uh BB⟩
     case measure => simp [intOf]; omega
    ·rw [if_neg (not_or.2 ⟨h1, h2⟩)] at HR
     go_wp2_with fail
     go_roundw
     case rel => exact ⟨j + 1, by omega, by go_num, by rw [uh HR], by rw [uh HR], uh BB⟩
     case measure => simp [intOf]; omega
  ·obtain rfl : j = us.length := by omega
   rw [List.take_length]
   go_wp2_with fail
   go_ret
   exact ⟨rfl, uh BB⟩
theorem cheapestFor_any {w : World} {v0 v1 v2 v3 v4 : Value} {m : SmyV} {k n0 : Nat} {v : Value} {fs : List Int} (h : Smy w v0 v1 v2 v3 v4 m) (hk : k < m.smiths.length) (hf : NumsAt n0 w v fs) (hl : fs.length ≤ 1000) (ho : ∀ x ∈ fs, coalWithOfV m (k : Int) x = coalWithV m (k : Int) x) : Calls Tryz.prog 173 #[.agg #[v0, v1, v2, v3, v4, .int .i64 m.now], .int .i64 (k : Int), v] w fun e w' => e = .returned (.int .i64 (cheapL m (k : Int) fs).1) ∧ Below w.heap.size w w' := by
 obtain ⟨ua, uc, rfl⟩ := RecAt.shape hf
 have HO := hide ho
 clear ho
 have H0 := hide (RecAt.later hf ((Below.refl _ _).alloc (Nat.le_refl _) (.cells #[v0, v1, v2, v3, v4, .int .i64 m.now] 32)))
 clear hf
 obtain ⟨a0, p0, a1, p1, a2, p2, a3, p3, a4, p4, rfl, rfl, rfl, rfl, rfl, K⟩ := Bx.new h
 clear h
 go_enter Tryz.func173, Tryz.ntmps173
 go_wp2_with fail
 generalize w.alloc (.cells #[.slice a0 m.rooms.length p0, .slice a1 m.guilds.length p1, .slice a2 m.smiths.length p2, .slice a3 m.desks.length p3, .slice a4 m.paces.length p4, .int .i64 m.now] 32) = W at *
 go_loopw [7, 8, 14] (fun c t i wr => ∃ j : Nat, j ≤ fs.length ∧ i = .int .i64 j ∧ c = .int .i64 (cheapL m (k : Int) (fs.take j)).1 ∧ t = .int .i64 (cheapL m (k : Int) (fs.take j)).2 ∧ Bx w wr w.heap.size a0 p0 a1 p1 a2 p2 a3 p3 a4 p4 m ∧ Below W.heap.size W wr) (fun _ _ i _ => fs.length - (intOf i).toNat)
 case atStart => exact ⟨0, Nat.zero_le _, rfl, rfl, rfl, K, Below.refl _ _⟩
 case round =>
  obtain ⟨j, hj, rfl, rfl, rfl, hK, hb⟩ := hrel
  clear K
  have K := hK
  have HU := hide (RecAt.later (uh H0) hb)
  have BB := hide hb
  clear hb hK
  by_cases hlt : j < fs.length
  ·have hlt1 : (j : Int) < (fs.length : Int) := by omega
   have HR := hide (cheap_next (m := m) (who := (k : Int)) hlt)
   have Hcw := hide (uh HO _ (recAt_mem hlt))
   obtain ⟨g, rfl, hgl, hgw, hcl, _⟩ := RecAt.view encNum_len (by omega) (uh HU) rfl (by omega)
   have z0 := hcl j hlt 0 _ rfl
   simp only [Nat.mul_one, Nat.add_zero] at z0
   clear hcl
   generalize hx : recAt fs j = bx at *
   clear hx
   generalize hcm : cheapL m (k : Int) (fs.take j) = cm at *
   clear hcm
   obtain ⟨ch, mo⟩ := cm
   unfold cheapStep at HR
   rw [Int.toNat_natCast] at HR
   simp only at HR ⊢
   generalize coalWithV m (k : Int) bx = cw at *
   obtain ⟨c0, c1, c2, c3, c4, c5⟩ := K.cells
   go_wp2_with fail
   refine (implCoalWith_any (uh Hcw) K.smy).mono ?_
   rintro e w1 ⟨rfl, hb⟩
   replace K := K.next hb
   replace BB := bt BB hb
   clear hb c0 c1 c2 c3 c4 c5 z0 HU Hcw
   by_cases h1 : ch = -1
   ·subst h1
    rw [if_pos (.inl rfl)] at HR
    go_wp2_with fail
    go_roundw
    case rel => exact ⟨j + 1, by omega, by go_num, by rw [uh HR], by rw [uh HR], K, uh BB⟩
    case measure => simp [intOf]; omega
   have h1b : (ch == -1) = false := beq_eq_false_iff_ne.mpr h1
   by_cases h2 : cw < mo
   ·rw [if_pos (.inr (.inl h2))] at HR
    go_wp2_with fail
    go_roundw
    case rel => exact ⟨j + 1, by omega, by go_num, by rw [uh HR], by rw [uh HR], K, uh BB⟩
    case measure => simp [intOf]; omega
   by_cases h3 : cw = mo
   ·have h3b : (cw == mo) = true := beq_iff_eq.mpr h3
    have hk1 : (k : Int) < (m.smiths.length : Int) := by omega
    obtain ⟨_, _, hse, _, _, r2⟩ := K.smy.smiths
    cases hse
    rcases r2 with e0 | ⟨sb, off, rfl, hbw, hcs⟩
    ·rw [e0] at hk; simp at hk
    obtain ⟨d0, d1, d2, d3, d4, d5, d6, d7, d8, d9, d10⟩ := smith_cells hcs hk
    have c2 := K.blk.cell (i := 2) (v := .slice (some ⟨sb, off, none⟩) m.smiths.length p2) rfl
    clear hcs d0 d2 d3 d4 d5 d6 d7 d8 d9 d10
    generalize (recAt m.smiths k).2.1 = own at *
    subst h3
    clear h3b
    by_cases h4 : bx = own
    ·have h4b : (bx == own) = true := beq_iff_eq.mpr h4
     rw [if_pos (.inr (.inr ⟨rfl, h4⟩))] at HR
     subst h4
     go_wp2_with fail
     go_roundw
     case rel => exact ⟨j + 1, by omega, by go_num, by rw [uh HR], by rw [uh HR], K, uh BB⟩
     case measure => simp [intOf]; omega
    ·have h4b : (bx == own) = false := beq_eq_false_iff_ne.mpr h4
     rw [if_neg (not_or.2 ⟨h1, not_or.2 ⟨h2, fun e => h4 e.2⟩⟩)] at HR
     go_wp2_with fail
     go_roundw
     case rel => exact ⟨j + 1, by omega, by go_num, by rw [uh HR], by rw [uh HR], K, uh BB⟩
     case measure => simp [intOf]; omega
   ·have h3b : (cw == mo) = false := beq_eq_false_iff_ne.mpr h3
    rw [if_neg (not_or.2 ⟨h1, not_or.2 ⟨h2, fun e => h3 e.1⟩⟩)] at HR
    go_wp2_with fail
    go_roundw
    case rel => exact ⟨j + 1, by omega, by go_num, by rw [uh HR], by rw [uh HR], K, uh BB⟩
    case measure => simp [intOf]; omega
  ·obtain rfl : j = fs.length := by omega
   rw [List.take_length]
   go_wp2_with fail
   go_ret
   exact ⟨rfl, K.bb⟩
attribute [local go_sem] m_hasTooMuch
theorem implCrowded_any {w : World} {v0 v1 v2 v3 v4 : Value} {m : SmyV} {q : Bool} (hq : crowdedV m = q) (h : Smy w v0 v1 v2 v3 v4 m) : Calls Tryz.prog 170 #[.agg #[v0, v1, v2, v3, v4, .int .i64 m.now]] w fun e w' => e = .returned (.bool q) ∧ Below w.heap.size w w' := by
 have Hq := hide hq
 clear hq
 obtain ⟨ok, hok⟩ : ∃ q, smyB m = q := ⟨_, rfl⟩
 have Hok := hide hok
 clear hok
 obtain ⟨a0, p0, a1, p1, a2, p2, a3, p3, a4, p4, rfl, rfl, rfl, rfl, rfl, K⟩ := Bx.new h
 clear h
 go_enter Tryz.func170, Tryz.ntmps170
 go_wp2_with fail
 generalize w.alloc (.cells #[.slice a0 m.rooms.length p0, .slice a1 m.guilds.length p1, .slice a2 m.smiths.length p2, .slice a3 m.desks.length p3, .slice a4 m.paces.length p4, .int .i64 m.now] 32) = W at *
 refine (implSmithyOk_q _ _ _ _ _ _ _ _ (uh Hok) K.smy).mono ?_
 rintro e w1 ⟨rfl, hb⟩
 replace K := K.next hb
 clear hb
 cases ok
 ·obtain rfl : q = false := by rw [← uh Hq]; unfold crowdedV; rw [uh Hok]; rfl
  go_wp2_with fail
  go_ret
  exact ⟨rfl, K.bb⟩
 have Hq2 : Hid ((openTo m m.desks.length).any (fun x => muchB x.2.1 x.2.2) = q) := hide (by rw [crowd_any, ← uh Hq]; unfold crowdedV; rw [uh Hok]; rfl)
 clear Hq
 have HLo := hide (smy_loose (uh Hok))
 have hl := smyB_few (uh Hok)
 have h8 := (uh HLo).sane.eight
 have hfl := openTo_len m m.desks.length
 obtain ⟨c0, c1, c2, c3, c4, c5⟩ := K.cells
 go_wp2_with fail
 refine (usableIn_any K.smy (uh HLo).wants hl (by omega)).mono ?_
 rintro e w2 ⟨v2, rfl, hu, hb⟩
 replace K := K.next hb
 clear hb c0 c1 c2 c3 c4 c5
 generalize openTo m m.desks.length = us at *
 obtain ⟨ua, uc, rfl⟩ := RecAt.shape hu
 have H0 := hide hu
 clear hu
 go_wp2_with fail
 go_loopw [11] (fun i wr => ∃ j : Nat, j ≤ us.length ∧ i = .int .i64 j ∧ (∀ i, i < j → (fun x : BenchV => muchB x.2.1 x.2.2) (recAt us i) = false) ∧ Bx w wr w.heap.size a0 p0 a1 p1 a2 p2 a3 p3 a4 p4 m ∧ Below w2.heap.size w2 wr) (fun i _ => us.length - (intOf i).toNat)
 case atStart => exact ⟨0, Nat.zero_le _, rfl, fun i hi => by omega, K, Below.refl _ _⟩
 case round =>
  obtain ⟨j, hj, rfl, hno, hK, hb⟩ := hrel
  clear K
  have K := hK
  have HU := hide (RecAt.later (uh H0) hb)
  have BB := hide hb
  have Hno := hide hno
  clear hb hK hno
  by_cases hlt : j < us.length
  ·have hlt1 : (j : Int) < (us.length : Int) := by omega
   obtain ⟨pq, hpq⟩ : ∃ q, (fun x : BenchV => muchB x.2.1 x.2.2) (recAt us j) = q := ⟨_, rfl⟩
   have HY := hide (fun hh : pq = true => any_yes hlt (p := (fun x : BenchV => muchB x.2.1 x.2.2)) (hpq.trans hh))
   have HX : Hid (pq = false → ∀ i, i < j + 1 → (fun x : BenchV => muchB x.2.1 x.2.2) (recAt us i) = false) := hide (fun hh i hi => by
    by_cases e : i = j
    ·rw [e, hpq, hh]
    ·exact uh Hno i (by omega))
   have Hpq := hide hpq
   clear hpq
   obtain ⟨g, rfl, hgl, hgw, hcl, _⟩ := RecAt.view encBench_len (by omega) (uh HU) rfl (by omega)
   have z0 := bench_cell hcl hlt
   clear hcl
   generalize hx : recAt us j = x at *
   clear hx
   obtain ⟨bx, ux, fx⟩ := x
   simp only at z0
   go_upto_region 6 with fail
   go_wp2_with fail
   refine (Calls.bool_of (hasTooMuch_any _ _ _ _) (uh Hpq)).mono ?_
   rintro e w3 ⟨rfl, hb⟩
   replace K := K.next hb
   replace BB := bt BB hb
   clear hb z0
   cases pq
   ·go_wp2_with fail
    go_roundw
    case rel => exact ⟨j + 1, by omega, by go_num, uh HX (by trivial), K, uh BB⟩
    case measure => simp [intOf]; omega
   ·obtain rfl : q = true := (uh Hq2).symm.trans (uh HY (by trivial))
    go_wp2_with fail
    go_ret
    exact ⟨rfl, K.bb⟩
  ·obtain rfl : j = us.length := by omega
   obtain rfl : q = false := (uh Hq2).symm.trans (any_no (uh Hno))
   go_wp2_with fail
   go_ret
   exact ⟨rfl, K.bb⟩
attribute [local go_sem] m_place m_takes
theorem fit_next {wn : Int} {us : List BenchV} {j : Nat} (hj : j < us.length) (h : takesB wn (recAt us j) = true) : ((us.take (j + 1)).filter (takesB wn)).map (·.1) = ((us.take j).filter (takesB wn)).map (·.1) ++ [(recAt us j).1] := by rw [filter_yes hj h, List.map_append]; rfl
theorem fit_same {wn : Int} {us : List BenchV} {j : Nat} (hj : j < us.length) (h : takesB wn (recAt us j) = false) : ((us.take (j + 1)).filter (takesB wn)).map (·.1) = ((us.take j).filter (takesB wn)).map (·.1) := by rw [filter_no hj h]
theorem implFitting_any {w : World} {v0 v1 v2 v3 v4 : Value} {m : SmyV} {who : Int} {q : List Int} (hq : fittingOfV m who = q) (h : Smy w v0 v1 v2 v3 v4 m) : Calls Tryz.prog 169 #[.agg #[v0, v1, v2, v3, v4, .int .i64 m.now], .int .i64 who] w fun e w' => ∃ v', e = .returned v' ∧ NumsAt w.heap.size w' v' q ∧ Below w.heap.size w w' := by
 rw [← for_fit] at hq
 have hfl := for_len m who
 obtain ⟨wn, hwn⟩ : ∃ x, wantOfV m who = x := ⟨_, rfl⟩
 rw [hwn] at hq
 have Hwn := hide hwn
 have Hq := hide hq
 clear hwn hq
 have Hs := hide h
 obtain ⟨a0, p0, a1, p1, a2, p2, a3, p3, a4, p4, rfl, rfl, rfl, rfl, rfl, K⟩ := Bx.new h
 clear h
 go_enter Tryz.func169, Tryz.ntmps169
 go_wp2_with fail
 generalize w.alloc (.cells #[.slice a0 m.rooms.length p0, .slice a1 m.guilds.length p1, .slice a2 m.smiths.length p2, .slice a3 m.desks.length p3, .slice a4 m.paces.length p4, .int .i64 m.now] 32) = W at *
 refine (implWantOf_any (uh Hwn) K.smy).mono ?_
 rintro e w1 ⟨rfl, hb⟩
 replace K := K.next hb
 clear hb Hwn
 obtain ⟨c0, c1, c2, c3, c4, c5⟩ := K.cells
 have hsz := K.blk.lt
 go_wp2_with fail
 clear c0 c1 c2 c3 c4 c5
 have HL : Hid (NumsAt (w.heap.size + 1) (w1.alloc (.cells #[] 2)) (.slice (some ⟨w1.heap.size, 0, none⟩) 0 0) []) := hide (recs_empty rfl (by omega))
 replace K := K.alloc (.cells #[] 2)
 generalize w1.alloc (.cells #[] 2) = W1 at *
 generalize w1.heap.size = lb at *
 refine (benchesFor_any (who := who) K.smy).mono ?_
 rintro e w2 ⟨v2, rfl, hu, hb⟩
 have hsp : ∀ i, v2.ownBlock = some i → (Value.slice (some ⟨lb, 0, none⟩) 0 0).ownBlock ≠ some i := fun i e e2 => by have := (RecAt.lt hu e).1; have := (RecAt.lt (uh HL) e2).2; omega
 have hu2 : BenchesAt W1.heap.size w2 v2 (forV m who) := hu
 replace K := K.next hb
 replace HL := hide (RecAt.later (uh HL) hb)
 clear hb hu
 generalize forV m who = us at *
 obtain ⟨ua, uc, rfl⟩ := RecAt.shape hu2
 have HU := hide hu2
 have Hsp := hide hsp
 clear hu2 hsp
 go_wp2_with fail
 go_loopw [6, 17] (fun l i wr => ∃ j : Nat, j ≤ us.length ∧ i = .int .i64 j ∧ NumsAt (w.heap.size + 1) wr l (((us.take j).filter (takesB wn)).map (·.1)) ∧ BenchesAt W1.heap.size wr (.slice ua us.length uc) us ∧ (∀ i, (Value.slice ua us.length uc).ownBlock = some i → l.ownBlock ≠ some i) ∧ Bx w wr w.heap.size a0 p0 a1 p1 a2 p2 a3 p3 a4 p4 m) (fun _ i _ => us.length - (intOf i).toNat)
 case atStart => exact ⟨0, Nat.zero_le _, rfl, uh HL, uh HU, uh Hsp, K⟩
 case round =>
  obtain ⟨j, hj, rfl, hln, hun, hsp, hK⟩ := hrel
  clear K HL HU Hsp
  have K := hK
  clear hK
  obtain ⟨la, lc, rfl⟩ := RecAt.shape hln
  have HL := hide hln
  have HU := hide hun
  have Hsp := hide hsp
  have hgl9 : (((us.take j).filter (takesB wn)).map (·.1)).length ≤ 8 := by have e1 := List.length_filter_le (takesB wn) (us.take j); have e2 : (us.take j).length ≤ us.length := (by simp; omega); simp only [List.length_map]; omega
  clear hln hun hsp
  by_cases hlt : j < us.length
  ·have hlt1 : (j : Int) < (us.length : Int) := by omega
   have HY := hide (fun hh => fit_next (wn := wn) hlt hh)
   have HN := hide (fun hh => fit_same (wn := wn) hlt hh)
   obtain ⟨tq, htq⟩ : ∃ q, takesB wn (recAt us j) = q := ⟨_, rfl⟩
   rw [htq] at HY HN
   have Htq := hide htq
   clear htq
   generalize ((us.take j).filter (takesB wn)).map (·.1) = ls at *
   obtain ⟨g, rfl, hgl, hgw, hcl, _⟩ := RecAt.view encBench_len (by omega) (uh HU) rfl (by omega)
   have z0 := bench_cell hcl hlt
   clear hcl
   generalize hx : recAt us j = x at *
   clear hx
   obtain ⟨bx, ux, fx⟩ := x
   simp only at z0
   go_upto_region 6 with fail
   go_wp2_with fail
   refine (Calls.bool_of (takes_any wn bx ux fx _) (uh Htq)).mono ?_
   rintro e w3 ⟨rfl, hb⟩
   replace K := K.next hb
   replace HL := hide (RecAt.later (uh HL) hb)
   replace HU := hide (RecAt.later (uh HU) hb)
   clear hb z0
   cases tq
   ·go_wp2_with fail
    go_roundw
    case rel => exact ⟨j + 1, by omega, by go_num, by rw [uh HN (by trivial)]; exact uh HL, uh HU, uh Hsp, K⟩
    case measure => simp [intOf]; omega
   ·go_wp2_with fail
    refine (place_any _ _ _ _).mono ?_
    rintro e w4 ⟨rfl, hb⟩
    replace K := K.next hb
    replace HL := hide (RecAt.later (uh HL) hb)
    replace HU := hide (RecAt.later (uh HU) hb)
    clear hb
    have hsx := K.blk.lt
    go_wp2_with (at_builtin; refine wpList_append_recs tyN rfl (.tmp 24) (.tmp 27) 30 Tryz.underlying30 rfl (w.heap.size + 1) _ _ ls [bx] rfl rfl (RecAt.later (uh HL) ((Below.refl _ _).alloc (Nat.le_refl _) _)) (recs_one bx rfl (Nat.le_refl _) (by omega)) (by simp; omega) (by simp; omega) ?_; intro u9 w9 hp9 hg9 hat9; have HP9 := hide hp9; have HG9 := hide hg9; have HA9 := hide hat9; clear hp9 hg9 hat9)
    have hgo : ∀ i, (Value.slice la ls.length lc).ownBlock = some i → w.heap.size ≤ i ∧ i ≠ w.heap.size := fun i e => by have := (RecAt.lt (uh HL) e).1; omega
    replace K := (K.alloc _).grown (uh Hs) (uh HG9) hgo
    have hul := fun i e => (RecAt.lt (uh HU) (i := i) e).2
    have hsp9 : ∀ i, (Value.slice (some ⟨g, 0, none⟩) us.length uc).ownBlock = some i → u9.ownBlock ≠ some i := by
     intro i e e2
     rcases uh HA9 with h9 | h9
     ·rw [h9] at e2; exact uh Hsp i e e2
     ·rw [h9] at e2
      have := hul i e
      simp at e2
      omega
    replace HU := hide (RecAt.grown (RecAt.later (uh HU) ((Below.refl _ _).alloc (Nat.le_refl _) _)) (uh HG9) (uh Hsp))
    go_wp2_with fail
    go_roundw
    case rel => exact ⟨j + 1, by omega, by go_num, by rw [uh HY (by trivial)]; exact uh HP9, uh HU, hsp9, K⟩
    case measure => simp [intOf]; omega
  ·obtain rfl : j = us.length := by omega
   have e9 : ((us.take us.length).filter (takesB wn)).map (·.1) = q := by rw [List.take_length]; exact uh Hq
   have E9 := hide e9
   clear e9
   go_wp2_with fail
   go_ret
   exact ⟨_, rfl, by rw [← uh E9]; exact RecAt.mono (uh HL) (Nat.le_succ _), K.bb⟩
theorem implChosen_any {w : World} {v0 v1 v2 v3 v4 : Value} {m : SmyV} {who q : Int} (hq : chosenOfV m who = q) (h : Smy w v0 v1 v2 v3 v4 m) : Calls Tryz.prog 104 #[.agg #[v0, v1, v2, v3, v4, .int .i64 m.now], .int .i64 who] w fun e w' => e = .returned (.int .i64 q) ∧ Below w.heap.size w w' := by
 rw [chosen_is] at hq
 have Hq := hide hq
 clear hq
 obtain ⟨fs, hfs⟩ : ∃ q, fittingOfV m who = q := ⟨_, rfl⟩
 have Hfs := hide hfs
 have hfl : fs.length ≤ 1000 := by rw [← hfs]; exact fit_few m who
 rw [hfs] at Hq
 obtain ⟨cr, hcr⟩ : ∃ q, crowdedV m = q := ⟨_, rfl⟩
 have Hcr := hide hcr
 rw [hcr] at Hq
 clear hfs hcr
 have hul := for_len m who
 obtain ⟨a0, p0, a1, p1, a2, p2, a3, p3, a4, p4, rfl, rfl, rfl, rfl, rfl, K⟩ := Bx.new h
 clear h
 go_enter Tryz.func104, Tryz.ntmps104
 go_wp2_with fail
 generalize w.alloc (.cells #[.slice a0 m.rooms.length p0, .slice a1 m.guilds.length p1, .slice a2 m.smiths.length p2, .slice a3 m.desks.length p3, .slice a4 m.paces.length p4, .int .i64 m.now] 32) = W at *
 refine (implFitting_any (uh Hfs) K.smy).mono ?_
 rintro e w1 ⟨v1, rfl, hn, hb⟩
 replace K := K.next hb
 clear hb
 obtain ⟨na, nc, rfl⟩ := RecAt.shape hn
 have HN := hide hn
 clear hn
 obtain ⟨c0, c1, c2, c3, c4, c5⟩ := K.cells
 go_wp2_with fail
 refine (implCrowded_any (uh Hcr) K.smy).mono ?_
 rintro e w2 ⟨rfl, hb⟩
 replace K := K.next hb
 replace HN := hide (RecAt.later (uh HN) hb)
 clear hb c0 c1 c2 c3 c4 c5 Hcr
 obtain ⟨c0, c1, c2, c3, c4, c5⟩ := K.cells
 by_cases hcond : (cr || decide (fs.length = 0)) = true
 ·rw [hcond, if_pos rfl] at Hq
  obtain rfl := (uh Hq).symm
  have hrun : cr = true ∨ (cr = false ∧ fs.length = 0) := by
   cases cr
   ·right; exact ⟨rfl, by simpa using hcond⟩
   ·exact .inl rfl
  clear hcond Hq
  rcases hrun with rfl | ⟨rfl, h0⟩
  all_goals
   try (obtain rfl := List.eq_nil_of_length_eq_zero h0; clear h0)
   go_wp2_with fail
   refine (benchesFor_any (who := who) K.smy).mono ?_
   rintro e w3 ⟨v3, rfl, hu, hb⟩
   replace K := K.next hb
   have HU := hide hu
   clear hb hu c0 c1 c2 c3 c4 c5
   go_wp2_with fail
   refine (roomiestOf_any (uh HU) (by omega)).mono ?_
   rintro e w4 ⟨rfl, hb⟩
   replace K := K.next hb
   clear hb
   go_wp2_with fail
   go_ret
   exact ⟨rfl, K.bb⟩
 ·obtain rfl : cr = false := (by cases cr <;> first | rfl | simp at hcond)
  have h0 : ¬ fs.length = 0 := by simpa using hcond
  rw [Bool.false_or, decide_eq_false h0, if_neg (by simp)] at Hq
  obtain rfl := (uh Hq).symm
  clear hcond Hq
  obtain ⟨k, rfl, hk⟩ := fit_who (uh Hfs) h0
  have HO : Hid (∀ x ∈ fs, coalWithOfV m (k : Int) x = coalWithV m (k : Int) x) := hide (fun x hx => fit_open (by rw [uh Hfs]; exact hx))
  have h0i : ¬ ((fs.length : Int) = 0) := by omega
  have h0b : ((fs.length : Int) == 0) = false := beq_eq_false_iff_ne.mpr h0i
  clear h0
  go_wp2_with fail
  refine (cheapestFor_any K.smy hk (uh HN) hfl (uh HO)).mono ?_
  rintro e w3 ⟨rfl, hb⟩
  replace K := K.next hb
  clear hb c0 c1 c2 c3 c4 c5
  go_wp2_with fail
  go_ret
  exact ⟨rfl, K.bb⟩
end Go.Proofs.YthbbahagpmdooaaGreatDoor
namespace Go.Proofs.YthbbahagpmdooaaGreatDoor
open Go.ChangeShapes Go.WideShapes Go.ChangeAt Go.RowKit Go.Sort
set_option linter.unusedVariables false
structure Two (p q : Option Nat) (w w' : World) : Prop where
 os : w'.os = w.os
 tape : w'.tape = w.tape
 output : w'.output = w.output
 size : w.heap.size ≤ w'.heap.size
 block : ∀ k, k < w.heap.size → p ≠ some k → q ≠ some k → w'.heap[k]? = w.heap[k]?
section
variable {p q : Option Nat} {w w' w'' : World}
theorem Two.refl (p q : Option Nat) (w : World) : Two p q w w := ⟨rfl, rfl, rfl, Nat.le_refl _, fun _ _ _ _ => rfl⟩
theorem Two.trans (h : Two p q w w') (k : Two p q w' w'') : Two p q w w'' :=
 ⟨k.os.trans h.os, k.tape.trans h.tape, k.output.trans h.output, Nat.le_trans h.size k.size, fun i hi hp hq => (k.block i (Nat.lt_of_lt_of_le hi h.size) hp hq).trans (h.block i hi hp hq)⟩
theorem Two.of_below (h : Below w.heap.size w w') : Two p q w w' := ⟨h.os, h.tape, h.output, h.size, fun i hi _ _ => h.block i hi⟩
theorem Two.of_set (w : World) {g : Nat} (hg : p = some g ∨ q = some g) (o : Nat) (u : Value) : Two p q w (w.setCell ⟨g, o, none⟩ u) :=
 ⟨rfl, rfl, rfl, by simp, fun i hi hp hq => heap_setCell_other w _ i u (fun e => by
  have e : i = g := e
  subst e
  rcases hg with h | h
  ·exact hp h
  ·exact hq h)⟩
theorem Two.below {B : Nat} (h : Two p q w w') (hB : B ≤ w.heap.size) (hp : ∀ k, p = some k → B ≤ k) (hq : ∀ k, q = some k → B ≤ k) : Below B w w' :=
 ⟨h.os, h.tape, h.output, h.size, fun i hi => h.block i (Nat.lt_of_lt_of_le hi hB) (fun e => by have := hp i e; omega) (fun e => by have := hq i e; omega)⟩
theorem Blk.two {R : Nat} {t : TypeId} {cs : Array Value} (h : Blk w R t cs) (ht : Two p q w w') (hp : p ≠ some R) (hq : q ≠ some R) : Blk w' R t cs := h.same (ht.block R h.lt hp hq)
end
theorem OwnHall.same2 {n₀ : Nat} {w w' : World} {v : Value} {qs : List (RoomV × Value)} (h : OwnHall n₀ w v qs) (hs : ∀ k, (v.ownBlock = some k ∨ ∃ q ∈ qs, q.2.ownBlock = some k) → w'.heap[k]? = w.heap[k]?) : OwnHall n₀ w' v qs :=
 ⟨own_same h.row (fun k e => hs k (.inl e)), fun q hq => own_same (h.paces q hq) (fun k e => hs k (.inr ⟨q, hq, e⟩)), h.off, h.apart⟩
section
variable {n₀ n cap g : Nat} {w : World} {v0 v1 v2 v3 v4 : Value} {m : SmyV} {qs : List (RoomV × Value)}
theorem FullSmy.putS (hf : FullSmy n₀ w v0 v1 (.slice (some ⟨g, 0, none⟩) n cap) v3 v4 m qs) (hn : n = m.smiths.length) {j i : Nat} (hj : j < m.smiths.length) (hi : i < 11) (u : Value) (x : SmithV) (hx : encSmith x = (encSmith (recAt m.smiths j)).set i u) :
  FullSmy n₀ (w.setCell ⟨g, j * 11 + i, none⟩ u) v0 v1 (.slice (some ⟨g, 0, none⟩) n cap) v3 v4 { m with smiths := m.smiths.set j x } qs := by
 have hb : (Value.slice (some ⟨g, 0, none⟩) n cap).ownBlock = some g := rfl
 have hne : ∀ k, k ≠ g → (w.setCell ⟨g, j * 11 + i, none⟩ u).heap[k]? = w.heap[k]? := fun k hk => heap_setCell_other w _ k u hk
 refine ⟨hf.hall.same2 fun k e => hne k fun e' => ?_, hf.rooms, RecAt.same hf.guilds fun k e => hne k fun e' => ?_, (RecAt.put1 encSmith_len (by omega) hf.smiths hn hj hi u x hx).1, RecAt.same hf.desks fun k e => hne k fun e' => ?_, RecAt.same hf.paces fun k e => hne k fun e' => ?_, hf.h1, hf.h2, hf.h3, hf.h4, hf.a12, hf.a13, hf.a14, hf.a23, hf.a24, hf.a34⟩
 ·subst e'
  rcases e with e | ⟨q, hq, e⟩
  ·exact hf.h2.1 _ hb e
  ·exact hf.h2.2 q hq _ hb e
 ·subst e'; exact hf.a12 _ e hb
 ·subst e'; exact hf.a23 _ hb e
 ·subst e'; exact hf.a24 _ hb e
theorem FullSmy.putD (hf : FullSmy n₀ w v0 v1 v2 (.slice (some ⟨g, 0, none⟩) n cap) v4 m qs) (hn : n = m.desks.length) {j i : Nat} (hj : j < m.desks.length) (hi : i < 3) (u : Value) (x : DeskV) (hx : encDesk x = (encDesk (recAt m.desks j)).set i u) :
  FullSmy n₀ (w.setCell ⟨g, j * 3 + i, none⟩ u) v0 v1 v2 (.slice (some ⟨g, 0, none⟩) n cap) v4 { m with desks := m.desks.set j x } qs := by
 have hb : (Value.slice (some ⟨g, 0, none⟩) n cap).ownBlock = some g := rfl
 have hne : ∀ k, k ≠ g → (w.setCell ⟨g, j * 3 + i, none⟩ u).heap[k]? = w.heap[k]? := fun k hk => heap_setCell_other w _ k u hk
 refine ⟨hf.hall.same2 fun k e => hne k fun e' => ?_, hf.rooms, RecAt.same hf.guilds fun k e => hne k fun e' => ?_, RecAt.same hf.smiths fun k e => hne k fun e' => ?_, (RecAt.put1 encDesk_len (by omega) hf.desks hn hj hi u x hx).1, RecAt.same hf.paces fun k e => hne k fun e' => ?_, hf.h1, hf.h2, hf.h3, hf.h4, hf.a12, hf.a13, hf.a14, hf.a23, hf.a24, hf.a34⟩
 ·subst e'
  rcases e with e | ⟨q, hq, e⟩
  ·exact hf.h3.1 _ hb e
  ·exact hf.h3.2 q hq _ hb e
 ·subst e'; exact hf.a13 _ e hb
 ·subst e'; exact hf.a23 _ e hb
 ·subst e'; exact hf.a34 _ hb e
end
end Go.Proofs.YthbbahagpmdooaaGreatDoor
