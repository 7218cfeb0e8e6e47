/- Part 31 of what the proof rests on. No condition but those that a theorem names. -/
import Derived.Test.YtgdpaigcmoifbaaGreatXe28
import Derived.Test.YtgdpaigcmoifbaaGreatXe29
set_option maxHeartbeats 8000000
set_option maxRecDepth 100000
namespace Go.Proofs.YtgdpaigcmoifbaaGreat
open Go.ChangeShapes Go.WideShapes Go.ChangeAt Go.RowKit Go.Sort Go.Shelf Go.Proofs.Tryz
set_option linter.unusedVariables false
set_option linter.unusedSimpArgs false
set_option maxRecDepth 100000
attribute [local go_sem] m_place m_spare
theorem roomiestOf_any {w : World} {v : Value} {n0 : Nat} {us : List BenchV} (h : BenchesAt n0 w v us) (hl : us.length ≤ 1000) : cB 146 #[v] w (.int .i64 (roomL us).1) := by
 obtain ⟨ua, uc, rfl⟩ := RecAt.shape h
 have H0 := hide h
 clear h
 go_enter func146, ntmps146
 go_wp2_with fail
 go_loopw [3, 4, 9] (fun c t i wr => ∃ j : Nat, j ≤ us.length ∧ i = .int .i64 j ∧ c = .int .i64 (roomL (us.take j)).1 ∧ t = .int .i64 (roomL (us.take j)).2 ∧ Below w.heap.size w wr) (fun _ _ i _ => us.length - (intOf i).toNat)
 case atStart => exact ⟨0, alNzl _, rfl, rfl, rfl, alBrf _ _⟩
 case round =>
  obtain ⟨j, hj, rfl, rfl, rfl, hb⟩ := hrel
  have HU := hide (RecAt.later (uh H0) hb)
  have BB := hide hb
  clear hb
  by_cases hlt : j < us.length
  ·have hlt1 : (j : Int) < (us.length : Int) := by omega
   have HR := hide (room_next hlt)
   generalize hcm : roomL (us.take j) = cm at *
   clear hcm
   obtain ⟨ch, mo⟩ := cm
   obtain ⟨g, rfl, hgl, hgw, hcl, _⟩ := RecAt.view encBench_len (by omega) (uh HU) rfl (by omega)
   have z0 := bench_cell hcl hlt
   clear hcl
   generalize hx : recAt us j = x at *
   clear hx
   obtain ⟨bx, ux, fx⟩ := x
   simp only at z0
   unfold roomStep at HR
   simp only at HR ⊢
   by_cases h1 : ch = -1
   ·subst h1
    rw [if_pos (.inl rfl)] at HR
    go_upto_region 6 with fail
    go_wp2_with (first | (go_at_call 359; refine (place_any _ _ _ _).mono ?_; rintro e w1 ⟨rfl, hb⟩; replace BB := bt BB hb; clear hb) | (go_at_call 360; refine (spare_any _ _ _ _).mono ?_; rintro e w2 ⟨rfl, hb⟩; replace BB := bt BB hb; clear hb))
    go_roundw
    case rel => exact ⟨j + 1, by omega, by go_num, by rw [uh HR], by rw [uh HR], uh BB⟩
    case measure => exact ms
   ·have h1b : (ch == -1) = false := beq_eq_false_iff_ne.mpr h1
    obtain ⟨sp, hsp⟩ := alAx (spareV ux fx)
    have HSP := hide (fun X => Calls.int_of (spare_any bx ux fx X) hsp)
    rw [hsp] at HR
    clear hsp
    go_upto_region 5 with fail
    go_wp2_with fail
    refine ck (uh HSP _) fun w1 hb => ?_
    replace BB := bt BB hb
    clear hb
    by_cases h2 : mo < sp
    ·rw [if_pos (.inr h2)] at HR
     go_upto_region 6 with fail
     go_wp2_with (first | (go_at_call 359; refine (place_any _ _ _ _).mono ?_; rintro e w2 ⟨rfl, hb⟩; replace BB := bt BB hb; clear hb) | (go_at_call 360; refine (uh HSP _).mono ?_; rintro e w3 ⟨rfl, hb⟩; replace BB := bt BB hb; clear hb))
     go_roundw
     case rel => exact ⟨j + 1, by omega, by go_num, by rw [uh HR], by rw [uh HR], uh BB⟩
     case measure => exact ms
    ·rw [if_neg (not_or.2 ⟨h1, h2⟩)] at HR
     go_wp2_with fail
     go_roundw
     case rel => exact ⟨j + 1, by omega, by go_num, by rw [uh HR], by rw [uh HR], uh BB⟩
     case measure => exact ms
  ·obtain rfl : j = us.length := by omega
   rw [List.take_length]
   go_wp2_with fail
   go_ret
   exact ⟨rfl, uh BB⟩
theorem cheapestFor_any {w : World} {v0 v1 v2 v3 v4 : Value} {m : SmyV} {k n0 : Nat} {v : Value} {fs : List Int} (h : Smy w v0 v1 v2 v3 v4 m) (A : Asks m k) (hf : NumsAt n0 w v fs) (hl : fs.length ≤ 1000) : cB 147 #[.agg #[v0, v1, v2, v3, v4, .int .i64 m.now], .int .i64 (k : Int), v] w (.int .i64 (cheapL m (k : Int) fs).1) := by
 obtain ⟨ua, uc, rfl⟩ := RecAt.shape hf
 have HA := hide A
 have hk := A.hk
 clear A
 have H0 := hide (RecAt.later hf ((alBrf _ _).alloc (alNlr _) (.cells #[v0, v1, v2, v3, v4, .int .i64 m.now] 32)))
 clear hf
 obtain ⟨a0, p0, a1, p1, a2, p2, a3, p3, a4, p4, rfl, rfl, rfl, rfl, rfl, K⟩ := Bx.new h
 clear h
 go_enter func147, ntmps147
 go_wp2_with fail
 generalize w.alloc (.cells (S6 a0 p0 a1 p1 a2 p2 a3 p3 a4 p4 m) 32) = W at *
 go_loopw [7, 8, 14] (fun c t i wr => ∃ j : Nat, j ≤ fs.length ∧ i = .int .i64 j ∧ c = .int .i64 (cheapL m (k : Int) (fs.take j)).1 ∧ t = .int .i64 (cheapL m (k : Int) (fs.take j)).2 ∧ Bx w wr w.heap.size a0 p0 a1 p1 a2 p2 a3 p3 a4 p4 m ∧ Below W.heap.size W wr) (fun _ _ i _ => fs.length - (intOf i).toNat)
 case atStart => exact ⟨0, alNzl _, rfl, rfl, rfl, K, alBrf _ _⟩
 case round =>
  obtain ⟨j, hj, rfl, rfl, rfl, hK, hb⟩ := hrel
  clear K
  have K := hK
  have HU := hide (RecAt.later (uh H0) hb)
  have BB := hide hb
  clear hb hK
  by_cases hlt : j < fs.length
  ·have hlt1 : (j : Int) < (fs.length : Int) := by omega
   have HR := hide (cheap_next (m := m) (who := (k : Int)) hlt)
   obtain ⟨g, rfl, hgl, hgw, hcl, _⟩ := RecAt.view encNum_len (by omega) (uh HU) rfl (by omega)
   have z0 := hcl j hlt 0 _ rfl
   simp only [Nat.mul_one, Nat.add_zero] at z0
   clear hcl
   generalize hx : recAt fs j = bx at *
   clear hx
   generalize hcm : cheapL m (k : Int) (fs.take j) = cm at *
   clear hcm
   obtain ⟨ch, mo⟩ := cm
   unfold cheapStep at HR
   rw [alInc] at HR
   simp only at HR ⊢
   obtain ⟨cw, hcw⟩ := alAx (coalWithV m (k : Int) bx)
   rw [hcw] at HR
   have Hcw := hide hcw
   clear hcw
   obtain ⟨c0, c1, c2, c3, c4, c5⟩ := K.cells
   go_wp2_with fail
   refine ck (coalWith_k (uh Hcw) K.smy (uh HA).sane (uh HA).wants hk (uh HA).hs) fun w1 hb => ?_
   replace K := K.next hb
   replace BB := bt BB hb
   clear hb c0 c1 c2 c3 c4 c5 z0 HU Hcw
   by_cases h1 : ch = -1
   ·subst h1
    rw [if_pos (.inl rfl)] at HR
    go_wp2_with fail
    go_roundw
    case rel => exact ⟨j + 1, by omega, by go_num, by rw [uh HR], by rw [uh HR], K, uh BB⟩
    case measure => exact ms
   have h1b : (ch == -1) = false := beq_eq_false_iff_ne.mpr h1
   by_cases h2 : cw < mo
   ·rw [if_pos (.inr (.inl h2))] at HR
    go_wp2_with fail
    go_roundw
    case rel => exact ⟨j + 1, by omega, by go_num, by rw [uh HR], by rw [uh HR], K, uh BB⟩
    case measure => exact ms
   by_cases h3 : cw = mo
   ·have h3b : (cw == mo) = true := beq_iff_eq.mpr h3
    have hk1 : (k : Int) < (m.smiths.length : Int) := by omega
    obtain ⟨_, _, hse, _, _, r2⟩ := K.smy.smiths
    cases hse
    rcases r2 with e0 | ⟨sb, off, rfl, hbw, hcs⟩
    ·rw [e0] at hk; simp at hk
    obtain ⟨d0, d1, d2, d3, d4, d5, d6, d7, d8, d9, d10⟩ := smith_cells hcs hk
    have c2 := K.blk.cell (i := 2) (v := .slice (some ⟨sb, off, none⟩) m.smiths.length p2) rfl
    clear hcs d0 d2 d3 d4 d5 d6 d7 d8 d9 d10
    generalize (recAt m.smiths k).2.1 = own at *
    subst h3
    clear h3b
    by_cases h4 : bx = own
    ·have h4b : (bx == own) = true := beq_iff_eq.mpr h4
     rw [if_pos (.inr (.inr ⟨rfl, h4⟩))] at HR
     subst h4
     go_wp2_with fail
     go_roundw
     case rel => exact ⟨j + 1, by omega, by go_num, by rw [uh HR], by rw [uh HR], K, uh BB⟩
     case measure => exact ms
    ·have h4b : (bx == own) = false := beq_eq_false_iff_ne.mpr h4
     rw [if_neg (not_or.2 ⟨h1, not_or.2 ⟨h2, fun e => h4 e.2⟩⟩)] at HR
     go_wp2_with fail
     go_roundw
     case rel => exact ⟨j + 1, by omega, by go_num, by rw [uh HR], by rw [uh HR], K, uh BB⟩
     case measure => exact ms
   ·have h3b : (cw == mo) = false := beq_eq_false_iff_ne.mpr h3
    rw [if_neg (not_or.2 ⟨h1, not_or.2 ⟨h2, fun e => h3 e.1⟩⟩)] at HR
    go_wp2_with fail
    go_roundw
    case rel => exact ⟨j + 1, by omega, by go_num, by rw [uh HR], by rw [uh HR], K, uh BB⟩
    case measure => exact ms
  ·obtain rfl : j = fs.length := by omega
   rw [List.take_length]
   go_wp2_with fail
   go_ret
   exact ⟨rfl, K.bb⟩
attribute [local go_sem] m_hasTooMuch
theorem isCrowded_k {w : World} {v0 v1 v2 v3 v4 : Value} {m : SmyV} {q : Bool} (hq : crowdB m = q) (h : Smy w v0 v1 v2 v3 v4 m) (hS : Sane m) (hT : Wants m) : cB 84 #[.agg #[v0, v1, v2, v3, v4, .int .i64 m.now]] w (.bool q) := by
 have Hq2 : Hid ((openTo m m.desks.length).any (fun x => muchB x.2.1 x.2.2) = q) := hide ((crowd_any m).trans hq)
 clear hq
 have hl := hS.few
 have h8 := hS.eight
 have hfl := openTo_len m m.desks.length
 have HT := hide hT
 clear hT hS
 obtain ⟨a0, p0, a1, p1, a2, p2, a3, p3, a4, p4, rfl, rfl, rfl, rfl, rfl, K⟩ := Bx.new h
 clear h
 go_enter func84, ntmps84
 go_wp2_with fail
 generalize w.alloc (.cells (S6 a0 p0 a1 p1 a2 p2 a3 p3 a4 p4 m) 32) = W at *
 refine (usableIn_any K.smy (uh HT) hl (by omega)).mono ?_
 rintro e w2 ⟨v2, rfl, hu, hb⟩
 replace K := K.next hb
 clear hb
 generalize openTo m m.desks.length = us at *
 obtain ⟨ua, uc, rfl⟩ := RecAt.shape hu
 have H0 := hide hu
 clear hu
 go_wp2_with fail
 go_loopw [8] (fun i wr => ∃ j : Nat, j ≤ us.length ∧ i = .int .i64 j ∧ (∀ i, i < j → (fun x : BenchV => muchB x.2.1 x.2.2) (recAt us i) = false) ∧ Bx w wr w.heap.size a0 p0 a1 p1 a2 p2 a3 p3 a4 p4 m ∧ Below w2.heap.size w2 wr) (fun i _ => us.length - (intOf i).toNat)
 case atStart => exact ⟨0, alNzl _, rfl, fun i hi => by omega, K, alBrf _ _⟩
 case round =>
  obtain ⟨j, hj, rfl, hno, hK, hb⟩ := hrel
  clear K
  have K := hK
  have HU := hide (RecAt.later (uh H0) hb)
  have BB := hide hb
  have Hno := hide hno
  clear hb hK hno
  by_cases hlt : j < us.length
  ·have hlt1 : (j : Int) < (us.length : Int) := by omega
   obtain ⟨pq, hpq⟩ := alAx ((fun x : BenchV => muchB x.2.1 x.2.2) (recAt us j))
   have HY := hide (fun hh : pq = true => any_yes hlt (p := (fun x : BenchV => muchB x.2.1 x.2.2)) (hpq.trans hh))
   have HX : Hid (pq = false → ∀ i, i < j + 1 → (fun x : BenchV => muchB x.2.1 x.2.2) (recAt us i) = false) := hide (fun hh i hi => by
    by_cases e : i = j
    ·rw [e, hpq, hh]
    ·exact uh Hno i (by omega))
   have Hpq := hide hpq
   clear hpq
   obtain ⟨g, rfl, hgl, hgw, hcl, _⟩ := RecAt.view encBench_len (by omega) (uh HU) rfl (by omega)
   have z0 := bench_cell hcl hlt
   clear hcl
   generalize hx : recAt us j = x at *
   clear hx
   obtain ⟨bx, ux, fx⟩ := x
   simp only at z0
   go_upto_region 4 with fail
   go_wp2_with fail
   refine ck (Calls.bool_of (hasTooMuch_any _ _ _ _) (uh Hpq)) fun w3 hb => ?_
   replace K := K.next hb
   replace BB := bt BB hb
   clear hb z0
   cases pq
   ·go_wp2_with fail
    go_roundw
    case rel => exact ⟨j + 1, by omega, by go_num, uh HX (by trivial), K, uh BB⟩
    case measure => exact ms
   ·obtain rfl : q = true := (uh Hq2).symm.trans (uh HY (by trivial))
    go_wp2_with fail
    go_ret
    exact ⟨rfl, K.bb⟩
  ·obtain rfl : j = us.length := by omega
   obtain rfl : q = false := (uh Hq2).symm.trans (any_no (uh Hno))
   go_wp2_with fail
   go_ret
   exact ⟨rfl, K.bb⟩
attribute [local go_sem] m_place m_takes
theorem fit_next {wn : Int} {us : List BenchV} {j : Nat} (hj : j < us.length) (h : takesB wn (recAt us j) = true) : ((us.take (j + 1)).filter (takesB wn)).map (·.1) = ((us.take j).filter (takesB wn)).map (·.1) ++ [(recAt us j).1] := by rw [filter_yes hj h, List.map_append]; rfl
theorem fit_same {wn : Int} {us : List BenchV} {j : Nat} (hj : j < us.length) (h : takesB wn (recAt us j) = false) : ((us.take (j + 1)).filter (takesB wn)).map (·.1) = ((us.take j).filter (takesB wn)).map (·.1) := by rw [filter_no hj h]
theorem fittingFor_k {w : World} {v0 v1 v2 v3 v4 : Value} {m : SmyV} {k : Nat} {q : List Int} (hq : fittingL m (k : Int) = q) (h : Smy w v0 v1 v2 v3 v4 m) (A : Asks m k) : Calls prog 72 #[.agg #[v0, v1, v2, v3, v4, .int .i64 m.now], .int .i64 (k : Int)] w fun e w' => ∃ v', e = .returned v' ∧ NumsAt w.heap.size w' v' q ∧ Below w.heap.size w w' := by
 have hq : ((mayTo m (k : Int) m.desks.length).filter (takesB (wantV m (k : Int)))).map (·.1) = q := (may_fit m (k : Int) m.desks.length).trans hq
 have hfl := A.few
 have HA := hide A
 have HW9 := hide (fun (X : World) (hX : Smy X v0 v1 v2 v3 v4 m) => wantOf_w hX A.wants A.hk A.hs)
 clear A
 obtain ⟨wn, hwn⟩ := alAx (wantV m (k : Int))
 rw [hwn] at hq HW9
 have Hq := hide hq
 clear hwn hq
 have Hs := hide h
 obtain ⟨a0, p0, a1, p1, a2, p2, a3, p3, a4, p4, rfl, rfl, rfl, rfl, rfl, K⟩ := Bx.new h
 clear h
 go_enter func72, ntmps72
 go_wp2_with fail
 generalize w.alloc (.cells (S6 a0 p0 a1 p1 a2 p2 a3 p3 a4 p4 m) 32) = W at *
 refine ck (uh HW9 _ K.smy) fun w1 hb => ?_
 replace K := K.next hb
 clear hb HW9
 obtain ⟨c0, c1, c2, c3, c4, c5⟩ := K.cells
 have hsz := K.blk.lt
 go_wp2_with fail
 clear c0 c1 c2 c3 c4 c5
 have HL : Hid (NumsAt (w.heap.size + 1) (w1.alloc (.cells #[] 2)) (.slice (some ⟨w1.heap.size, 0, none⟩) 0 0) []) := hide (recs_empty rfl (by omega))
 replace K := K.alloc (.cells #[] 2)
 generalize w1.alloc (.cells #[] 2) = W1 at *
 generalize w1.heap.size = lb at *
 refine (benchesFor_any K.smy (uh HA)).mono ?_
 rintro e w2 ⟨v2, rfl, hu, hb⟩
 have hsp : ∀ i, v2.ownBlock = some i → (Value.slice (some ⟨lb, 0, none⟩) 0 0).ownBlock ≠ some i := fun i e e2 => by have := (RecAt.lt hu e).1; have := (RecAt.lt (uh HL) e2).2; omega
 have hu2 : BenchesAt W1.heap.size w2 v2 (mayTo m (k : Int) m.desks.length) := hu
 replace K := K.next hb
 replace HL := hide (RecAt.later (uh HL) hb)
 clear hb hu
 generalize mayTo m (k : Int) m.desks.length = us at *
 obtain ⟨ua, uc, rfl⟩ := RecAt.shape hu2
 have HU := hide hu2
 have Hsp := hide hsp
 clear hu2 hsp
 go_wp2_with fail
 go_loopw [6, 17] (fun l i wr => ∃ j : Nat, j ≤ us.length ∧ i = .int .i64 j ∧ NumsAt (w.heap.size + 1) wr l (((us.take j).filter (takesB wn)).map (·.1)) ∧ BenchesAt W1.heap.size wr (.slice ua us.length uc) us ∧ (∀ i, (Value.slice ua us.length uc).ownBlock = some i → l.ownBlock ≠ some i) ∧ Bx w wr w.heap.size a0 p0 a1 p1 a2 p2 a3 p3 a4 p4 m) (fun _ i _ => us.length - (intOf i).toNat)
 case atStart => exact ⟨0, alNzl _, rfl, uh HL, uh HU, uh Hsp, K⟩
 case round =>
  obtain ⟨j, hj, rfl, hln, hun, hsp, hK⟩ := hrel
  clear K HL HU Hsp
  have K := hK
  clear hK
  obtain ⟨la, lc, rfl⟩ := RecAt.shape hln
  have HL := hide hln
  have HU := hide hun
  have Hsp := hide hsp
  have hgl9 : (((us.take j).filter (takesB wn)).map (·.1)).length ≤ 8 := by have e1 := List.length_filter_le (takesB wn) (us.take j); have e2 : (us.take j).length ≤ us.length := (by simp; omega); simp only [List.length_map]; omega
  clear hln hun hsp
  by_cases hlt : j < us.length
  ·have hlt1 : (j : Int) < (us.length : Int) := by omega
   have HY := hide (fun hh => fit_next (wn := wn) hlt hh)
   have HN := hide (fun hh => fit_same (wn := wn) hlt hh)
   obtain ⟨tq, htq⟩ := alAx (takesB wn (recAt us j))
   rw [htq] at HY HN
   have Htq := hide htq
   clear htq
   generalize ((us.take j).filter (takesB wn)).map (·.1) = ls at *
   obtain ⟨g, rfl, hgl, hgw, hcl, _⟩ := RecAt.view encBench_len (by omega) (uh HU) rfl (by omega)
   have z0 := bench_cell hcl hlt
   clear hcl
   generalize hx : recAt us j = x at *
   clear hx
   obtain ⟨bx, ux, fx⟩ := x
   simp only at z0
   go_upto_region 6 with fail
   go_wp2_with fail
   refine ck (Calls.bool_of (takes_any wn bx ux fx _) (uh Htq)) fun w3 hb => ?_
   replace K := K.next hb
   replace HL := hide (RecAt.later (uh HL) hb)
   replace HU := hide (RecAt.later (uh HU) hb)
   clear hb z0
   cases tq
   ·go_wp2_with fail
    go_roundw
    case rel => exact ⟨j + 1, by omega, by go_num, by rw [uh HN (by trivial)]; exact uh HL, uh HU, uh Hsp, K⟩
    case measure => exact ms
   ·go_wp2_with fail
    refine ck (place_any _ _ _ _) fun w4 hb => ?_
    replace K := K.next hb
    replace HL := hide (RecAt.later (uh HL) hb)
    replace HU := hide (RecAt.later (uh HU) hb)
    clear hb
    have hsx := K.blk.lt
    go_wp2_with (at_builtin; refine wpList_append_recs tyN rfl (.tmp 24) (.tmp 27) 30 underlying30 rfl (w.heap.size + 1) _ _ ls [bx] rfl rfl (RecAt.later (uh HL) ((ba _ _))) (recs_one bx rfl (alNlr _) (by omega)) (by simp; omega) (by simp; omega) ?_; intro u9 w9 hp9 hg9 hat9; have HP9 := hide hp9; have HG9 := hide hg9; have HA9 := hide hat9; clear hp9 hg9 hat9)
    have hgo : ∀ i, (Value.slice la ls.length lc).ownBlock = some i → w.heap.size ≤ i ∧ i ≠ w.heap.size := fun i e => by have := (RecAt.lt (uh HL) e).1; omega
    replace K := (K.alloc _).grown (uh Hs) (uh HG9) hgo
    have hul := fun i e => (RecAt.lt (uh HU) (i := i) e).2
    have hsp9 : ∀ i, (Value.slice (some ⟨g, 0, none⟩) us.length uc).ownBlock = some i → u9.ownBlock ≠ some i := by
     intro i e e2
     rcases uh HA9 with h9 | h9
     ·rw [h9] at e2; exact uh Hsp i e e2
     ·rw [h9] at e2
      have := hul i e
      simp at e2
      omega
    replace HU := hide (RecAt.grown (RecAt.later (uh HU) ((ba _ _))) (uh HG9) (uh Hsp))
    go_wp2_with fail
    go_roundw
    case rel => exact ⟨j + 1, by omega, by go_num, by rw [uh HY (by trivial)]; exact uh HP9, uh HU, hsp9, K⟩
    case measure => exact ms
  ·obtain rfl : j = us.length := by omega
   have e9 : ((us.take us.length).filter (takesB wn)).map (·.1) = q := by rw [List.take_length]; exact uh Hq
   have E9 := hide e9
   clear e9
   go_wp2_with fail
   go_ret
   exact ⟨_, rfl, by rw [← uh E9]; exact RecAt.mono (uh HL) (Nat.le_succ _), K.bb⟩
theorem chosenFor_k {w : World} {v0 v1 v2 v3 v4 : Value} {m : SmyV} {k : Nat} {q : Int} (hq : chosenV m (k : Int) = q) (h : Smy w v0 v1 v2 v3 v4 m) (A : Asks m k) : cB 81 #[.agg #[v0, v1, v2, v3, v4, .int .i64 m.now], .int .i64 (k : Int)] w (.int .i64 q) := by
 rw [chosen_isS] at hq
 have Hq := hide hq
 clear hq
 obtain ⟨fs, hfs⟩ := alAx (fittingL m (k : Int))
 have Hfs := hide hfs
 have hfl : fs.length ≤ 1000 := by
  rw [← hfs, show fittingL m (k : Int) = ((mayTo m (k : Int) m.desks.length).filter (takesB (wantV m (k : Int)))).map (·.1) from (may_fit m (k : Int) m.desks.length).symm, List.length_map]
  have := List.length_filter_le (takesB (wantV m (k : Int))) (mayTo m (k : Int) m.desks.length)
  have := A.few
  omega
 rw [hfs] at Hq
 obtain ⟨cr, hcr⟩ := alAx (crowdB m)
 have Hcr := hide hcr
 rw [hcr] at Hq
 clear hfs hcr
 have hul := A.few
 have HA := hide A
 clear A
 obtain ⟨a0, p0, a1, p1, a2, p2, a3, p3, a4, p4, rfl, rfl, rfl, rfl, rfl, K⟩ := Bx.new h
 clear h
 go_enter func81, ntmps81
 go_wp2_with fail
 generalize w.alloc (.cells (S6 a0 p0 a1 p1 a2 p2 a3 p3 a4 p4 m) 32) = W at *
 refine (fittingFor_k (uh Hfs) K.smy (uh HA)).mono ?_
 rintro e w1 ⟨v1, rfl, hn, hb⟩
 replace K := K.next hb
 clear hb
 obtain ⟨na, nc, rfl⟩ := RecAt.shape hn
 have HN := hide hn
 clear hn
 obtain ⟨c0, c1, c2, c3, c4, c5⟩ := K.cells
 go_wp2_with fail
 refine ck (isCrowded_k (uh Hcr) K.smy (uh HA).sane (uh HA).wants) fun w2 hb => ?_
 replace K := K.next hb
 replace HN := hide (RecAt.later (uh HN) hb)
 clear hb c0 c1 c2 c3 c4 c5 Hcr
 obtain ⟨c0, c1, c2, c3, c4, c5⟩ := K.cells
 by_cases hcond : (cr || decide (fs.length = 0)) = true
 ·rw [hcond, if_pos rfl] at Hq
  obtain rfl := (uh Hq).symm
  have hrun : cr = true ∨ (cr = false ∧ fs.length = 0) := by
   cases cr
   ·right; exact ⟨rfl, by simpa using hcond⟩
   ·exact .inl rfl
  clear hcond Hq
  rcases hrun with rfl | ⟨rfl, h0⟩
  all_goals
   try (obtain rfl := List.eq_nil_of_length_eq_zero h0; clear h0)
   go_wp2_with fail
   refine (benchesFor_any K.smy (uh HA)).mono ?_
   rintro e w3 ⟨v3, rfl, hu, hb⟩
   replace K := K.next hb
   have HU := hide hu
   clear hb hu c0 c1 c2 c3 c4 c5
   go_wp2_with fail
   refine ck (roomiestOf_any (uh HU) (by omega)) fun w4 hb => ?_
   replace K := K.next hb
   clear hb
   go_wp2_with fail
   go_ret
   exact ⟨rfl, K.bb⟩
 ·obtain rfl : cr = false := (by cases cr <;> first | rfl | simp at hcond)
  have h0 : ¬ fs.length = 0 := by simpa using hcond
  rw [Bool.false_or, decide_eq_false h0, if_neg (by simp)] at Hq
  obtain rfl := (uh Hq).symm
  clear hcond Hq
  have h0i : ¬ ((fs.length : Int) = 0) := by omega
  have h0b : ((fs.length : Int) == 0) = false := beq_eq_false_iff_ne.mpr h0i
  clear h0
  go_wp2_with fail
  refine ck (cheapestFor_any K.smy (uh HA) (uh HN) hfl) fun w3 hb => ?_
  replace K := K.next hb
  clear hb c0 c1 c2 c3 c4 c5
  go_wp2_with fail
  go_ret
  exact ⟨rfl, K.bb⟩
theorem canChoose_any {w : World} {v0 v1 v2 v3 v4 : Value} {m : SmyV} {who : Int} {q : Bool} (hq : (smyB m && whoB m who) = q) (h : Smy w v0 v1 v2 v3 v4 m) : cB 71 #[.agg #[v0, v1, v2, v3, v4, .int .i64 m.now], .int .i64 who] w (.bool q) := by
 obtain ⟨wn, hwn⟩ := alAx (wantOfV m who)
 have Hwn := hide hwn
 have hw9 := (wantV_bd m who).1
 have Hd : Hid ((wn == -1) = !q) := hide (by
  rw [← hwn, ← hq]
  unfold wantOfV
  cases (smyB m && whoB m who)
  ·rfl
  ·simp; omega)
 clear hwn hq hw9
 obtain ⟨a0, p0, a1, p1, a2, p2, a3, p3, a4, p4, rfl, rfl, rfl, rfl, rfl, K⟩ := Bx.new h
 clear h
 go_enter func71, ntmps71
 go_wp2_with fail
 generalize w.alloc (.cells (S6 a0 p0 a1 p1 a2 p2 a3 p3 a4 p4 m) 32) = W at *
 refine ck (implWantOf_any (uh Hwn) K.smy) fun w1 hb => ?_
 replace K := K.next hb
 clear hb Hwn
 have hd := uh Hd
 cases q
 ·obtain rfl : wn = -1 := by simpa using hd
  clear hd Hd
  go_wp2_with fail
  go_ret
  exact ⟨rfl, K.bb⟩
 ·have hne : Hid ((wn != -1) = true) := hide (by show (!(wn == -1)) = true; rw [hd]; rfl)
  clear hd Hd
  go_wp2_with fail
  go_ret
  exact ⟨congrArg (fun x => Ending.returned (.bool x)) (uh hne), K.bb⟩
theorem implChosen_any {w : World} {v0 v1 v2 v3 v4 : Value} {m : SmyV} {who q : Int} (hq : chosenOfV m who = q) (h : Smy w v0 v1 v2 v3 v4 m) : cB 33 #[.agg #[v0, v1, v2, v3, v4, .int .i64 m.now], .int .i64 who] w (.int .i64 q) := by
 obtain ⟨ok, hok⟩ := alAx ((smyB m && whoB m who))
 have Hok := hide hok
 have Hq := hide hq
 clear hok hq
 obtain ⟨a0, p0, a1, p1, a2, p2, a3, p3, a4, p4, rfl, rfl, rfl, rfl, rfl, K⟩ := Bx.new h
 clear h
 go_enter func33, ntmps33
 go_wp2_with fail
 generalize w.alloc (.cells (S6 a0 p0 a1 p1 a2 p2 a3 p3 a4 p4 m) 32) = W at *
 refine ck (canChoose_any (uh Hok) K.smy) fun w1 hb => ?_
 replace K := K.next hb
 clear hb
 cases ok
 ·obtain rfl : q = -1 := by rw [← uh Hq]; unfold chosenOfV; rw [uh Hok]; rfl
  go_wp2_with fail
  go_ret
  exact ⟨rfl, K.bb⟩
 have hq2 : chosenV m who = q := by rw [← uh Hq]; unfold chosenOfV; rw [uh Hok]; rfl
 have ho := uh Hok
 simp only [alBae] at ho
 obtain ⟨k, rfl, hk, hs⟩ := whoB_of ho.2
 have HA := hide ((smy_loose ho.1).asks hk hs)
 clear ho Hok Hq
 obtain ⟨c0, c1, c2, c3, c4, c5⟩ := K.cells
 go_wp2_with fail
 refine ck (chosenFor_k hq2 K.smy (uh HA)) fun w2 hb => ?_
 replace K := K.next hb
 clear hb c0 c1 c2 c3 c4 c5
 go_wp2_with fail
 go_ret
 exact ⟨rfl, K.bb⟩
end Go.Proofs.YtgdpaigcmoifbaaGreat
namespace Go.Proofs.YtgdpaigcmoifbaaGreat
open Go.ChangeShapes Go.WideShapes Go.ChangeAt Go.RowKit Go.Sort Go.Shelf Go.Proofs.Tryz
set_option linter.unusedVariables false
set_option linter.unusedSimpArgs false
set_option maxRecDepth 100000
theorem implMayWork_any {w : World} {v0 v1 v2 v3 v4 : Value} {m : SmyV} {who b : Int} {q : Bool} (hq : mayWorkV m who b = q) (h : Smy w v0 v1 v2 v3 v4 m) : cB 23 #[.agg #[v0, v1, v2, v3, v4, .int .i64 m.now], .int .i64 who, .int .i64 b] w (.bool q) := by
 rw [← for_may] at hq
 obtain ⟨ok, hok⟩ := alAx ((smyB m && whoB m who))
 have Hok := hide hok
 have Hq := hide hq
 clear hok hq
 obtain ⟨a0, p0, a1, p1, a2, p2, a3, p3, a4, p4, rfl, rfl, rfl, rfl, rfl, K⟩ := Bx.new h
 clear h
 go_enter func23, ntmps23
 go_wp2_with fail
 generalize w.alloc (.cells (S6 a0 p0 a1 p1 a2 p2 a3 p3 a4 p4 m) 32) = W at *
 refine ck (canChoose_any (uh Hok) K.smy) fun w1 hb => ?_
 replace K := K.next hb
 clear hb
 cases ok
 ·obtain rfl : q = false := by rw [← uh Hq]; unfold forV; rw [uh Hok]; rfl
  go_wp2_with fail
  go_ret
  exact ⟨rfl, K.bb⟩
 have ho := uh Hok
 simp only [alBae] at ho
 obtain ⟨k, rfl, hk, hs⟩ := whoB_of ho.2
 have HA := hide ((smy_loose ho.1).asks hk hs)
 clear ho hk hs
 obtain ⟨c0, c1, c2, c3, c4, c5⟩ := K.cells
 go_wp2_with fail
 refine (benchesFor_any K.smy (uh HA)).mono ?_
 rintro e w2 ⟨v1, rfl, hu, hb⟩
 have K2 := K.next hb
 have hq2 : (mayTo m (k : Int) m.desks.length).any (fun x => x.1 == b) = q := by rw [← uh Hq]; unfold forV; rw [uh Hok]; rfl
 have hfl : (mayTo m (k : Int) m.desks.length).length ≤ 8 := (uh HA).few
 clear hb K c0 c1 c2 c3 c4 c5 Hq Hok HA
 have BB := hide K2.bb
 clear K2
 generalize mayTo m (k : Int) m.desks.length = us at *
 obtain ⟨ua, uc, rfl⟩ := RecAt.shape hu
 have H0 := hide hu
 have Hq := hide hq2
 clear hu hq2
 go_wp2_with fail
 go_loopw [17] (fun i wr => ∃ j : Nat, j ≤ us.length ∧ i = .int .i64 j ∧ (∀ i, i < j → (fun x : BenchV => x.1 == b) (recAt us i) = false) ∧ Below w2.heap.size w2 wr) (fun i _ => us.length - (intOf i).toNat)
 case atStart => exact ⟨0, alNzl _, rfl, fun i hi => by omega, alBrf _ _⟩
 case round =>
  obtain ⟨j, hj, rfl, hno, hb⟩ := hrel
  have HU := hide (RecAt.later (uh H0) hb)
  have BW := hide hb
  replace BB := bt BB hb
  have Hno := hide hno
  clear hb hno
  by_cases hlt : j < us.length
  ·have hlt1 : (j : Int) < (us.length : Int) := by omega
   obtain ⟨pq, hpq⟩ := alAx ((fun x : BenchV => x.1 == b) (recAt us j))
   have HY := hide (fun hh : pq = true => any_yes hlt (p := (fun x : BenchV => x.1 == b)) (hpq.trans hh))
   have HX : Hid (pq = false → ∀ i, i < j + 1 → (fun x : BenchV => x.1 == b) (recAt us i) = false) := hide (fun hh i hi => by
    by_cases e : i = j
    ·rw [e, hpq, hh]
    ·exact uh Hno i (by omega))
   have Hpq := hide hpq
   clear hpq
   obtain ⟨g, rfl, hgl, hgw, hcl, _⟩ := RecAt.view encBench_len (by omega) (uh HU) rfl (by omega)
   have z0 := bench_cell hcl hlt
   clear hcl
   generalize hx : recAt us j = x at *
   clear hx
   obtain ⟨bx, ux, fx⟩ := x
   simp only at z0
   have hpq : (bx == b) = pq := uh Hpq
   go_upto_region 6 with fail
   go_wp2_with fail
   refine ck (place_any _ _ _ _) fun w3 hb => ?_
   replace BB := bt BB hb
   replace BW := hide ((uh BW).trans (hb.mono (uh BW).size))
   clear hb z0
   cases pq
   ·have hbn : bx ≠ b := by simpa using hpq
    go_wp2_with fail
    go_roundw
    case rel => exact ⟨j + 1, by omega, by go_num, uh HX (by trivial), uh BW⟩
    case measure => exact ms
   ·obtain rfl : q = true := (uh Hq).symm.trans (uh HY (by trivial))
    obtain rfl : bx = b := by simpa using hpq
    clear hpq
    go_wp2_with fail
    go_ret
    exact ⟨rfl, uh BB⟩
  ·obtain rfl : j = us.length := by omega
   obtain rfl : q = false := (uh Hq).symm.trans (any_no (uh Hno))
   go_wp2_with fail
   go_ret
   exact ⟨rfl, uh BB⟩
theorem implFitting_any {w : World} {v0 v1 v2 v3 v4 : Value} {m : SmyV} {who : Int} {q : List Int} (hq : fittingOfV m who = q) (h : Smy w v0 v1 v2 v3 v4 m) : Calls prog 19 #[.agg #[v0, v1, v2, v3, v4, .int .i64 m.now], .int .i64 who] w fun e w' => ∃ v', e = .returned v' ∧ NumsAt w.heap.size w' v' q ∧ Below w.heap.size w w' := by
 obtain ⟨ok, hok⟩ := alAx ((smyB m && whoB m who))
 have Hok := hide hok
 have Hq := hide hq
 clear hok hq
 obtain ⟨a0, p0, a1, p1, a2, p2, a3, p3, a4, p4, rfl, rfl, rfl, rfl, rfl, K⟩ := Bx.new h
 clear h
 go_enter func19, ntmps19
 go_wp2_with fail
 generalize w.alloc (.cells (S6 a0 p0 a1 p1 a2 p2 a3 p3 a4 p4 m) 32) = W at *
 refine ck (canChoose_any (uh Hok) K.smy) fun w1 hb => ?_
 replace K := K.next hb
 clear hb
 cases ok
 ·obtain rfl : q = [] := by rw [← uh Hq]; unfold fittingOfV; rw [uh Hok]; rfl
  go_wp2_with fail
  go_ret
  exact ⟨_, rfl, recs_empty rfl K.bb.size, (K.alloc _).bb⟩
 have ho := uh Hok
 simp only [alBae] at ho
 obtain ⟨k, rfl, hk, hs⟩ := whoB_of ho.2
 have HA := hide ((smy_loose ho.1).asks hk hs)
 clear ho hk hs
 obtain ⟨c0, c1, c2, c3, c4, c5⟩ := K.cells
 go_wp2_with fail
 have hq2 : fittingL m (k : Int) = q := by rw [← uh Hq]; unfold fittingOfV; rw [uh Hok]; rfl
 refine (fittingFor_k hq2 K.smy (uh HA)).mono ?_
 rintro e w2 ⟨v1, rfl, hu, hb⟩
 have BB := hide (K.next hb).bb
 have HU := hide (RecAt.mono hu K.bb.size)
 obtain ⟨ua, uc, rfl⟩ := RecAt.shape hu
 clear hu hb c0 c1 c2 c3 c4 c5 K
 go_wp2_with fail
 go_ret
 exact ⟨_, rfl, uh HU, uh BB⟩
theorem implCrowded_any {w : World} {v0 v1 v2 v3 v4 : Value} {m : SmyV} {q : Bool} (hq : crowdedV m = q) (h : Smy w v0 v1 v2 v3 v4 m) : cB 35 #[.agg #[v0, v1, v2, v3, v4, .int .i64 m.now]] w (.bool q) := by
 obtain ⟨ok, hok⟩ := alAx (smyB m)
 have Hok := hide hok
 have Hq := hide hq
 clear hok hq
 obtain ⟨a0, p0, a1, p1, a2, p2, a3, p3, a4, p4, rfl, rfl, rfl, rfl, rfl, K⟩ := Bx.new h
 clear h
 go_enter func35, ntmps35
 go_wp2_with fail
 generalize w.alloc (.cells (S6 a0 p0 a1 p1 a2 p2 a3 p3 a4 p4 m) 32) = W at *
 have hS := implSmithyOk_any K.smy
 rw [uh Hok] at hS
 refine hS.mono ?_
 rintro e w1 ⟨rfl, hb⟩
 replace K := K.next hb
 clear hb hS
 cases ok
 ·obtain rfl : q = false := by rw [← uh Hq]; unfold crowdedV; rw [uh Hok]; rfl
  go_wp2_with fail
  go_ret
  exact ⟨rfl, K.bb⟩
 have hq2 : crowdB m = q := by rw [← uh Hq]; unfold crowdedV; rw [uh Hok]; rfl
 have HL := hide (smy_loose (uh Hok))
 obtain ⟨c0, c1, c2, c3, c4, c5⟩ := K.cells
 go_wp2_with fail
 refine ck (isCrowded_k hq2 K.smy (uh HL).sane (uh HL).wants) fun w2 hb => ?_
 replace K := K.next hb
 clear hb c0 c1 c2 c3 c4 c5
 go_wp2_with fail
 go_ret
 exact ⟨rfl, K.bb⟩
open Go.ChangeShapes Go.WideShapes Go.ChangeAt Go.RowKit Go.Sort Go.Proofs.Tryz
set_option maxRecDepth 100000
theorem walkFnExactFitting_of (hS : (∀ (w : World) (v0 v1 v2 v3 v4 : Value) (m : SmyV) (who : Int), Smy w v0 v1 v2 v3 v4 m → Calls prog 22 #[.agg #[v0, v1, v2, v3, v4, .int .i64 m.now], .int .i64 who] w fun e w' => ∃ v', e = .returned v' ∧ NumsAt w.heap.size w' v' (fittingOfV m who) ∧ Below w.heap.size w w')) (hI : (∀ (w : World) (v0 v1 v2 v3 v4 : Value) (m : SmyV) (who : Int), Smy w v0 v1 v2 v3 v4 m → Calls prog 19 #[.agg #[v0, v1, v2, v3, v4, .int .i64 m.now], .int .i64 who] w fun e w' => ∃ v', e = .returned v' ∧ NumsAt w.heap.size w' v' (fittingOfV m who) ∧ Below w.heap.size w w')) (hlen : ∀ (m : SmyV) (who : Int), (fittingOfV m who).length ≤ 1000) (v0 v1 v2 v3 v4 : Value) (m : SmyV) (who : Int) (w : World) (h : Smy w v0 v1 v2 v3 v4 m) :
  cB 8 #[.agg #[v0, v1, v2, v3, v4, .int .i64 m.now], .int .i64 who] w (.bool true) := by
 have HS := hide hS
 have HI := hide hI
 clear hS hI
 have Hv := hide h
 obtain ⟨a0, p0, a1, p1, a2, p2, a3, p3, a4, p4, rfl, rfl, rfl, rfl, rfl, _, _, _, _, _, _, _, _, _, _⟩ := h.five
 clear h
 have hL := hlen m who
 have HS1 := hide (fun W u0 u1 u2 u3 u4 => uh HS W u0 u1 u2 u3 u4 m who)
 have HI1 := hide (fun W u0 u1 u2 u3 u4 => uh HI W u0 u1 u2 u3 u4 m who)
 clear HS HI hlen
 generalize fittingOfV m who = L at *
 go_enter func8, ntmps8
 go_wp2_with fail
 refine (szSmithy_any ((uh Hv).alloc _)).mono ?_
 rintro e w1 ⟨x, rfl, hx, hb⟩
 have ka : Hid (Blk w1 w.heap.size 64 (S6 a0 p0 a1 p1 a2 p2 a3 p3 a4 p4 m)) := hide ((Blk.new w _ _).below hb (by simp))
 have BB : Hid (Below w.heap.size w w1) := hide (((ba _ _)).trans (hb.mono (by simp)))
 have Hx := hide hx
 clear hx hb
 by_cases hx0 : x < 0
 ·go_wp2_with fail
  go_ret
  exact ⟨rfl, uh BB⟩
 have Hs := hide (uh Hx (by omega))
 clear Hx
 obtain ⟨c0, c1, c2, c3, c4, c5⟩ := (uh ka).c6
 go_wp2_with fail
 refine (toSmithy_any ((uh Hv).below (uh BB)) (uh Hs)).mono ?_
 rintro e w2 ⟨u0, u1, u2, u3, u4, rfl, ho, hb⟩
 clear c0 c1 c2 c3 c4 c5
 have k2 := ho.smy
 obtain ⟨b0, q0, b1, q1, b2, q2, b3, q3, b4, q4, rfl, rfl, rfl, rfl, rfl, _, _, _, _, _, _, _, _, _, _⟩ := k2.five
 have K2 := hide k2
 clear k2 ho
 replace ka := bl ka hb
 replace BB := bt BB hb
 clear hb
 go_wp2_with fail
 refine (uh HS1 _ _ _ _ _ _ (uh K2)).mono ?_
 rintro e w3 ⟨v9, rfl, ho9, hb⟩
 obtain ⟨ua, uc, rfl⟩ := RecAt.shape ho9
 have hsz2 := (uh BB).size
 replace ka := bl ka hb
 replace BB := bt BB hb
 have HU := hide (RecAt.mono ho9 hsz2)
 have hw3 : w.heap.size < w3.heap.size := (uh ka).lt
 clear hb ho9 K2 hsz2
 have LU : Hid (∀ k, (Value.slice ua L.length uc).ownBlock = some k → k < w3.heap.size) := hide (fun k e => (RecAt.lt (uh HU) e).2)
 obtain ⟨c0, c1, c2, c3, c4, c5⟩ := (uh ka).c6
 go_wp2_with fail
 have hn3 : w3.heap.size ≤ w3.heap.size := alNlr _
 refine (toSmithy_full ((uh Hv).below (uh BB)) (uh Hs)).mono ?_
 rintro e w4 ⟨z0, z1, z2, z3, z4, xq, rfl, ho, hb⟩
 clear c0 c1 c2 c3 c4 c5
 have k4 := ho.smy
 obtain ⟨d0, r0, d1, r1, d2, r2, d3, r3, d4, r4, rfl, rfl, rfl, rfl, rfl, _, _, _, _, _, _, _, _, _, _⟩ := k4.five
 clear k4
 replace ka := bl ka hb
 replace HU := hide (RecAt.later (uh HU) hb)
 replace BB := bt BB hb
 have HX := hide ho
 have LX : Hid (∀ k, OwnB (.slice d0 m.rooms.length r0) (.slice d1 m.guilds.length r1) (.slice d2 m.smiths.length r2) (.slice d3 m.desks.length r3) (.slice d4 m.paces.length r4) xq k → w3.heap.size ≤ k ∧ k < w4.heap.size) := hide (fun k e => ho.own e)
 have hsz4 := hb.size
 clear hb ho hn3
 go_wp2_with fail
 have hba : Below w4.heap.size w4 (w4.alloc (.cells (S6 d0 r0 d1 r1 d2 r2 d3 r3 d4 r4 m) 32)) := ba _ _
 replace ka := bl ka hba
 replace HU := hide (RecAt.later (uh HU) hba)
 replace HX := hide ((uh HX).below hba)
 replace BB := bt BB hba
 have kx : Hid (Blk (w4.alloc (.cells (S6 d0 r0 d1 r1 d2 r2 d3 r3 d4 r4 m) 32)) w4.heap.size 32 (S6 d0 r0 d1 r1 d2 r2 d3 r3 d4 r4 m)) := hide (Blk.new _ _ _)
 have hszW : w4.heap.size + 1 ≤ (w4.alloc (.cells (S6 d0 r0 d1 r1 d2 r2 d3 r3 d4 r4 m) 32)).heap.size := by simp
 clear hba
 generalize w4.alloc (.cells (S6 d0 r0 d1 r1 d2 r2 d3 r3 d4 r4 m) 32) = W at *
 refine (uh HI1 _ _ _ _ _ _ (uh HX).smy).mono ?_
 rintro e w5 ⟨v9, rfl, ho9, hb⟩
 obtain ⟨ga, gc, rfl⟩ := RecAt.shape ho9
 replace ka := bl ka hb
 replace HU := hide (RecAt.later (uh HU) hb)
 replace HX := hide ((uh HX).below hb)
 replace kx := bl kx hb
 replace BB := bt BB hb
 have HG := hide (RecAt.mono (n₁ := w4.heap.size + 1) ho9 hszW)
 have hsz5 : w4.heap.size + 1 ≤ w5.heap.size := alNlt hszW hb.size
 clear hb ho9 hszW
 have LG : Hid (∀ k, (Value.slice ga L.length gc).ownBlock = some k → w4.heap.size < k) := hide (fun k e => Nat.lt_of_succ_le (RecAt.lt (uh HG) e).1)
 generalize w4.heap.size = xb at *
 go_wp2_with fail
 refine ck (eqNums_yes (NumsAt.list (uh HG)) (NumsAt.list (uh HU))) fun w6 hb => ?_
 replace ka := bl ka hb
 replace HU := hide (RecAt.later (uh HU) hb)
 replace HX := hide ((uh HX).below hb)
 replace kx := bl kx hb
 replace HG := hide (RecAt.later (uh HG) hb)
 replace BB := bt BB hb
 have hsz6 : xb + 1 ≤ w6.heap.size := alNlt hsz5 hb.size
 clear hb hsz5
 obtain ⟨c0, c1, c2, c3, c4, c5⟩ := (uh ka).c6
 obtain ⟨x0, x1, x2, x3, x4, x5⟩ := (uh kx).c6
 have V6 := hide ((uh Hv).below (uh BB))
 go_wp2_with fail
 go_upto_region 10 with fail
 go_cut [35] (fun s wc => s = .bool false ∧ Below w6.heap.size w6 wc)
 case first =>
  go_region_with (first
   | (go_at_call 42; refine (toSmithy_any (m := m) ?_ (uh Hs)).mono ?_; exact (uh V6).below (alBrf _ _).drew; rintro e w7 ⟨t0, t1, t2, t3, t4, rfl, ho, hb⟩; have k7 := ho.smy; obtain ⟨f0, j0, rfl, _, _⟩ := IsRooms.shape k7.rooms; obtain ⟨f1, j1, rfl, _, _⟩ := IsRec.shape k7.guilds; obtain ⟨f2, j2, rfl, _, _⟩ := IsRec.shape k7.smiths; obtain ⟨f3, j3, rfl, _, _⟩ := IsRec.shape k7.desks; obtain ⟨f4, j4, rfl, _, _⟩ := IsRec.shape k7.paces; have K7 := hide k7; have Hb7 : Hid (Below w6.heap.size w6 w7) := hide ⟨hb.os, hb.tape, hb.output, hb.size, hb.block⟩; have kx7 := (uh kx).below (uh Hb7) (uh kx).lt; have y0 := kx7.cell (i := 0) (v := .slice d0 m.rooms.length r0) rfl; have y1 := kx7.cell (i := 1) (v := .slice d1 m.guilds.length r1) rfl; have y2 := kx7.cell (i := 2) (v := .slice d2 m.smiths.length r2) rfl; have y3 := kx7.cell (i := 3) (v := .slice d3 m.desks.length r3) rfl; have y4 := kx7.cell (i := 4) (v := .slice d4 m.paces.length r4) rfl; have y5 := kx7.cell (i := 5) (v := .int .i64 m.now) rfl; clear k7 ho hb kx7)
   | (go_at_call 43; refine (eqSmithy_yes (m := m) ?_ ?_).mono ?_; exact ((uh HX).below (uh Hb7)).smy; exact uh K7; rintro e w8 ⟨rfl, hb⟩; have Hb8 := hide hb; clear hb))
  all_goals
   go_wp2_with fail
   go_meet
   exact ⟨rfl, (uh Hb7).trans ((uh Hb8).mono (uh Hb7).size)⟩
 case rest =>
  obtain ⟨rfl, hb⟩ := hcut
  obtain ⟨w8, rfl⟩ : ∃ x, x = wc := ⟨wc, rfl⟩
  clear c0 c1 c2 c3 c4 c5
  clear x0 x1 x2 x3 x4 x5
  replace ka := bl ka hb
  replace HU := hide (RecAt.later (uh HU) hb)
  replace HX := hide ((uh HX).below hb)
  replace kx := bl kx hb
  replace HG := hide (RecAt.later (uh HG) hb)
  replace BB := bt BB hb
  have hsz8 : xb + 1 ≤ w8.heap.size := alNlt hsz6 hb.size
  clear hb hsz6 V6
  obtain ⟨x0, x1, x2, x3, x4, x5⟩ := (uh kx).c6
  go_wp2_with fail
  refine (markSmithy_any 1 (uh HX) (uh Hs) (by omega) (by omega) (by omega)).mono ?_
  rintro e w9 ⟨rfl, _, hon⟩
  clear x0 x1 x2 x3 x4 x5
  have hen := endM_bd (uh Hs) (uh HX).rooms
  generalize endM 1 m xq = em at *
  have hsz9 : xb + 1 ≤ w9.heap.size := alNlt hsz8 hon.size
  have hwle := (uh BB).size
  replace HU := hide (RecAt.same (uh HU) fun k e => hon.at (RecAt.lt (uh HU) e).2 fun e9 => by have h1 := uh LU k e; have h2 := uh LX k e9; omega)
  replace HG := hide (RecAt.same (uh HG) fun k e => hon.at (RecAt.lt (uh HG) e).2 fun e9 => by have h1 := uh LG k e; have h2 := uh LX k e9; omega)
  replace ka := hide ((uh ka).same (hon.at (uh ka).lt fun e9 => by have h2 := uh LX _ e9; omega))
  replace BB := hide ((uh BB).trans (hon.below hwle (fun k e => by have h2 := uh LX k e; omega)))
  clear hon hsz8 kx HX hwle
  have hk0 : ¬ em < 0 := by omega
  go_wp2_with fail
  refine ck (eqNums_yes (NumsAt.list (uh HG)) (NumsAt.list (uh HU))) fun w10 hb => ?_
  replace ka := bl ka hb
  replace HU := hide (RecAt.later (uh HU) hb)
  replace HG := hide (RecAt.later (uh HG) hb)
  replace BB := bt BB hb
  have hszA : xb + 1 ≤ w10.heap.size := alNlt hsz9 hb.size
  clear hb hsz9
  go_wp2_with fail
  refine (markNums_any 1 (uh HG) (by omega) (by omega) (by omega)).mono ?_
  rintro e w11 ⟨rfl, hgm, hg⟩
  have hszB : xb + 1 ≤ w11.heap.size := alNlt hszA hg.size
  have hwle := (uh BB).size
  replace HU := hide (RecAt.grown (uh HU) hg (fun k e e2 => by have h1 := uh LU k e; have h2 := uh LG k e2; omega))
  replace ka := hide ((uh ka).same (hg.block _ (uh ka).lt (fun e9 => by have h2 := uh LG _ e9.symm; omega)))
  replace BB := hide ((uh BB).trans ((alBrf _ _).grown hg hwle (fun k e => by have h2 := uh LG k e; omega)))
  replace HG := hide hgm
  clear hgm hg hszA hwle
  go_wp2_with fail
  refine ck (heldNums_yes 1 L.length (uh HG) (by omega) (by omega) (by omega)) fun w12 hw12 => ?_
  subst w12
  have hnn : ¬ (1 : Int) + (L.length : Int) < 0 := by omega
  obtain ⟨c0, c1, c2, c3, c4, c5⟩ := (uh ka).c6
  go_wp2_with fail
  refine (toSmithy_any ((uh Hv).below (uh BB)) (uh Hs)).mono ?_
  rintro e w13 ⟨s0, s1, s2, s3, s4, rfl, ho, hb⟩
  clear c0 c1 c2 c3 c4 c5
  have k13 := ho.smy
  obtain ⟨f0, j0, f1, j1, f2, j2, f3, j3, f4, j4, rfl, rfl, rfl, rfl, rfl, _, _, _, _, _, _, _, _, _, _⟩ := k13.five
  have K13 := hide k13
  clear k13 ho
  replace ka := bl ka hb
  replace HU := hide (RecAt.later (uh HU) hb)
  replace HG := hide (RecAt.later (uh HG) hb)
  replace BB := bt BB hb
  have hszC : xb + 1 ≤ w13.heap.size := alNlt hszB hb.size
  clear hb hszB
  go_wp2_with fail
  refine (uh HI1 _ _ _ _ _ _ (uh K13)).mono ?_
  rintro e w14 ⟨v9, rfl, ho9, hb⟩
  obtain ⟨ha9, hc9, rfl⟩ := RecAt.shape ho9
  replace ka := bl ka hb
  replace HU := hide (RecAt.later (uh HU) hb)
  replace HG := hide (RecAt.later (uh HG) hb)
  replace BB := bt BB hb
  have HH := hide (NumsAt.list ho9)
  clear hb ho9 hszC
  go_wp2_with fail
  refine ck (eqNums_yes (uh HH) (NumsAt.list (uh HU))) fun w15 hb => ?_
  replace ka := bl ka hb
  replace HU := hide (RecAt.later (uh HU) hb)
  replace HG := hide (RecAt.later (uh HG) hb)
  replace BB := bt BB hb
  clear hb HH
  go_wp2_with fail
  refine ck (heldNums_yes 1 L.length (uh HG) (by omega) (by omega) (by omega)) fun w16 hw16 => ?_
  subst w16
  go_wp2_with fail
  go_ret
  exact ⟨rfl, uh BB⟩
theorem fitting_few (m : SmyV) (who : Int) : (fittingOfV m who).length ≤ 1000 := by
 unfold fittingOfV
 split
 ·rename_i h
  simp only [alBae] at h
  have := (smy_loose h.1).sane.eight
  have := fitTo_len m who m.desks.length
  unfold fittingL
  omega
 ·simp
theorem walkFnExactFitting (v0 v1 v2 v3 v4 : Value) (m : SmyV) (who : Int) (w : World) (h : Smy w v0 v1 v2 v3 v4 m) :
  cB 8 #[.agg #[v0, v1, v2, v3, v4, .int .i64 m.now], .int .i64 who] w (.bool true) := walkFnExactFitting_of (fun _ _ _ _ _ _ _ _ h => specFitting_any rfl h) (fun _ _ _ _ _ _ _ _ h => implFitting_any rfl h) fitting_few v0 v1 v2 v3 v4 m who w h
set_option maxRecDepth 100000
theorem walkFnExactMayWork (v0 v1 v2 v3 v4 : Value) (m : SmyV) (who : Int) (bench : Int) (w : World) (h : Smy w v0 v1 v2 v3 v4 m) :
  cB 7 #[.agg #[v0, v1, v2, v3, v4, .int .i64 m.now], .int .i64 who, .int .i64 bench] w (.bool true) := by
 obtain ⟨q, Hq⟩ := alAn (mayWorkV m who bench)
 have Hv := hide h
 obtain ⟨a0, p0, a1, p1, a2, p2, a3, p3, a4, p4, rfl, rfl, rfl, rfl, rfl, _, _, _, _, _, _, _, _, _, _⟩ := h.five
 clear h
 go_enter func7, ntmps7
 go_wp2_with fail
 refine (szSmithy_any ((uh Hv).alloc _)).mono ?_
 rintro e w1 ⟨x, rfl, hx, hb⟩
 have ka : Hid (Blk w1 w.heap.size 64 (S6 a0 p0 a1 p1 a2 p2 a3 p3 a4 p4 m)) := hide ((Blk.new w _ _).below hb (by simp))
 have BB : Hid (Below w.heap.size w w1) := hide (((ba _ _)).trans (hb.mono (by simp)))
 have Hx := hide hx
 clear hx hb
 by_cases hx0 : x < 0
 ·go_wp2_with fail
  go_ret
  exact ⟨rfl, uh BB⟩
 have Hs := hide (uh Hx (by omega))
 clear Hx
 obtain ⟨c0, c1, c2, c3, c4, c5⟩ := (uh ka).c6
 go_wp2_with fail
 refine (toSmithy_any ((uh Hv).below (uh BB)) (uh Hs)).mono ?_
 rintro e w2 ⟨u0, u1, u2, u3, u4, rfl, ho, hb⟩
 clear c0 c1 c2 c3 c4 c5
 have k2 := ho.smy
 obtain ⟨b0, q0, b1, q1, b2, q2, b3, q3, b4, q4, rfl, rfl, rfl, rfl, rfl, _, _, _, _, _, _, _, _, _, _⟩ := k2.five
 have K2 := hide k2
 clear k2 ho
 replace ka := bl ka hb
 replace BB := bt BB hb
 clear hb
 go_wp2_with fail
 refine ck (specMayWork_any (uh Hq) (uh K2)) fun w3 hb => ?_
 replace ka := bl ka hb
 replace BB := bt BB hb
 clear hb K2
 obtain ⟨c0, c1, c2, c3, c4, c5⟩ := (uh ka).c6
 go_wp2_with fail
 refine (toSmithy_any ((uh Hv).below (uh BB)) (uh Hs)).mono ?_
 rintro e w4 ⟨u0, u1, u2, u3, u4, rfl, ho, hb⟩
 clear c0 c1 c2 c3 c4 c5
 have k4 := ho.smy
 obtain ⟨d0, r0, d1, r1, d2, r2, d3, r3, d4, r4, rfl, rfl, rfl, rfl, rfl, _, _, _, _, _, _, _, _, _, _⟩ := k4.five
 have K4 := hide (k4.alloc (.cells (S6 d0 r0 d1 r1 d2 r2 d3 r3 d4 r4 m) 32))
 clear k4 ho
 replace ka := bl ka hb
 replace BB := bt BB hb
 clear hb
 go_wp2_with fail
 replace ka := hide ((uh ka).alloc (.cells (S6 d0 r0 d1 r1 d2 r2 d3 r3 d4 r4 m) 32))
 replace BB := hide ((uh BB).alloc (uh BB).size (.cells (S6 d0 r0 d1 r1 d2 r2 d3 r3 d4 r4 m) 32))
 have kx : Hid (Blk (w4.alloc (.cells (S6 d0 r0 d1 r1 d2 r2 d3 r3 d4 r4 m) 32)) w4.heap.size 32 (S6 d0 r0 d1 r1 d2 r2 d3 r3 d4 r4 m)) := hide (Blk.new _ _ _)
 generalize w4.alloc (.cells (S6 d0 r0 d1 r1 d2 r2 d3 r3 d4 r4 m) 32) = W at *
 generalize w4.heap.size = xb at *
 refine ck (implMayWork_any (uh Hq) (uh K4)) fun w5 hb => ?_
 replace K4 := hide ((uh K4).below hb)
 replace ka := bl ka hb
 replace kx := bl kx hb
 replace BB := bt BB hb
 clear hb
 have V5 := hide ((uh Hv).below (uh BB))
 obtain ⟨c0, c1, c2, c3, c4, c5⟩ := (uh ka).c6
 obtain ⟨x0, x1, x2, x3, x4, x5⟩ := (uh kx).c6
 cases q
 all_goals
  go_wp2_with fail
  go_region_with (first
   | (go_at_call 42; refine (toSmithy_any (m := m) ?_ (uh Hs)).mono ?_; exact (uh V5).below (alBrf _ _).drew; rintro e w6 ⟨u0, u1, u2, u3, u4, rfl, ho, hb⟩; have k6 := ho.smy; obtain ⟨f0, t0, rfl, _, _⟩ := IsRooms.shape k6.rooms; obtain ⟨f1, t1, rfl, _, _⟩ := IsRec.shape k6.guilds; obtain ⟨f2, t2, rfl, _, _⟩ := IsRec.shape k6.smiths; obtain ⟨f3, t3, rfl, _, _⟩ := IsRec.shape k6.desks; obtain ⟨f4, t4, rfl, _, _⟩ := IsRec.shape k6.paces; have K6 := hide k6; have Hb6 : Hid (Below w5.heap.size w5 w6) := hide ⟨hb.os, hb.tape, hb.output, hb.size, hb.block⟩; have kx6 := (uh kx).below (uh Hb6) (uh kx).lt; have y0 := kx6.cell (i := 0) (v := .slice d0 m.rooms.length r0) rfl; have y1 := kx6.cell (i := 1) (v := .slice d1 m.guilds.length r1) rfl; have y2 := kx6.cell (i := 2) (v := .slice d2 m.smiths.length r2) rfl; have y3 := kx6.cell (i := 3) (v := .slice d3 m.desks.length r3) rfl; have y4 := kx6.cell (i := 4) (v := .slice d4 m.paces.length r4) rfl; have y5 := kx6.cell (i := 5) (v := .int .i64 m.now) rfl; clear k6 ho hb kx6)
   | (go_at_call 43; refine (eqSmithy_yes (m := m) ?_ ?_).mono ?_; exact (uh K4).below (uh Hb6); exact uh K6; rintro e w7 ⟨rfl, hb⟩; have Hb7 := hide hb; clear hb))
  all_goals
   go_wp2_with fail
   go_ret
   exact ⟨rfl, (uh BB).trans (((uh Hb6).trans ((uh Hb7).mono (uh Hb6).size)).mono (uh BB).size)⟩
set_option maxRecDepth 100000
theorem walkFnExactChosen (v0 v1 v2 v3 v4 : Value) (m : SmyV) (who : Int) (w : World) (h : Smy w v0 v1 v2 v3 v4 m) :
  cB 10 #[.agg #[v0, v1, v2, v3, v4, .int .i64 m.now], .int .i64 who] w (.bool true) := by
 obtain ⟨q, Hq⟩ := alAn (chosenOfV m who)
 have Hv := hide h
 obtain ⟨a0, p0, a1, p1, a2, p2, a3, p3, a4, p4, rfl, rfl, rfl, rfl, rfl, _, _, _, _, _, _, _, _, _, _⟩ := h.five
 clear h
 go_enter func10, ntmps10
 go_wp2_with fail
 refine (szSmithy_any ((uh Hv).alloc _)).mono ?_
 rintro e w1 ⟨x, rfl, hx, hb⟩
 have ka : Hid (Blk w1 w.heap.size 64 (S6 a0 p0 a1 p1 a2 p2 a3 p3 a4 p4 m)) := hide ((Blk.new w _ _).below hb (by simp))
 have BB : Hid (Below w.heap.size w w1) := hide (((ba _ _)).trans (hb.mono (by simp)))
 have Hx := hide hx
 clear hx hb
 by_cases hx0 : x < 0
 ·go_wp2_with fail
  go_ret
  exact ⟨rfl, uh BB⟩
 have Hs := hide (uh Hx (by omega))
 clear Hx
 obtain ⟨c0, c1, c2, c3, c4, c5⟩ := (uh ka).c6
 go_wp2_with fail
 refine (toSmithy_any ((uh Hv).below (uh BB)) (uh Hs)).mono ?_
 rintro e w2 ⟨u0, u1, u2, u3, u4, rfl, ho, hb⟩
 clear c0 c1 c2 c3 c4 c5
 have k2 := ho.smy
 obtain ⟨b0, q0, b1, q1, b2, q2, b3, q3, b4, q4, rfl, rfl, rfl, rfl, rfl, _, _, _, _, _, _, _, _, _, _⟩ := k2.five
 have K2 := hide k2
 clear k2 ho
 replace ka := bl ka hb
 replace BB := bt BB hb
 clear hb
 go_wp2_with fail
 refine ck (specChosen_any (uh Hq) (uh K2)) fun w3 hb => ?_
 replace ka := bl ka hb
 replace BB := bt BB hb
 clear hb K2
 obtain ⟨c0, c1, c2, c3, c4, c5⟩ := (uh ka).c6
 go_wp2_with fail
 refine (toSmithy_any ((uh Hv).below (uh BB)) (uh Hs)).mono ?_
 rintro e w4 ⟨u0, u1, u2, u3, u4, rfl, ho, hb⟩
 clear c0 c1 c2 c3 c4 c5
 have k4 := ho.smy
 obtain ⟨d0, r0, d1, r1, d2, r2, d3, r3, d4, r4, rfl, rfl, rfl, rfl, rfl, _, _, _, _, _, _, _, _, _, _⟩ := k4.five
 have K4 := hide (k4.alloc (.cells (S6 d0 r0 d1 r1 d2 r2 d3 r3 d4 r4 m) 32))
 clear k4 ho
 replace ka := bl ka hb
 replace BB := bt BB hb
 clear hb
 go_wp2_with fail
 replace ka := hide ((uh ka).alloc (.cells (S6 d0 r0 d1 r1 d2 r2 d3 r3 d4 r4 m) 32))
 replace BB := hide ((uh BB).alloc (uh BB).size (.cells (S6 d0 r0 d1 r1 d2 r2 d3 r3 d4 r4 m) 32))
 have kx : Hid (Blk (w4.alloc (.cells (S6 d0 r0 d1 r1 d2 r2 d3 r3 d4 r4 m) 32)) w4.heap.size 32 (S6 d0 r0 d1 r1 d2 r2 d3 r3 d4 r4 m)) := hide (Blk.new _ _ _)
 generalize w4.alloc (.cells (S6 d0 r0 d1 r1 d2 r2 d3 r3 d4 r4 m) 32) = W at *
 generalize w4.heap.size = xb at *
 refine ck (implChosen_any (uh Hq) (uh K4)) fun w5 hb => ?_
 replace K4 := hide ((uh K4).below hb)
 replace ka := bl ka hb
 replace kx := bl kx hb
 replace BB := bt BB hb
 clear hb
 have V5 := hide ((uh Hv).below (uh BB))
 obtain ⟨c0, c1, c2, c3, c4, c5⟩ := (uh ka).c6
 obtain ⟨x0, x1, x2, x3, x4, x5⟩ := (uh kx).c6
 go_wp2_with fail
 go_region_with (first
  | (go_at_call 42; refine (toSmithy_any (m := m) ?_ (uh Hs)).mono ?_; exact (uh V5).below (alBrf _ _).drew; rintro e w6 ⟨u0, u1, u2, u3, u4, rfl, ho, hb⟩; have k6 := ho.smy; obtain ⟨f0, t0, rfl, _, _⟩ := IsRooms.shape k6.rooms; obtain ⟨f1, t1, rfl, _, _⟩ := IsRec.shape k6.guilds; obtain ⟨f2, t2, rfl, _, _⟩ := IsRec.shape k6.smiths; obtain ⟨f3, t3, rfl, _, _⟩ := IsRec.shape k6.desks; obtain ⟨f4, t4, rfl, _, _⟩ := IsRec.shape k6.paces; have K6 := hide k6; have Hb6 : Hid (Below w5.heap.size w5 w6) := hide ⟨hb.os, hb.tape, hb.output, hb.size, hb.block⟩; have kx6 := (uh kx).below (uh Hb6) (uh kx).lt; have y0 := kx6.cell (i := 0) (v := .slice d0 m.rooms.length r0) rfl; have y1 := kx6.cell (i := 1) (v := .slice d1 m.guilds.length r1) rfl; have y2 := kx6.cell (i := 2) (v := .slice d2 m.smiths.length r2) rfl; have y3 := kx6.cell (i := 3) (v := .slice d3 m.desks.length r3) rfl; have y4 := kx6.cell (i := 4) (v := .slice d4 m.paces.length r4) rfl; have y5 := kx6.cell (i := 5) (v := .int .i64 m.now) rfl; clear k6 ho hb kx6)
  | (go_at_call 43; refine (eqSmithy_yes (m := m) ?_ ?_).mono ?_; exact (uh K4).below (uh Hb6); exact uh K6; rintro e w7 ⟨rfl, hb⟩; have Hb7 := hide hb; clear hb))
 all_goals
  go_wp2_with fail
  go_ret
  exact ⟨rfl, (uh BB).trans (((uh Hb6).trans ((uh Hb7).mono (uh Hb6).size)).mono (uh BB).size)⟩
set_option maxRecDepth 100000
theorem walkFnExactCrowded (v0 v1 v2 v3 v4 : Value) (m : SmyV) (w : World) (h : Smy w v0 v1 v2 v3 v4 m) :
  cB 9 #[.agg #[v0, v1, v2, v3, v4, .int .i64 m.now]] w (.bool true) := by
 obtain ⟨q, Hq⟩ := alAn (crowdedV m)
 have Hv := hide h
 obtain ⟨a0, p0, a1, p1, a2, p2, a3, p3, a4, p4, rfl, rfl, rfl, rfl, rfl, _, _, _, _, _, _, _, _, _, _⟩ := h.five
 clear h
 go_enter func9, ntmps9
 go_wp2_with fail
 refine (szSmithy_any ((uh Hv).alloc _)).mono ?_
 rintro e w1 ⟨x, rfl, hx, hb⟩
 have ka : Hid (Blk w1 w.heap.size 64 (S6 a0 p0 a1 p1 a2 p2 a3 p3 a4 p4 m)) := hide ((Blk.new w _ _).below hb (by simp))
 have BB : Hid (Below w.heap.size w w1) := hide (((ba _ _)).trans (hb.mono (by simp)))
 have Hx := hide hx
 clear hx hb
 by_cases hx0 : x < 0
 ·go_wp2_with fail
  go_ret
  exact ⟨rfl, uh BB⟩
 have Hs := hide (uh Hx (by omega))
 clear Hx
 obtain ⟨c0, c1, c2, c3, c4, c5⟩ := (uh ka).c6
 go_wp2_with fail
 refine (toSmithy_any ((uh Hv).below (uh BB)) (uh Hs)).mono ?_
 rintro e w2 ⟨u0, u1, u2, u3, u4, rfl, ho, hb⟩
 clear c0 c1 c2 c3 c4 c5
 have k2 := ho.smy
 obtain ⟨b0, q0, b1, q1, b2, q2, b3, q3, b4, q4, rfl, rfl, rfl, rfl, rfl, _, _, _, _, _, _, _, _, _, _⟩ := k2.five
 have K2 := hide k2
 clear k2 ho
 replace ka := bl ka hb
 replace BB := bt BB hb
 clear hb
 go_wp2_with fail
 refine ck (specCrowded_any (uh Hq) (uh K2)) fun w3 hb => ?_
 replace ka := bl ka hb
 replace BB := bt BB hb
 clear hb K2
 obtain ⟨c0, c1, c2, c3, c4, c5⟩ := (uh ka).c6
 go_wp2_with fail
 refine (toSmithy_any ((uh Hv).below (uh BB)) (uh Hs)).mono ?_
 rintro e w4 ⟨u0, u1, u2, u3, u4, rfl, ho, hb⟩
 clear c0 c1 c2 c3 c4 c5
 have k4 := ho.smy
 obtain ⟨d0, r0, d1, r1, d2, r2, d3, r3, d4, r4, rfl, rfl, rfl, rfl, rfl, _, _, _, _, _, _, _, _, _, _⟩ := k4.five
 have K4 := hide (k4.alloc (.cells (S6 d0 r0 d1 r1 d2 r2 d3 r3 d4 r4 m) 32))
 clear k4 ho
 replace ka := bl ka hb
 replace BB := bt BB hb
 clear hb
 go_wp2_with fail
 replace ka := hide ((uh ka).alloc (.cells (S6 d0 r0 d1 r1 d2 r2 d3 r3 d4 r4 m) 32))
 replace BB := hide ((uh BB).alloc (uh BB).size (.cells (S6 d0 r0 d1 r1 d2 r2 d3 r3 d4 r4 m) 32))
 have kx : Hid (Blk (w4.alloc (.cells (S6 d0 r0 d1 r1 d2 r2 d3 r3 d4 r4 m) 32)) w4.heap.size 32 (S6 d0 r0 d1 r1 d2 r2 d3 r3 d4 r4 m)) := hide (Blk.new _ _ _)
 generalize w4.alloc (.cells (S6 d0 r0 d1 r1 d2 r2 d3 r3 d4 r4 m) 32) = W at *
 generalize w4.heap.size = xb at *
 refine ck (implCrowded_any (uh Hq) (uh K4)) fun w5 hb => ?_
 replace K4 := hide ((uh K4).below hb)
 replace ka := bl ka hb
 replace kx := bl kx hb
 replace BB := bt BB hb
 clear hb
 have V5 := hide ((uh Hv).below (uh BB))
 obtain ⟨c0, c1, c2, c3, c4, c5⟩ := (uh ka).c6
 obtain ⟨x0, x1, x2, x3, x4, x5⟩ := (uh kx).c6
 cases q
 all_goals
  go_wp2_with fail
  go_region_with (first
   | (go_at_call 42; refine (toSmithy_any (m := m) ?_ (uh Hs)).mono ?_; exact (uh V5).below (alBrf _ _).drew; rintro e w6 ⟨u0, u1, u2, u3, u4, rfl, ho, hb⟩; have k6 := ho.smy; obtain ⟨f0, t0, rfl, _, _⟩ := IsRooms.shape k6.rooms; obtain ⟨f1, t1, rfl, _, _⟩ := IsRec.shape k6.guilds; obtain ⟨f2, t2, rfl, _, _⟩ := IsRec.shape k6.smiths; obtain ⟨f3, t3, rfl, _, _⟩ := IsRec.shape k6.desks; obtain ⟨f4, t4, rfl, _, _⟩ := IsRec.shape k6.paces; have K6 := hide k6; have Hb6 : Hid (Below w5.heap.size w5 w6) := hide ⟨hb.os, hb.tape, hb.output, hb.size, hb.block⟩; have kx6 := (uh kx).below (uh Hb6) (uh kx).lt; have y0 := kx6.cell (i := 0) (v := .slice d0 m.rooms.length r0) rfl; have y1 := kx6.cell (i := 1) (v := .slice d1 m.guilds.length r1) rfl; have y2 := kx6.cell (i := 2) (v := .slice d2 m.smiths.length r2) rfl; have y3 := kx6.cell (i := 3) (v := .slice d3 m.desks.length r3) rfl; have y4 := kx6.cell (i := 4) (v := .slice d4 m.paces.length r4) rfl; have y5 := kx6.cell (i := 5) (v := .int .i64 m.now) rfl; clear k6 ho hb kx6)
   | (go_at_call 43; refine (eqSmithy_yes (m := m) ?_ ?_).mono ?_; exact (uh K4).below (uh Hb6); exact uh K6; rintro e w7 ⟨rfl, hb⟩; have Hb7 := hide hb; clear hb))
  all_goals
   go_wp2_with fail
   go_ret
   exact ⟨rfl, (uh BB).trans (((uh Hb6).trans ((uh Hb7).mono (uh Hb6).size)).mono (uh BB).size)⟩
end Go.Proofs.YtgdpaigcmoifbaaGreat
