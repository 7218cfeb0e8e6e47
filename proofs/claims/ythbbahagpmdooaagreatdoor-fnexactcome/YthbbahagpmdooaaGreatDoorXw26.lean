/- Part 26 of what the proof rests on. No condition but those that a theorem names. -/
import Derived.Test.YthbbahagpmdooaaGreatDoorXw25
import Derived.Laws.CopyRow
set_option maxHeartbeats 8000000
set_option maxRecDepth 100000
namespace Go.Proofs.YthbbahagpmdooaaGreatDoor
open Go.ChangeShapes Go.WideShapes Go.ChangeAt Go.RowKit Go.Sort
set_option linter.unusedVariables false
set_option linter.unusedSimpArgs false
set_option maxRecDepth 100000
theorem own_hall_empty {B g : Nat} {w : World} (hg : g = w.heap.size) (hB : B ≤ g) : OwnHall B (w.alloc (.cells #[] 130)) (.slice (some ⟨g, 0, none⟩) 0 0) [] := by
 subst hg
 exact ⟨⟨by simp [rcells], .inr ⟨_, 0, #[], rfl, hB, heap_alloc_new w _, Nat.le_refl _, Nat.zero_le _, by simp, by simp [rcells]⟩⟩, fun _ h => (by cases h), fun _ h => (by cases h), List.Pairwise.nil⟩
theorem copied_any {w : World} {v : Value} {ps : List PaceV} (h : IsPaces w v ps) (hl : ps.length ≤ 1000) : Calls Tryz.prog 213 #[v] w fun e w' => ∃ v', e = .returned v' ∧ PacesAt w.heap.size w' v' ps ∧ Below w.heap.size w w' := by
 have HR := hide (IsPaces.rec (h.below ((Below.refl _ _).alloc (Nat.le_refl _) (.cells #[] 132))))
 obtain ⟨a, cap, rfl, hc, hm, hr⟩ := h
 clear hr
 go_enter Tryz.func213, Tryz.ntmps213
 go_wp2_with (at_builtin; refine wpList_append_recs tyPace rfl (.tmp 3) (.tmp 4) 235 Tryz.underlying235 rfl w.heap.size _ _ [] ps rfl rfl (recs_empty rfl (Nat.le_refl _)) (uh HR) (by simp; omega) (by simp) ?_; intro u9 w9 hp9 hg9 hat9; rw [List.nil_append] at hp9; have HP9 := hide hp9; have HG9 := hide hg9; clear hp9 hg9 hat9)
 have hb9 : Below w.heap.size w w9 := ((Below.refl _ _).alloc (Nat.le_refl _) _).trans ((Below.refl _ _).grown (uh HG9) (by simp) (fun i e => by cases e; exact Nat.le_refl _))
 go_wp2_with fail
 go_ret
 exact ⟨_, rfl, uh HP9, hb9⟩
theorem copyOfHall_any {w : World} {v : Value} {rs : List RoomV} (h : IsRooms w v rs) (hl : rs.length ≤ 1000) (hp : ∀ r ∈ rs, r.2.length ≤ 1000) :
  Calls Tryz.prog 159 #[.agg #[v]] w fun e w' => ∃ v' qs, e = .returned (.agg #[v']) ∧ qs.map (·.1) = rs ∧ OwnHall w.heap.size w' v' qs ∧ Below w.heap.size w w' := by
 obtain ⟨a, cap, rfl, hc, hm, hr⟩ := h
 have Hr := hide hr
 have HP := hide hp
 clear hr hp
 go_enter Tryz.func159, Tryz.ntmps159
 go_wp2_with fail
 go_loopw [3, 10] (fun u i wr => ∃ (k : Nat) (qs : List (RoomV × Value)) (ua : Option Addr) (uc : Nat), k ≤ rs.length ∧ i = .int .i64 k ∧ u = .slice ua k uc ∧ Blk wr (w.heap.size + 1) 26 #[.slice none 0 0] ∧ OwnHall (w.heap.size + 2) wr (.slice ua k uc) qs ∧ qs.map (·.1) = rs.take k ∧ Below w.heap.size w wr) (fun _ i _ => rs.length - (intOf i).toNat)
 case atStart =>
  refine ⟨0, [], _, _, Nat.zero_le _, rfl, rfl, ?_, own_hall_empty (by simp) (by simp), rfl, (((Below.refl _ _).alloc (Nat.le_refl _) _).alloc (by simp) _).alloc (by simp; omega) _⟩
  have k := Blk.new (w.alloc (.cells #[.slice a rs.length cap] 26)) 26 #[.slice none 0 0]
  rw [World.size_alloc] at k
  exact k.alloc _
 case round =>
  obtain ⟨k, qs, ua, uc, hk, rfl, rfl, kr, ho, hq, hb⟩ := hrel
  have hql : qs.length = k := by have := congrArg List.length hq; simp at this; omega
  have Hql := hide hql
  clear hql
  have Kr := hide kr
  have Ho := hide ho
  have Hq := hide hq
  have Hb := hide hb
  have hsz := kr.lt
  by_cases hlt : k < rs.length
  ·have hlt1 : (k : Int) < (rs.length : Int) := by omega
   rcases uh Hr with e0 | ⟨b, off, rfl, hbw, hcl⟩
   ·rw [e0] at hlt; simp at hlt
   obtain ⟨c0, pv, c1, hpv⟩ := hcl k hlt
   rw [← hb.cell (p := ⟨b, off + k * 2, none⟩) hbw] at c0
   rw [← hb.cell (p := ⟨b, off + k * 2 + 1, none⟩) hbw] at c1
   have Hpv := hide (hpv.below (hb.mono (Nat.le_refl _)))
   have hpl := uh HP (roomAt rs k) (by unfold roomAt; simp [List.getD, hlt])
   have Htk : Hid (rs.take (k + 1) = rs.take k ++ [roomAt rs k]) := hide (by rw [List.take_succ_eq_append_getElem hlt]; unfold roomAt; simp [List.getD, hlt])
   generalize roomAt rs k = r at *
   obtain ⟨n, ps⟩ := r
   simp only at c0 hpl hpv
   obtain ⟨pa, pc, rfl, _, _, _⟩ := hpv
   have hbw' : b < wr.heap.size := by have := hb.size; omega
   clear hcl kr ho hq hb
   go_wp2_with fail
   clear c0 c1
   have hba : Below wr.heap.size wr (wr.alloc (.cells #[.int .i64 n, .slice pa ps.length pc] 130)) := (Below.refl _ _).alloc (Nat.le_refl _) _
   have KB : Hid (Blk (wr.alloc (.cells #[.int .i64 n, .slice pa ps.length pc] 130)) wr.heap.size 130 #[.int .i64 n, .slice pa ps.length pc]) := hide (Blk.new wr _ _)
   replace Kr := bl Kr hba
   have HLB : Hid (∀ i, (Value.slice ua k uc).ownBlock = some i → i < wr.heap.size) := hide (fun i e => ((uh Ho).lt (.inl e)).2)
   replace Ho := hide ((uh Ho).later hba)
   replace Hb := hide ((uh Hb).trans (hba.mono (uh Hb).size))
   replace Hpv := hide ((uh Hpv).below hba)
   have hsz2 : w.heap.size + 2 ≤ (wr.alloc (.cells #[.int .i64 n, .slice pa ps.length pc] 130)).heap.size := by have := (uh Kr).lt; simp at this ⊢; omega
   clear hba
   generalize wr.alloc (.cells #[.int .i64 n, .slice pa ps.length pc] 130) = X at *
   generalize wr.heap.size = rb at *
   have s0 := (uh KB).cell (i := 0) (v := .int .i64 n) rfl
   have s1 := (uh KB).cell (i := 1) (v := .slice pa ps.length pc) rfl
   refine wp_region_last (S := fun w' => w'.cell? ⟨rb, 0, none⟩ = some (.int .i64 n) ∧ w'.cell? ⟨rb, 1, none⟩ = some (.slice pa ps.length pc)) (by kernel_rfl) (List.cons_ne_nil _ _) (by kernel_rfl) ⟨s0, s1⟩ (fun hHeld => ?_)
   simp only [List.dropLast_cons_cons, List.dropLast_singleton, List.length_cons, List.length_nil, Nat.zero_add, Nat.reduceAdd]
   (refine tk 0 rfl (by assumption) ?_; (try simp only [Act.put, sA, sZ, sS]))
   (refine tk 1 rfl (by assumption) ?_; (try simp only [Act.put, sA, sZ, sS]))
   (refine tk 2 rfl (by assumption) ?_; (try simp only [Act.put, sA, sZ, sS]))
   (refine tk 3 rfl (by assumption) ?_; (try simp only [Act.put, sA, sZ, sS]))
   (refine tk 4 rfl (by assumption) ?_; (try simp only [Act.put, sA, sZ, sS]))
   refine rd 5 rfl (fun K hK => ?_)
   go_simp
   refine (copied_any ((uh Hpv).below (Below.refl _ _).drew) hpl).mono ?_
   rintro e9 w4 ⟨v4, rfl, hp4, hb4⟩
   obtain ⟨pa4, pc4, rfl⟩ := PacesAt.shape hp4
   have X4 : Below X.heap.size X w4 := (Below.refl X.heap.size X).drew.trans hb4
   have HO4 : Hid (PacesAt X.heap.size w4 (.slice pa4 ps.length pc4) ps) := hide hp4
   have HX4 := hide X4
   have hz4 := X4.size
   have t0 := (X4.cell (p := ⟨rb, 0, none⟩) (uh KB).lt).trans s0
   have t1 := (X4.cell (p := ⟨rb, 1, none⟩) (uh KB).lt).trans s1
   clear hp4 hb4 X4
   refine hK.out _ _ ⟨t0, t1⟩ (fun hHeld => ?_)
   clear hK K
   (try simp only [Act.put, sA, sZ, sS])
   (refine tk 6 rfl (by assumption) ?_; (try simp only [Act.put, sA, sZ, sS]))
   have KB5 := ((uh KB).below (uh HX4) (uh KB).lt).alloc (.cells #[.int .i64 n, .slice pa4 ps.length pc4] 130)
   have u0 := KB5.cell (i := 0) (v := .int .i64 n) rfl
   have u1 := KB5.cell (i := 1) (v := .slice pa ps.length pc) rfl
   refine rd 7 rfl (fun K hK => ?_)
   go_simp
   refine hK.out _ _ ⟨u0, u1⟩ (fun hHeld => ?_)
   clear hK K
   (try simp only [Act.put, sA, sZ, sS])
   obtain ⟨v5, w5, hrun5, hown5, hg5, hat5⟩ := run_append_room (w := w4.alloc (.cells #[.int .i64 n, .slice pa4 ps.length pc4] 130)) (t := 24) (ty := 24) (base := w.heap.size + 2) (v := .slice ua k uc) (n := k) (xs := rcells qs) Tryz.underlying24 (World.ownsRow.alloc (by have h9 := ((uh Ho).later (uh HX4)).row; rw [uh Hql] at h9; exact h9) _) (g := w4.heap.size) (c := 1) (cell_new w4 (i := 0) rfl) (cell_new w4 (i := 1) rfl) rfl (by omega) (by simp; omega)
   obtain ⟨a5, c5, rfl⟩ := own_shape hown5
   have hn5 : ∀ i, (Value.slice ua k uc).ownBlock = some i → w.heap.size + 2 ≤ i ∧ i < X.heap.size := fun i e => (uh Ho).lt (.inl e)
   have hrbX := (uh KB).lt
   have RB : Hid (∀ i, (Value.slice ua k uc).ownBlock = some i → i ≠ rb) := hide (fun i e e2 => by have := uh HLB i e; omega)
   have KB6 := KB5.same (w' := w5) (hg5.block _ KB5.lt (fun e => uh RB _ e.symm rfl))
   have y0 := KB6.cell (i := 0) (v := .int .i64 n) rfl
   have y1 := KB6.cell (i := 1) (v := .slice pa ps.length pc) rfl
   have HO5 := hide hown5
   have HG5 := hide hg5
   have HA5 := hide hat5
   have R5 := hide hrun5
   have X5 : Hid (Below (w.heap.size + 2) X w5) := hide (by
    have q1 : Below X.heap.size X w4 := uh HX4
    have q2 : Below w4.heap.size w4 (w4.alloc (.cells #[.int .i64 n, .slice pa4 ps.length pc4] 130)) := (Below.refl _ _).alloc (Nat.le_refl _) _
    have q3 : Below (w.heap.size + 2) (w4.alloc (.cells #[.int .i64 n, .slice pa4 ps.length pc4] 130)) w5 := (Below.refl _ _).grown (uh HG5) (by have := q1.size; simp; omega) (fun i e => ((uh Ho).lt (.inl e)).1)
    exact ((q1.mono (by omega)).trans (q2.mono (by have := q1.size; omega))).trans q3)
   have hp5 : OwnHall (w.heap.size + 2) w5 (.slice a5 (k + 1) c5) (qs ++ [((n, ps), .slice pa4 ps.length pc4)]) := by
    have q1 : OwnHall (w.heap.size + 2) w4 (.slice ua k uc) qs := (uh Ho).later (uh HX4)
    have q2 : PacesAt X.heap.size w4 (.slice pa4 ps.length pc4) ps := uh HO4
    have q3 : PacesAt (w.heap.size + 2) w4 (.slice pa4 ps.length pc4) ps := q2.mono (by omega)
    refine OwnHall.push (w := w4) (w1 := w5) (v := .slice ua k uc) (o := .cells #[.int .i64 n, .slice pa4 ps.length pc4] 130) q1 q3 ?_ ?_ ?_ (uh HG5) (uh HA5)
    ·intro b' e e'
     have h8 := (q2.lt e).1
     have h9 := ((uh Ho).lt (.inl e')).2
     omega
    ·intro q hq' b' e e'
     have h8 := (q2.lt e').1
     have h9 := ((uh Ho).lt (.inr ⟨q, hq', e⟩)).2
     omega
    ·rw [uh Hql]; exact uh HO5
   have HP5 := hide hp5
   clear hp5 hown5 hg5 hat5 hrun5 KB5 KB6
   refine rd 8 rfl (fun K hK => ?_)
   refine step_append_run rfl (.tmp 14) (.tmp 21) 24 rfl rfl rfl (uh R5) ?_
   refine hK.out _ _ ⟨y0, y1⟩ (fun hHeld => ?_)
   clear hK K
   (try simp only [Act.put, sA, sZ, sS])
   refine wpAnyH_done (by kernel_rfl) ?_ _
   refine tailQ_run rfl rfl ?_
   go_simp
   clear hHeld
   go_wp2_with fail
   go_roundw
   case rel =>
    exact ⟨k + 1, qs ++ [((n, ps), .slice pa4 ps.length pc4)], a5, c5, by omega, by go_num, rfl, (uh Kr).below (uh X5) (by omega), uh HP5, by rw [List.map_append, uh Hq, uh Htk]; rfl, (uh Hb).trans ((uh X5).mono (by omega))⟩
   case measure => simp [intOf]; omega
  ·obtain rfl : k = rs.length := by omega
   have r0 := kr.cell (i := 0) rfl
   have r1 := kr.free 0
   go_wp2_with fail
   rw [List.take_length] at hq
   refine bodyPost_ret (v := .agg #[.slice ua rs.length uc]) (by simp [results, Tryz.results159, go_sem, *]) rfl ⟨_, qs, rfl, hq, ?_, ?_⟩
   ·exact (ho.same fun i h0 hi => heap_setCell_other _ _ _ _ (by show i ≠ w.heap.size + 1; omega)).mono (by omega)
   ·exact hb.setCell (by show _ ≤ w.heap.size + 1; omega) _
set_option maxRecDepth 100000
theorem slice_cut (a : Option Addr) (n cap k : Nat) (hn : n = k + 1) (hc : n ≤ cap) (W : World) : (Instr.slice 191 (.slice a n cap) (some (.int .i64 1)) (some (.int .i64 (n : Int))) (some (.int .i64 (n : Int)))).run Tryz.prog W = .ok (.slice (if k = 0 then a else a.map (·.add 2)) k k) W := by
 obtain ⟨i0, hi, hz0, hz1, hz2⟩ := info_parts infoEntry
 have hs : ∀ W, (sizeOf 194).run Tryz.prog W = .ok 2 W := fun W => by simp [sizeOf, typeInfo, hi, hz1]
 have hb : ∀ W, (Instr.sliceBounds true n cap (some (.int .i64 1)) (some (.int .i64 (n : Int))) (some (.int .i64 (n : Int)))).run Tryz.prog W = .ok (1, n, n) W := fun W => by
  have h1 : (0 : Int) ≤ (n : Int) ∧ (n : Int) ≤ (cap : Int) := by omega
  have h2 : (0 : Int) ≤ (n : Int) ∧ (n : Int) ≤ (n : Int) := by omega
  have h3 : (0 : Int) ≤ 1 ∧ (1 : Int) ≤ (n : Int) := by omega
  simp only [Instr.sliceBounds, Instr.sliceBound, asIntOf, Sem.run_bind, Sem.run_pure, Result.andThen_ok, if_pos h1, if_pos h2, if_pos h3, Int.toNat_natCast]
  rfl
 simp only [Instr.slice, Sem.run_bind, run_underlying Tryz.underlying191, Result.andThen, hb, hs, Sem.run_pure]
 have e1 : (n = 1) = (k = 0) := by apply propext; omega
 rw [show n - 1 = k by omega]
 simp only [e1, Nat.one_mul]
theorem IsPaces.behind {w : World} {a : Option Addr} {n cap : Nat} {e : PaceV} {t : List PaceV} (h : IsPaces w (.slice a n cap) (e :: t)) : IsPaces w (.slice (if t.length = 0 then a else a.map (·.add 2)) t.length t.length) t := by
 obtain ⟨a', cap', he, hc, hm, hr⟩ := h
 cases he
 rw [List.length_cons] at hc
 refine ⟨_, t.length, rfl, Nat.le_refl _, by omega, ?_⟩
 by_cases h0 : t.length = 0
 ·exact .inl (List.eq_nil_of_length_eq_zero h0)
 ·rcases hr with hr | ⟨b, off, rfl, hlt, hcl⟩
  ·cases hr
  ·rw [if_neg h0]
   refine .inr ⟨b, off + 2, by simp [addr_at], hlt, fun j hj => ?_⟩
   have := hcl (j + 1) (by simp; omega)
   rw [show off + (j + 1) * 2 = off + 2 + j * 2 by omega] at this
   exact this
theorem run_copy_ents {w : World} {g base sc : Nat} {sp : Option Addr} {ps : List PaceV} {xs : List Value} (ty : TypeId) (hd : w.ownsRow base 194 2 (.slice (some ⟨g, 0, none⟩) ps.length ps.length) ps.length xs) (hs : IsPaces w (.slice sp ps.length sc) ps) :
  ∃ w', (Builtin.copy_ #[191, 191] ty #[.slice (some ⟨g, 0, none⟩) ps.length ps.length, .slice sp ps.length sc]).run Tryz.prog w = .ok (goInt ps.length) w' ∧ EntsAt base w' (.slice (some ⟨g, 0, none⟩) ps.length ps.length) ps ∧ Below base w w' := by
 obtain ⟨i0, hi, hz0, hz1, hz2⟩ := info_parts infoEntry
 rcases hd.2 with ⟨he, _⟩ | ⟨g', cap, cur, he, hb, hg, hnc, hcm, hsz, htk⟩
 ·cases he
 cases he
 have hpl := pcells_len ps
 obtain ⟨a', cap', he, hc, hm, hr⟩ := hs
 cases he
 have hload : (Builtin.firstCells 2 ps.length (.slice sp ps.length sc)).run Tryz.prog w = .ok (pcells ps).toArray w := by
  rcases hr with hr | ⟨b, off, rfl, hlt, hcl⟩
  ·subst hr
   cases sp with
   | none => rfl
   | some ad =>
    have := run_loadCells_list (P := Tryz.prog) w ad (pcells []) (fun j v h => by simp [pcells] at h)
    exact this
  ·have := run_loadCells_list (P := Tryz.prog) w ⟨b, off, none⟩ (pcells ps) (fun j v h => by
    have hj : j < ps.length * 2 := by
     have := (List.getElem?_eq_some_iff.1 h).1
     omega
    have hp := pairs_get (f := fun p : PaceV => Value.int .i64 p.1) (g := fun p : PaceV => Value.int .i64 p.2) ps (j / 2) (by omega)
    have hat : paceAt ps (j / 2) = ps[j / 2]'(by omega) := by unfold paceAt; simp [List.getD, (by omega : j / 2 < ps.length)]
    obtain ⟨c0, c1⟩ := hcl (j / 2) (by omega)
    rw [hat] at c0 c1
    have ha : (⟨b, off, none⟩ : Addr).add j = ⟨b, off + j, none⟩ := by unfold Addr.add; split <;> simp_all
    rw [ha]
    rcases Nat.mod_two_eq_zero_or_one j with e2 | e2
    ·have ej : j = j / 2 * 2 := by omega
     have h9 : (pcells ps)[j / 2 * 2]? = some (.int .i64 (ps[j / 2]'(by omega)).1) := hp.1
     rw [← ej, h] at h9
     cases h9
     rw [show off + j = off + j / 2 * 2 by omega]
     exact c0
    ·have ej : j = j / 2 * 2 + 1 := by omega
     have h9 : (pcells ps)[j / 2 * 2 + 1]? = some (.int .i64 (ps[j / 2]'(by omega)).2) := hp.2
     rw [← ej, h] at h9
     cases h9
     rw [show off + j = off + j / 2 * 2 + 1 by omega]
     exact c1)
   rw [hpl] at this
   exact this
 have hst := run_storeCells_at Tryz.prog g 0 194 (pcells ps) 0 cur w hg (by rw [hpl, hsz]; omega) (fun v hv => by
  unfold pcells at hv
  obtain ⟨p, _, hp⟩ := List.mem_flatMap.1 hv
  simp only [List.mem_cons, List.not_mem_nil, or_false] at hp
  rcases hp with rfl | rfl <;> rfl)
 have hdrop : cur.toList.drop (pcells ps).length = [] := by
  rw [List.drop_eq_nil_iff, Array.length_toList, hsz, hpl]; exact Nat.le_refl _
 simp only [Nat.zero_add, List.take_zero, List.nil_append, hdrop, List.append_nil] at hst
 refine ⟨w.setRow g (pcells ps).toArray, ?_, ⟨hpl, .inr ⟨g, ps.length, (pcells ps).toArray, rfl, hb, setRow_heap w g _ _ _ _ hg, Nat.le_refl _, hcm, by simp [hpl], ?_⟩⟩, ?_⟩
 ·have hsz2 : (sizeOf 194).run Tryz.prog w = .ok 2 w := by simp [sizeOf, typeInfo, hi, hz1]
  have hlen : (Builtin.lenOf (.slice sp ps.length sc)).run Tryz.prog w = .ok ps.length w := rfl
  have hmin : Nat.min ps.length ps.length = ps.length := Nat.min_self _
  unfold Builtin.copy_
  simp only [Sem.run_bind, run_underlying Tryz.underlying191, Result.andThen_ok, hlen, hmin, hsz2, hload, List.getElem?_toArray, List.getElem?_cons_zero, List.getElem?_cons_succ, Sem.run_pure, hst]
 ·rw [List.take_of_length_le (by simp [hpl])]
 ·exact ⟨rfl, rfl, rfl, by simp [World.setRow], fun k hk => setRow_other w g k _ (by omega)⟩
theorem waitingIn_any {w : World} {v : Value} {e : PaceV} {t : List PaceV} (h : IsPaces w v (e :: t)) (hl : t.length ≤ 1000) : Calls Tryz.prog 217 #[v] w fun e w' => ∃ v', e = .returned v' ∧ EntsAt w.heap.size w' v' t ∧ Below w.heap.size w w' := by
 have Hv := hide h
 obtain ⟨a, cap, rfl, hc, hm, hr⟩ := h
 obtain ⟨n, hn⟩ : ∃ n, n = t.length + 1 := ⟨_, rfl⟩
 rw [show (e :: t).length = n by rw [hn]; rfl] at Hv hc ⊢
 have hcut := fun W => slice_cut a n cap t.length hn hc W
 have HB := hide (uh Hv).behind
 obtain ⟨sp, hsp⟩ : ∃ q, (if t.length = 0 then a else a.map (·.add 2)) = q := ⟨_, rfl⟩
 rw [hsp] at HB
 simp only [hsp] at hcut
 have hn1 : n ≤ 1001 := by omega
 clear hr hn hsp
 obtain ⟨i0, hi, hz0, hz1, hz2⟩ := info_parts infoEntry
 go_enter Tryz.func217, Tryz.ntmps217
 go_upto_region 3 with (at_make; refine wpList_make_full _ rfl _ _ 191 rfl w.heap.size 194 i0 (.agg #[.int .i64 0, .int .i64 0]) 2 Tryz.underlying191 hi hz0 hz1 _ _ _ _ t.length rfl rfl rfl rfl (by rw [hz2]; omega) (by unfold maxLen; omega) (Nat.le_refl _) ?_; intro w0 hown hgrow; have HBB : Hid (Below w.heap.size w w0) := hide ((Below.refl _ _).grown hgrow (Nat.le_refl _) (fun k e => by cases e)); obtain ⟨w9, hrun, he9, hb9⟩ := run_copy_ents 3 hown ((uh HB).below (uh HBB)); have HR := hide hrun; have HE := hide he9; have HB9 := hide hb9; clear hown hgrow hrun he9 hb9)
 have hr9 := uh HR
 go_wp2_with fail
 go_ret
 exact ⟨_, rfl, uh HE, (uh HBB).trans (uh HB9)⟩
theorem copiedGuild_any {w : World} {v : Value} {ps : List GuildV} (h : IsGuilds w v ps) (hl : ps.length ≤ 1000) : Calls Tryz.prog 160 #[v] w fun e w' => ∃ v', e = .returned v' ∧ GuildsAt w.heap.size w' v' ps ∧ Below w.heap.size w w' := by
 have HR := hide (h.below ((Below.refl _ _).alloc (Nat.le_refl _) (.cells #[] 82)))
 obtain ⟨a, cap, rfl, hc, hm, hr⟩ := h
 clear hr
 go_enter Tryz.func160, Tryz.ntmps160
 go_wp2_with (at_builtin; refine wpList_append_recs tyG rfl (.tmp 3) (.tmp 4) 173 Tryz.underlying173 rfl w.heap.size _ _ [] ps rfl rfl (recs_empty rfl (Nat.le_refl _)) (uh HR) (by simp; omega) (by simp) ?_; intro u9 w9 hp9 hg9 hat9; rw [List.nil_append] at hp9; have HP9 := hide hp9; have HG9 := hide hg9; clear hp9 hg9 hat9)
 have hb9 : Below w.heap.size w w9 := ((Below.refl _ _).alloc (Nat.le_refl _) _).trans ((Below.refl _ _).grown (uh HG9) (by simp) (fun i e => by cases e; exact Nat.le_refl _))
 go_wp2_with fail
 go_ret
 exact ⟨_, rfl, uh HP9, hb9⟩
theorem copiedSmith_any {w : World} {v : Value} {ps : List SmithV} (h : IsSmiths w v ps) (hl : ps.length ≤ 1000) : Calls Tryz.prog 161 #[v] w fun e w' => ∃ v', e = .returned v' ∧ SmithsAt w.heap.size w' v' ps ∧ Below w.heap.size w w' := by
 have HR := hide (h.below ((Below.refl _ _).alloc (Nat.le_refl _) (.cells #[] 40)))
 obtain ⟨a, cap, rfl, hc, hm, hr⟩ := h
 clear hr
 go_enter Tryz.func161, Tryz.ntmps161
 go_wp2_with (at_builtin; refine wpList_append_recs tyS rfl (.tmp 3) (.tmp 4) 136 Tryz.underlying136 rfl w.heap.size _ _ [] ps rfl rfl (recs_empty rfl (Nat.le_refl _)) (uh HR) (by simp; omega) (by simp) ?_; intro u9 w9 hp9 hg9 hat9; rw [List.nil_append] at hp9; have HP9 := hide hp9; have HG9 := hide hg9; clear hp9 hg9 hat9)
 have hb9 : Below w.heap.size w w9 := ((Below.refl _ _).alloc (Nat.le_refl _) _).trans ((Below.refl _ _).grown (uh HG9) (by simp) (fun i e => by cases e; exact Nat.le_refl _))
 go_wp2_with fail
 go_ret
 exact ⟨_, rfl, uh HP9, hb9⟩
theorem copiedDesk_any {w : World} {v : Value} {ps : List DeskV} (h : IsDesks w v ps) (hl : ps.length ≤ 1000) : Calls Tryz.prog 163 #[v] w fun e w' => ∃ v', e = .returned v' ∧ DesksAt w.heap.size w' v' ps ∧ Below w.heap.size w w' := by
 have HR := hide (h.below ((Below.refl _ _).alloc (Nat.le_refl _) (.cells #[] 43)))
 obtain ⟨a, cap, rfl, hc, hm, hr⟩ := h
 clear hr
 go_enter Tryz.func163, Tryz.ntmps163
 go_wp2_with (at_builtin; refine wpList_append_recs tyD rfl (.tmp 3) (.tmp 4) 176 Tryz.underlying176 rfl w.heap.size _ _ [] ps rfl rfl (recs_empty rfl (Nat.le_refl _)) (uh HR) (by simp; omega) (by simp) ?_; intro u9 w9 hp9 hg9 hat9; rw [List.nil_append] at hp9; have HP9 := hide hp9; have HG9 := hide hg9; clear hp9 hg9 hat9)
 have hb9 : Below w.heap.size w w9 := ((Below.refl _ _).alloc (Nat.le_refl _) _).trans ((Below.refl _ _).grown (uh HG9) (by simp) (fun i e => by cases e; exact Nat.le_refl _))
 go_wp2_with fail
 go_ret
 exact ⟨_, rfl, uh HP9, hb9⟩
theorem copiedNum_any {w : World} {v : Value} {ps : List Int} (h : IsNums w v ps) (hl : ps.length ≤ 1000) : Calls Tryz.prog 164 #[v] w fun e w' => ∃ v', e = .returned v' ∧ NumsAt w.heap.size w' v' ps ∧ Below w.heap.size w w' := by
 have HR := hide (h.below ((Below.refl _ _).alloc (Nat.le_refl _) (.cells #[] 2)))
 obtain ⟨a, cap, rfl, hc, hm, hr⟩ := h
 clear hr
 go_enter Tryz.func164, Tryz.ntmps164
 go_wp2_with (at_builtin; refine wpList_append_recs tyN rfl (.tmp 3) (.tmp 4) 179 Tryz.underlying179 rfl w.heap.size _ _ [] ps rfl rfl (recs_empty rfl (Nat.le_refl _)) (uh HR) (by simp; omega) (by simp) ?_; intro u9 w9 hp9 hg9 hat9; rw [List.nil_append] at hp9; have HP9 := hide hp9; have HG9 := hide hg9; clear hp9 hg9 hat9)
 have hb9 : Below w.heap.size w w9 := ((Below.refl _ _).alloc (Nat.le_refl _) _).trans ((Below.refl _ _).grown (uh HG9) (by simp) (fun i e => by cases e; exact Nat.le_refl _))
 go_wp2_with fail
 go_ret
 exact ⟨_, rfl, uh HP9, hb9⟩
theorem copyOfSmithy_any {w : World} {v0 v1 v2 v3 v4 : Value} {m : SmyV} (h : Smy w v0 v1 v2 v3 v4 m) (hF : Few m) :
  Calls Tryz.prog 100 #[.agg #[v0, v1, v2, v3, v4, .int .i64 m.now]] w fun e w' => ∃ u0 u1 u2 u3 u4 qs, e = .returned (.agg #[u0, u1, u2, u3, u4, .int .i64 m.now]) ∧ FullSmy w.heap.size w' u0 u1 u2 u3 u4 m qs ∧ Below w.heap.size w w' := by
 have Hv0 := hide h
 have HF := hide hF
 obtain ⟨a0, p0, a1, p1, a2, p2, a3, p3, a4, p4, rfl, rfl, rfl, rfl, rfl, _, _, _, _, _, _, _, _, _, _⟩ := h.five
 clear h hF
 go_enter Tryz.func100, Tryz.ntmps100
 go_wp2_with fail
 obtain ⟨W, hW, kb, kr, BB⟩ := two_boxes w 32 (S6 a0 p0 a1 p1 a2 p2 a3 p3 a4 p4 m) 32 E6
 rw [hW]
 clear hW
 obtain ⟨c0, c1, c2, c3, c4, c5⟩ := (uh kb).c6
 refine wp_region_last (S := fun w' => w'.cell? ⟨w.heap.size, 0, none⟩ = some (.slice a0 m.rooms.length p0) ∧ w'.cell? ⟨w.heap.size, 1, none⟩ = some (.slice a1 m.guilds.length p1) ∧ w'.cell? ⟨w.heap.size, 2, none⟩ = some (.slice a2 m.smiths.length p2) ∧ w'.cell? ⟨w.heap.size, 3, none⟩ = some (.slice a3 m.desks.length p3) ∧ w'.cell? ⟨w.heap.size, 4, none⟩ = some (.slice a4 m.paces.length p4) ∧ w'.cell? ⟨w.heap.size, 5, none⟩ = some (.int .i64 m.now)) (by kernel_rfl) (List.cons_ne_nil _ _) (by kernel_rfl) ⟨c0, c1, c2, c3, c4, c5⟩ (fun hHeld => ?_)
 replace kb := hide ((uh kb).below (Below.refl _ _).drew (uh kb).lt)
 replace kr := hide ((uh kr).below (Below.refl _ _).drew (uh kr).lt)
 replace BB := hide ((uh BB).drew)
 have Hv := hide ((uh Hv0).below (uh BB))
 clear c0 c1 c2 c3 c4 c5
 simp only [List.dropLast_cons_cons, List.dropLast_singleton, List.length_cons, List.length_nil, Nat.zero_add, Nat.reduceAdd]
 generalize W.drew = X0 at *
 have hz0 : w.heap.size + 2 ≤ X0.heap.size := by have := (uh kr).lt; omega
 (refine tk 0 rfl (by assumption) ?_; (try simp only [Act.put, sA, sZ, sS]))
 (refine tk 1 rfl (by assumption) ?_; (try simp only [Act.put, sA, sZ, sS]))
 (refine tk 3 rfl (by assumption) ?_; (try simp only [Act.put, sA, sZ, sS]))
 (refine tk 4 rfl (by assumption) ?_; (try simp only [Act.put, sA, sZ, sS]))
 (refine tk 6 rfl (by assumption) ?_; (try simp only [Act.put, sA, sZ, sS]))
 (refine tk 9 rfl (by assumption) ?_; (try simp only [Act.put, sA, sZ, sS]))
 (refine tk 12 rfl (by assumption) ?_; (try simp only [Act.put, sA, sZ, sS]))
 (refine tk 13 rfl (by assumption) ?_; (try simp only [Act.put, sA, sZ, sS]))
 (refine tk 15 rfl (by assumption) ?_; (try simp only [Act.put, sA, sZ, sS]))
 (refine tk 16 rfl (by assumption) ?_; (try simp only [Act.put, sA, sZ, sS]))
 refine rd 2 rfl (fun K hK => ?_)
 go_simp
 refine (copyOfHall_any (uh Hv).rooms (uh HF).rooms (uh HF).paces).mono ?_
 rintro e9 X1 ⟨u0, qs, rfl, hmap, hp, hb⟩
 replace Hv := hide ((uh Hv).below hb)
 replace kb := bl kb hb
 replace kr := bl kr hb
 replace BB := bt BB hb
 have Hmap := hide hmap
 have hql : qs.length = m.rooms.length := by rw [← hmap, List.length_map]
 obtain ⟨b0, q0, hu0⟩ : ∃ b0 q0, u0 = .slice b0 m.rooms.length q0 := by
  obtain ⟨a9, c9, e9⟩ := hp.shape
  exact ⟨a9, c9, by rw [e9, hql]⟩
 subst hu0
 have N0 : Hid (OwnHall (w.heap.size + 2) X1 (.slice b0 m.rooms.length q0) qs) := hide (hp.mono hz0)
 have L0 : Hid (∀ b, ((Value.slice b0 m.rooms.length q0).ownBlock = some b ∨ ∃ q ∈ qs, q.2.ownBlock = some b) → b < X1.heap.size) := hide (fun b e => (hp.lt e).2)
 have hz1 : w.heap.size + 2 ≤ X1.heap.size := by have := hb.size; omega
 clear hmap hql hp hb
 refine hK.out _ _ (uh kb).c6 (fun hHeld => ?_)
 clear hK K
 (try simp only [Act.put, sA, sZ, sS])
 refine rd 5 rfl (fun K hK => ?_)
 go_simp
 refine (copiedGuild_any (uh Hv).guilds (uh HF).guilds).mono ?_
 rintro e9 X2 ⟨u1, rfl, hp, hb⟩
 replace Hv := hide ((uh Hv).below hb)
 replace kb := bl kb hb
 replace kr := bl kr hb
 replace BB := bt BB hb
 replace N0 := hide ((uh N0).later hb)
 obtain ⟨b1, q1, hu1⟩ := RecAt.shape hp
 subst hu1
 have N1 : Hid (GuildsAt (w.heap.size + 2) X2 (.slice b1 m.guilds.length q1) m.guilds) := hide (RecAt.mono hp (by omega))
 have L1 : Hid (∀ b, (Value.slice b1 m.guilds.length q1).ownBlock = some b → X1.heap.size ≤ b ∧ b < X2.heap.size) := hide (fun b e => RecAt.lt hp e)
 have hsX2 := hb.size
 clear hp hb
 refine hK.out _ _ (uh kb).c6 (fun hHeld => ?_)
 clear hK K
 (try simp only [Act.put, sA, sZ, sS])
 refine rd 7 rfl (fun K hK => ?_)
 go_simp
 refine (smithsOf_any _ _ _ _ _ _ _ _ _ _ _ _ _ _ _ _ _).mono ?_
 rintro e9 X3 ⟨rfl, hb⟩
 replace Hv := hide ((uh Hv).below hb)
 replace kb := bl kb hb
 replace kr := bl kr hb
 replace BB := bt BB hb
 replace N0 := hide ((uh N0).later hb)
 replace N1 := hide (RecAt.later (uh N1) hb)
 have hsX3 := hb.size
 clear hb
 refine hK.out _ _ (uh kb).c6 (fun hHeld => ?_)
 clear hK K
 (try simp only [Act.put, sA, sZ, sS])
 refine rd 8 rfl (fun K hK => ?_)
 go_simp
 refine (copiedSmith_any (uh Hv).smiths (Nat.le_trans (uh HF).smiths (by omega))).mono ?_
 rintro e9 X4 ⟨u2, rfl, hp, hb⟩
 replace Hv := hide ((uh Hv).below hb)
 replace kb := bl kb hb
 replace kr := bl kr hb
 replace BB := bt BB hb
 replace N0 := hide ((uh N0).later hb)
 replace N1 := hide (RecAt.later (uh N1) hb)
 obtain ⟨b2, q2, hu2⟩ := RecAt.shape hp
 subst hu2
 have N2 : Hid (SmithsAt (w.heap.size + 2) X4 (.slice b2 m.smiths.length q2) m.smiths) := hide (RecAt.mono hp (by omega))
 have L2 : Hid (∀ b, (Value.slice b2 m.smiths.length q2).ownBlock = some b → X3.heap.size ≤ b ∧ b < X4.heap.size) := hide (fun b e => RecAt.lt hp e)
 have hsX4 := hb.size
 clear hp hb
 refine hK.out _ _ (uh kb).c6 (fun hHeld => ?_)
 clear hK K
 (try simp only [Act.put, sA, sZ, sS])
 refine rd 10 rfl (fun K hK => ?_)
 go_simp
 refine (desksOf_any _ _ _ _ _ _ _ _ _ _ _ _ _ _ _ _ _).mono ?_
 rintro e9 X5 ⟨rfl, hb⟩
 replace Hv := hide ((uh Hv).below hb)
 replace kb := bl kb hb
 replace kr := bl kr hb
 replace BB := bt BB hb
 replace N0 := hide ((uh N0).later hb)
 replace N1 := hide (RecAt.later (uh N1) hb)
 replace N2 := hide (RecAt.later (uh N2) hb)
 have hsX5 := hb.size
 clear hb
 refine hK.out _ _ (uh kb).c6 (fun hHeld => ?_)
 clear hK K
 (try simp only [Act.put, sA, sZ, sS])
 refine rd 11 rfl (fun K hK => ?_)
 go_simp
 refine (copiedDesk_any (uh Hv).desks (uh HF).desks).mono ?_
 rintro e9 X6 ⟨u3, rfl, hp, hb⟩
 replace Hv := hide ((uh Hv).below hb)
 replace kb := bl kb hb
 replace kr := bl kr hb
 replace BB := bt BB hb
 replace N0 := hide ((uh N0).later hb)
 replace N1 := hide (RecAt.later (uh N1) hb)
 replace N2 := hide (RecAt.later (uh N2) hb)
 obtain ⟨b3, q3, hu3⟩ := RecAt.shape hp
 subst hu3
 have N3 : Hid (DesksAt (w.heap.size + 2) X6 (.slice b3 m.desks.length q3) m.desks) := hide (RecAt.mono hp (by omega))
 have L3 : Hid (∀ b, (Value.slice b3 m.desks.length q3).ownBlock = some b → X5.heap.size ≤ b ∧ b < X6.heap.size) := hide (fun b e => RecAt.lt hp e)
 have hsX6 := hb.size
 clear hp hb
 refine hK.out _ _ (uh kb).c6 (fun hHeld => ?_)
 clear hK K
 (try simp only [Act.put, sA, sZ, sS])
 refine rd 14 rfl (fun K hK => ?_)
 go_simp
 refine (copiedNum_any (uh Hv).paces (uh HF).nums).mono ?_
 rintro e9 X7 ⟨u4, rfl, hp, hb⟩
 replace Hv := hide ((uh Hv).below hb)
 replace kb := bl kb hb
 replace kr := bl kr hb
 replace BB := bt BB hb
 replace N0 := hide ((uh N0).later hb)
 replace N1 := hide (RecAt.later (uh N1) hb)
 replace N2 := hide (RecAt.later (uh N2) hb)
 replace N3 := hide (RecAt.later (uh N3) hb)
 obtain ⟨b4, q4, hu4⟩ := RecAt.shape hp
 subst hu4
 have N4 : Hid (NumsAt (w.heap.size + 2) X7 (.slice b4 m.paces.length q4) m.paces) := hide (RecAt.mono hp (by omega))
 have L4 : Hid (∀ b, (Value.slice b4 m.paces.length q4).ownBlock = some b → X6.heap.size ≤ b ∧ b < X7.heap.size) := hide (fun b e => RecAt.lt hp e)
 have hsX7 := hb.size
 clear hp hb
 refine hK.out _ _ (uh kb).c6 (fun hHeld => ?_)
 clear hK K
 (try simp only [Act.put, sA, sZ, sS])
 (refine tk 17 rfl (by assumption) ?_; (try simp only [Act.put, sA, sZ, sS]))
 obtain ⟨o0, o1, o2, o3, o4, o5⟩ := (uh kr).c6
 obtain ⟨f0, f1, f2, f3, f4, f5⟩ := (uh kr).f6
 refine wpAnyH_done (by kernel_rfl) ?_ _
 refine tailQ_run rfl rfl ?_
 go_simp
 clear hHeld
 have HFull : Hid (FullSmy (w.heap.size + 2) X7 (.slice b0 m.rooms.length q0) (.slice b1 m.guilds.length q1) (.slice b2 m.smiths.length q2) (.slice b3 m.desks.length q3) (.slice b4 m.paces.length q4) m qs) := hide (full_of X1.heap.size X2.heap.size X4.heap.size X6.heap.size (uh N0) (uh Hmap) (uh N1) (uh N2) (uh N3) (uh N4) (uh L0) (uh L1) (fun b e => by have := uh L2 b e; omega) (fun b e => by have := uh L3 b e; omega) (fun b e => (uh L4 b e).1) (by omega) (by omega) (by omega))
 go_wp2_with fail
 refine bodyPost_ret (v := .agg #[.slice b0 m.rooms.length q0, .slice b1 m.guilds.length q1, .slice b2 m.smiths.length q2, .slice b3 m.desks.length q3, .slice b4 m.paces.length q4, .int .i64 m.now]) (by simp [results, Tryz.results100, go_sem, *]) rfl ⟨_, _, _, _, _, qs, rfl, ?_, ?_⟩
 ·refine FullSmy.mono (n₀ := w.heap.size + 2) ?_ (by omega)
  iterate 6 (refine FullSmy.set ?_ _ _ _ (by omega))
  exact uh HFull
 ·iterate 6 (refine Below.setCell ?_ (by show _ ≤ w.heap.size + 1; omega) _)
  exact uh BB
theorem set_same {ss : List SmithV} {k : Nat} (hk : k < ss.length) : ss.set k (recAt ss k) = ss := by
 refine recs_ext (by simp) fun i hi => ?_
 rw [recAt_set hk]
 split
 ·rename_i e; rw [e]
 ·rfl
theorem SmithsAt.put {B n c g k i : Nat} {W : World} {ss : List SmithV} {x : SmithV} (h : SmithsAt B W (.slice (some ⟨g, 0, none⟩) n c) (ss.set k x)) (hn : n = ss.length) (hk : k < ss.length) (hi : i < 11) (u : Value) (y : SmithV) (hy : encSmith y = (encSmith x).set i u) : SmithsAt B (W.setCell ⟨g, k * 11 + i, none⟩ u) (.slice (some ⟨g, 0, none⟩) n c) (ss.set k y) := by
 have h1 := (RecAt.put1 encSmith_len (by omega) h (by simpa using hn) (j := k) (i := i) (by simpa using hk) hi u y (by rw [recAt_set hk, if_pos rfl]; exact hy)).1
 rwa [List.set_set] at h1
theorem Smy.other {w W : World} {v0 v1 v2 v3 v4 u : Value} {m : SmyV} {B : Nat} {ss : List SmithV} (h : Smy w v0 v1 v2 v3 v4 m) (hb : Below w.heap.size w W) (hs : SmithsAt B W u ss) : Smy W v0 v1 u v3 v4 { m with smiths := ss } := ⟨h.rooms.below hb, h.guilds.below hb, hs.list, h.desks.below hb, h.paces.below hb⟩
theorem Below.put6 {n : Nat} {w W : World} {R : Nat} (v0 v1 v2 v3 v4 v5 : Value) (h : Below n w W) (hR : n ≤ R) : Below n w ((((((W.setCell ⟨R, 0, none⟩ v0).setCell ⟨R, 1, none⟩ v1).setCell ⟨R, 2, none⟩ v2).setCell ⟨R, 3, none⟩ v3).setCell ⟨R, 4, none⟩ v4).setCell ⟨R, 5, none⟩ v5) := by
 iterate 6 (refine Below.setCell ?_ hR _)
 exact h
theorem RecAt.off6 {α : Type} [Inhabited α] {t k B : Nat} {enc : α → List Value} {W : World} {R : Nat} {v : Value} {xs : List α} (v0 v1 v2 v3 v4 v5 : Value) (h : RecAt t k enc B W v xs) (hR : ∀ i, v.ownBlock = some i → i ≠ R) : RecAt t k enc B ((((((W.setCell ⟨R, 0, none⟩ v0).setCell ⟨R, 1, none⟩ v1).setCell ⟨R, 2, none⟩ v2).setCell ⟨R, 3, none⟩ v3).setCell ⟨R, 4, none⟩ v4).setCell ⟨R, 5, none⟩ v5) v xs :=
 RecAt.same h fun i hi => by rw [heap_setCell_other _ _ _ _ (hR i hi), heap_setCell_other _ _ _ _ (hR i hi), heap_setCell_other _ _ _ _ (hR i hi), heap_setCell_other _ _ _ _ (hR i hi), heap_setCell_other _ _ _ _ (hR i hi), heap_setCell_other _ _ _ _ (hR i hi)]
set_option maxRecDepth 100000
theorem withWhoAt_any {w : World} {a0 a1 a2 a3 a4 : Option Addr} {p0 p1 p2 p3 p4 : Nat} {m : SmyV} {k : Nat} (b : Int) (h : Smy w (.slice a0 m.rooms.length p0) (.slice a1 m.guilds.length p1) (.slice a2 m.smiths.length p2) (.slice a3 m.desks.length p3) (.slice a4 m.paces.length p4) m) (hl : m.smiths.length ≤ 1000) (hk : k < m.smiths.length) : Calls Tryz.prog 274 #[.agg #[.slice a0 m.rooms.length p0, .slice a1 m.guilds.length p1, .slice a2 m.smiths.length p2, .slice a3 m.desks.length p3, .slice a4 m.paces.length p4, .int .i64 m.now], .int .i64 (k : Int), .int .i64 b] w fun e w' => ∃ g gc, e = .returned (.agg #[.slice a0 m.rooms.length p0, .slice a1 m.guilds.length p1, .slice (some ⟨g, 0, none⟩) m.smiths.length gc, .slice a3 m.desks.length p3, .slice a4 m.paces.length p4, .int .i64 m.now]) ∧ Smy w' (.slice a0 m.rooms.length p0) (.slice a1 m.guilds.length p1) (.slice (some ⟨g, 0, none⟩) m.smiths.length gc) (.slice a3 m.desks.length p3) (.slice a4 m.paces.length p4) (withM m (k : Int) b) ∧ Below w.heap.size w w' := by
 have Hv0 := hide h
 have hk1 : (k : Int) < (m.smiths.length : Int) := by omega
 clear h
 go_enter Tryz.func274, Tryz.ntmps274
 go_upto_region 1 with fail
 obtain ⟨W, hW, kb, kr, BB⟩ := two_boxes w 32 (S6 a0 p0 a1 p1 a2 p2 a3 p3 a4 p4 m) 32 E6
 have Hv := hide ((uh Hv0).below (uh BB))
 rw [hW]
 clear hW
 obtain ⟨c0, c1, c2, c3, c4, c5⟩ := (uh kb).c6
 go_wp2_with fail
 refine (smithsOf_any _ _ _ _ _ _ _ _ _ _ _ _ _ _ _ _ _).mono ?_
 rintro e w1 ⟨rfl, hb⟩
 replace kb := bl kb hb
 replace kr := bl kr hb
 replace Hv := hide ((uh Hv).below hb)
 replace BB := bt BB hb
 clear hb c0 c1 c2 c3 c4 c5
 go_wp2_with fail
 refine (copiedSmith_any (uh Hv).smiths hl).mono ?_
 rintro e w2 ⟨v2, rfl, hs, hb⟩
 have hlb := (uh kb).lt
 have hlr := (uh kr).lt
 have hlo := (uh BB).size
 replace kb := bl kb hb
 replace kr := bl kr hb
 replace BB := bt BB hb
 clear hb Hv
 obtain ⟨ga, gc, rfl⟩ := RecAt.shape hs
 obtain ⟨g, rfl, hg1, hg2, hcl, hfr⟩ := RecAt.view encSmith_len (by omega) hs rfl (by omega)
 have hgb : g ≠ w.heap.size := by omega
 have hgr : g ≠ w.heap.size + 1 := by omega
 have hbg : w.heap.size ≠ g := by omega
 have hrg : w.heap.size + 1 ≠ g := by omega
 have hwg : w.heap.size ≤ g := by omega
 have HS : Hid (SmithsAt (w.heap.size + 1) w2 (.slice (some ⟨g, 0, none⟩) m.smiths.length gc) (m.smiths.set k (recAt m.smiths k))) := hide (by rw [set_same hk]; exact RecAt.mono hs (by omega))
 have s0 := hcl k hk 0 _ rfl
 have s1 := hcl k hk 1 _ rfl
 have f0 := hfr (k * 11)
 have f1 := hfr (k * 11 + 1)
 simp only [Nat.add_zero] at s0
 clear hcl hfr hs hg1
 obtain ⟨c0, c1, c2, c3, c4, c5⟩ := (uh kb).c6
 obtain ⟨q0, q1, q2, q3, q4, q5⟩ := (uh kb).f6
 obtain ⟨o0, o1, o2, o3, o4, o5⟩ := (uh kr).c6
 obtain ⟨t0, t1, t2, t3, t4, t5⟩ := (uh kr).f6
 go_wp2_with fail
 refine bodyPost_ret (v := .agg #[.slice a0 m.rooms.length p0, .slice a1 m.guilds.length p1, .slice (some ⟨g, 0, none⟩) m.smiths.length gc, .slice a3 m.desks.length p3, .slice a4 m.paces.length p4, .int .i64 m.now]) (by simp [results, Tryz.results274, go_sem, *]) rfl ⟨g, gc, rfl, ?_, ?_⟩
 ·have h1 : SmithsAt (w.heap.size + 1) (w2.setCell ⟨w.heap.size, 2, none⟩ (.slice (some ⟨g, 0, none⟩) m.smiths.length gc)) (.slice (some ⟨g, 0, none⟩) m.smiths.length gc) (m.smiths.set k (recAt m.smiths k)) := RecAt.same (uh HS) (fun i e => by cases e; exact heap_setCell_other _ _ _ _ hgb)
  have h2 := h1.put rfl hk (i := 0) (by omega) (.int .i64 2) (2, (recAt m.smiths k).2) rfl
  have h3 := h2.put rfl hk (i := 1) (by omega) (.int .i64 b) (2, b, (recAt m.smiths k).2.2) rfl
  exact (uh Hv0).other (Below.put6 _ _ _ _ _ _ ((((uh BB).setCell (Nat.le_refl _) _).setCell (by show w.heap.size ≤ g; omega) _).setCell (by show w.heap.size ≤ g; omega) _) (Nat.le_succ _)) (RecAt.off6 (.slice a0 m.rooms.length p0) (.slice a1 m.guilds.length p1) (.slice (some ⟨g, 0, none⟩) m.smiths.length gc) (.slice a3 m.desks.length p3) (.slice a4 m.paces.length p4) (.int .i64 m.now) h3 (fun i e => by cases e; exact hgr))
 ·exact Below.put6 _ _ _ _ _ _ ((((uh BB).setCell (Nat.le_refl _) _).setCell (by show w.heap.size ≤ g; omega) _).setCell (by show w.heap.size ≤ g; omega) _) (Nat.le_succ _)
theorem want_neg {m : SmyV} {who q : Int} (h : wantOfV m who = q) : q = -1 ∨ (0 ≤ q ∧ smyB m = true ∧ whoB m who = true) := by
 subst h
 unfold wantOfV
 by_cases hh : (smyB m && whoB m who) = true
 ·right
  rw [if_pos hh]
  simp only [Bool.and_eq_true] at hh
  exact ⟨(wantV_bd m who).1, hh.1, hh.2⟩
 ·left; rw [if_neg hh]
theorem want_none {m : SmyV} {who b : Int} (h : wantOfV m who = -1) : coalWithOfV m who b = -1 := by
 unfold coalWithOfV
 unfold wantOfV at h
 have hb := (wantV_bd m who).1
 cases h1 : smyB m
 ·rfl
 ·cases h2 : whoB m who
  ·rfl
  ·have h9 : wantV m who = -1 := by simpa [h1, h2] using h
   omega
theorem implCoalWith_any {w : World} {v0 v1 v2 v3 v4 : Value} {m : SmyV} {who b q : Int} (hq : coalWithOfV m who b = q) (h : Smy w v0 v1 v2 v3 v4 m) : Calls Tryz.prog 222 #[.agg #[v0, v1, v2, v3, v4, .int .i64 m.now], .int .i64 who, .int .i64 b] w fun e w' => e = .returned (.int .i64 q) ∧ Below w.heap.size w w' := by
 have Hq := hide hq
 clear hq
 obtain ⟨wn, hwn⟩ : ∃ x, wantOfV m who = x := ⟨_, rfl⟩
 have Hwn := hide hwn
 clear hwn
 obtain ⟨a0, p0, a1, p1, a2, p2, a3, p3, a4, p4, rfl, rfl, rfl, rfl, rfl, K⟩ := Bx.new h
 clear h
 go_enter Tryz.func222, Tryz.ntmps222
 go_wp2_with fail
 generalize w.alloc (.cells #[.slice a0 m.rooms.length p0, .slice a1 m.guilds.length p1, .slice a2 m.smiths.length p2, .slice a3 m.desks.length p3, .slice a4 m.paces.length p4, .int .i64 m.now] 32) = W at *
 refine (implWantOf_any (uh Hwn) K.smy).mono ?_
 rintro e w1 ⟨rfl, hb⟩
 replace K := K.next hb
 clear hb
 rcases want_neg (uh Hwn) with rfl | ⟨hw0, hok, hwh⟩
 ·obtain rfl : q = -1 := (uh Hq).symm.trans (want_none (uh Hwn))
  go_wp2_with fail
  go_ret
  exact ⟨rfl, K.bb⟩
 have hwb : (wn == -1) = false := beq_eq_false_iff_ne.mpr (by omega)
 have hwd : ¬ wn = -1 := by omega
 obtain ⟨op, hop⟩ : ∃ x, openB m b = x := ⟨_, rfl⟩
 have Hop := hide hop
 clear hop
 obtain ⟨c0, c1, c2, c3, c4, c5⟩ := K.cells
 go_wp2_with fail
 refine (hasOpen_any (uh Hop) K.smy).mono ?_
 rintro e w2 ⟨rfl, hb⟩
 replace K := K.next hb
 clear hb c0 c1 c2 c3 c4 c5
 cases op
 ·obtain rfl : q = -1 := by rw [← uh Hq]; unfold coalWithOfV; rw [uh Hop]; simp
  go_wp2_with fail
  go_ret
  exact ⟨rfl, K.bb⟩
 obtain ⟨k, rfl, hk, hs⟩ := whoB_of hwh
 have hq2 : coalAll (withM m (k : Int) b) = q := by rw [← uh Hq]; unfold coalWithOfV; rw [hok, hwh, uh Hop]; rfl
 have HL := hide (smy_loose hok)
 have HS := hide ((uh HL).sane.with hk hs b)
 have HT := hide ((uh HL).wants.with hk hs b)
 have hl := smyB_few hok
 have HR : Hid (∀ {X : World} {R : Nat} {c0 : Option Addr} {g gc r0 : Nat} {W : World}, Bx X W R a0 p0 a1 p1 (some ⟨g, 0, none⟩) gc a3 p3 a4 p4 (withM m (k : Int) b) → Calls Tryz.prog 272 #[.slice c0 m.rooms.length r0, .func (Fn.func 305) #[] #[.pointer (some ⟨R, 0, none⟩)]] W fun e w' => e = .returned (.int .i64 q) ∧ Below W.heap.size W w') := hide (fun hK => by rw [← hq2]; exact together_any hK (uh HS) (uh HT))
 have HC : Hid (∀ (g gc : Nat) (W : World), Smy W (.slice a0 m.rooms.length p0) (.slice a1 m.guilds.length p1) (.slice (some ⟨g, 0, none⟩) m.smiths.length gc) (.slice a3 m.desks.length p3) (.slice a4 m.paces.length p4) (withM m (k : Int) b) → Calls Tryz.prog 273 #[.agg #[.slice a0 m.rooms.length p0, .slice a1 m.guilds.length p1, .slice (some ⟨g, 0, none⟩) m.smiths.length gc, .slice a3 m.desks.length p3, .slice a4 m.paces.length p4, .int .i64 m.now]] W fun e w' => e = .returned (.func (Fn.func 305) #[] #[.pointer (some ⟨W.heap.size, 0, none⟩)]) ∧ Bx W w' W.heap.size a0 p0 a1 p1 (some ⟨g, 0, none⟩) gc a3 p3 a4 p4 (withM m (k : Int) b)) := hide (fun g gc W hs => by
  have hwl : (withM m (k : Int) b).smiths.length = m.smiths.length := by unfold withM; simp
  have h9 := costsIn_any (w := W) (m := withM m (k : Int) b) (a0 := a0) (a1 := a1) (a2 := some ⟨g, 0, none⟩) (a3 := a3) (a4 := a4) (p0 := p0) (p1 := p1) (p2 := gc) (p3 := p3) (p4 := p4) (by rw [hwl]; exact hs)
  rw [hwl] at h9
  exact h9)
 clear hwh Hq Hwn hok hwb hwd hw0 HS HT hq2
 have KD := K.drew
 obtain ⟨c0, c1, c2, c3, c4, c5⟩ := K.cells
 go_wp2_with fail
 go_region_with (first
  | (go_at_call 274; refine (withWhoAt_any b KD.smy (by omega) hk).mono ?_; rintro e w3 ⟨g, gc, rfl, hsm, hb3⟩; have K3 := KD.next hb3; have z0 := K3.blk.cell (i := 0) (v := .slice a0 m.rooms.length p0) rfl; have HS3 := hide hsm; clear hsm hb3)
  | (go_at_call 273; refine (uh HC _ _ _ (uh HS3)).mono ?_; rintro e w4 ⟨rfl, KX⟩; have K4 := K3.next KX.bb; have y0 := K4.blk.cell (i := 0) (v := .slice a0 m.rooms.length p0) rfl)
  | (go_at_call 272; refine (uh HR KX).mono ?_; rintro e w5 ⟨rfl, hb5⟩; have K5 := K4.next hb5; clear hb5))
 all_goals
  go_wp2_with fail
  go_ret
  exact ⟨rfl, K5.bb⟩
end Go.Proofs.YthbbahagpmdooaaGreatDoor
