/- Part 8 of what the proof rests on. No condition but those that a theorem names. -/
import Derived.Test.YtffcgajndmhpkaaGreatDoorXe04
import Derived.Test.YtffcgajndmhpkaaGreatDoorXe07
import Derived.Deep.DrawnRows
import Derived.BigRegion
import Derived.Deep.RegionLawGrows
import Derived.Deep.DeepCutAuto
import Derived.Laws.StructEq
set_option maxHeartbeats 8000000
set_option maxRecDepth 100000
namespace Go.Proofs.YtffcgajndmhpkaaGreatDoor
open Go.ChangeShapes Go.WideShapes Go.ChangeAt Go.RowKit Go.Sort
set_option linter.unusedVariables false
set_option linter.unusedSimpArgs false
def encPace (p : PaceV) : List Value := [.int .i64 p.1, .int .i64 p.2]
theorem encPace_len (p : PaceV) : (encPace p).length = 2 := rfl
theorem tyPace : RecTy 42 2 (.agg #[.int .i64 0, .int .i64 0]) encPace := ⟨by kernel_rfl, rfl, encPace_len, by omega, by omega, fun x u hu => by
  simp only [encPace, List.mem_cons, List.not_mem_nil, or_false] at hu
  rcases hu with rfl | rfl <;> rfl⟩
theorem IsPaces.rec {w : World} {v : Value} {ps : List PaceV} (h : IsPaces w v ps) : IsRec 2 encPace w v ps := by
  obtain ⟨a, cap, rfl, hc, hm, hr⟩ := h
  refine ⟨a, cap, rfl, hc, hm, ?_⟩
  rcases hr with hr | ⟨b, off, rfl, hlt, hcl⟩
  · exact .inl hr
  · refine .inr ⟨b, off, rfl, hlt, fun j hj i u hu => ?_⟩
    obtain ⟨c0, c1⟩ := hcl j hj
    have e : recAt ps j = paceAt ps j := by unfold recAt paceAt; simp [List.getD, hj]
    rw [e] at hu
    match i, hu with
    | 0, hu => obtain rfl : u = _ := by simpa [encPace] using hu.symm
               exact c0
    | 1, hu => obtain rfl : u = _ := by simpa [encPace] using hu.symm
               exact c1
    | i + 2, hu => simp [encPace] at hu
theorem own_shape {B t sz n : Nat} {w : World} {v : Value} {xs : List Value} (h : w.ownsRow B t sz v n xs) : ∃ a cap, v = .slice a n cap := by
  rcases h.2 with ⟨rfl, hz⟩ | ⟨g, cap, cur, rfl, _⟩
  · exact ⟨none, 0, by rw [hz]⟩
  · exact ⟨_, cap, rfl⟩
theorem run_append_room {w : World} {base t ty : Nat} (ht : Tryz.prog.underlying t = some (.slice 45)) {v : Value} {n : Nat} {xs : List Value} (hown : w.ownsRow base 45 2 v n xs) {g c : Nat} {rb : Int} {pv : Value} (h0 : w.cell? ⟨g, 0, none⟩ = some (.int .i64 rb)) (h1 : w.cell? ⟨g, 1, none⟩ = some pv) (h1c : pv.oneCell' = true) (hn : n ≤ 4000) (hbase : base ≤ w.heap.size) :
    ∃ v' w', (Builtin.append_ #[t, t] ty #[v, .slice (some ⟨g, 0, none⟩) 1 c]).run Tryz.prog w = .ok v' w' ∧ w'.ownsRow base 45 2 v' (n + 1) (xs ++ [.int .i64 rb, pv]) ∧ w.grownBy w' v.ownBlock ∧ (v'.ownBlock = v.ownBlock ∨ v'.ownBlock = some w.heap.size) := by
  obtain ⟨i0, hi, hz0, hz1, hz2⟩ := parts_of infoRoom2
  obtain ⟨v', w', hr, h2, h3, _, h5⟩ := run_append_own_at (P := Tryz.prog) w base t ty 45 i0 (.agg #[.int .i64 0, .slice none 0 0]) 2 32 ht hi hz0 hz1 hz2 rfl (by omega) v n xs hown ⟨g, 0, none⟩ 1 c [.int .i64 rb, pv] rfl
    (fun j u hu => by
      match j, hu with
      | 0, hu => obtain rfl : u = _ := by simpa using hu.symm
                 rw [addr_to]; exact h0
      | 1, hu => obtain rfl : u = _ := by simpa using hu.symm
                 rw [addr_to]; exact h1
      | j + 2, hu => simp at hu)
    (fun u hu => by
      simp only [List.mem_cons, List.not_mem_nil, or_false] at hu
      rcases hu with rfl | rfl
      · rfl
      · exact h1c) (by simp only [maxLen]; omega) (by omega) hbase
  exact ⟨v', w', hr, h2, h3, h5⟩
theorem step_append_run {ops : Array Oper} {o : Oper} {a : Act} {w : World} {K : Act → World → Prop} {Q : Exit → Act → World → Prop} {E : Prop} (hgd : o.guard = none) (s x : Operand) (t : TypeId)
    (ho : o.op = .call { callee := .builtin .append, args := #[s, x], argTypes := #[t, t] }) {v u v' : Value} {w' : World} (hs : a.eval s = v) (hx : a.eval x = u) (hrun : (Builtin.append_ #[t, t] o.type #[v, u]).run Tryz.prog w = .ok v' w')
    (h : K (a.put o.dst v') w') : if Region.wanted o (yielded ops a.tmps) = true then Oper.wp Tryz.prog o a w K Q else E := by
  have hw : Region.wanted o (yielded ops a.tmps) = true := by simp [Region.wanted, hgd]
  rw [if_pos hw]
  unfold Oper.wp execOp
  simp only [ho, resolve, invoke, builtin, Sem.run_bind, Sem.run_pure, Result.andThen_ok, List.map_toArray, List.map_cons, List.map_nil, hs, hx, hrun]
  exact h
theorem l4Copy_any {w : World} {v : Value} {rs : List RoomV} (h : IsRooms w v rs) (hl : rs.length ≤ 1000) (hp : ∀ r ∈ rs, r.2.length ≤ 1000) :
    Calls Tryz.prog 98 #[.agg #[v]] w fun e w' => ∃ v' qs, e = .returned (.agg #[v']) ∧ qs.map (·.1) = rs ∧ OwnHall w.heap.size w' v' qs ∧ Below w.heap.size w w' := by
  have Hv := hide h
  obtain ⟨a, cap, rfl, hc, hm, hr⟩ := h
  have Hr := hide hr
  have HP := hide hp
  clear hr hp
  go_enter Tryz.func98, Tryz.ntmps98
  go_wp2_with fail
  go_loopw [4] (fun i wr => ∃ (k : Nat) (u : Value) (qs : List (RoomV × Value)), k ≤ rs.length ∧ i = .int .i64 k ∧ Blk wr (w.heap.size + 1 + 1) 26 #[u] ∧ Blk wr w.heap.size 26 #[.slice a rs.length cap] ∧ Blk wr (w.heap.size + 1) 26 #[.slice none 0 0] ∧ OwnHall (w.heap.size + 3) wr u qs ∧ qs.map (·.1) = rs.take k ∧ Below w.heap.size w wr) (fun i _ => rs.length - (intOf i).toNat)
  case atStart =>
    refine ⟨0, _, [], Nat.zero_le _, rfl, ?_, ((Blk.new w _ _).alloc _).alloc _, ?_, OwnHall.nil _ _, rfl, (((ba _ _)).alloc (by simp) _).alloc (by simp; omega) _⟩
    · have k := Blk.new ((w.alloc (.cells #[.slice a rs.length cap] 26)).alloc (.cells #[.slice none 0 0] 26)) 26 #[.slice none 0 0]
      rw [World.size_alloc, World.size_alloc] at k
      exact k
    · have k := Blk.new (w.alloc (.cells #[.slice a rs.length cap] 26)) 26 #[.slice none 0 0]
      rw [World.size_alloc] at k
      exact k.alloc _
  case round =>
    obtain ⟨k, u, qs, hk, rfl, ko, ka, kr, ho, hq, hb⟩ := hrel
    have hql : qs.length = k := by have := congrArg List.length hq; simp at this; omega
    obtain ⟨ua, uc, rfl⟩ := ho.shape
    have Hql := hide hql
    rw [hql] at ko ho
    clear hql
    have Ko := hide ko
    have Ka := hide ka
    have Kr := hide kr
    have Ho := hide ho
    have Hq := hide hq
    have Hb := hide hb
    have x0 := ko.cell (i := 0) rfl
    have f0 := ko.free 0
    have y0 := ka.cell (i := 0) rfl
    have hsz := ko.lt
    by_cases hlt : k < rs.length
    · rcases uh Hr with e0 | ⟨b, off, rfl, hbw, hcl⟩
      · rw [e0] at hlt; simp at hlt
      obtain ⟨c0, pv, c1, hpv⟩ := hcl k hlt
      rw [← hb.cell (p := ⟨b, off + k * 2, none⟩) hbw] at c0
      rw [← hb.cell (p := ⟨b, off + k * 2 + 1, none⟩) hbw] at c1
      have Hpv := hide (hpv.below (hb.mono (Nat.le_refl _)))
      have hpl := uh HP (roomAt rs k) (by unfold roomAt; simp [List.getD, hlt])
      have Htk : Hid (rs.take (k + 1) = rs.take k ++ [roomAt rs k]) := hide (by rw [List.take_succ_eq_append_getElem hlt]; unfold roomAt; simp [List.getD, hlt])
      generalize roomAt rs k = r at *
      obtain ⟨n, ps⟩ := r
      simp only at c0 hpl hpv
      obtain ⟨pa, pc, rfl, _, _, _⟩ := hpv
      have hbw' : b < wr.heap.size := by have := hb.size; omega
      clear hcl ko ka kr ho hq hb
      have x1 := ((uh Ko).alloc (.cells #[] 42)).cell (i := 0) rfl
      have f1 := ((uh Ko).alloc (.cells #[] 42)).free 0
      have y1 := ((uh Ka).alloc (.cells #[] 42)).cell (i := 0) rfl
      have c2 := (((Below.refl wr.heap.size wr).alloc (Nat.le_refl _) (.cells #[] 42)).cell (p := ⟨b, off + k * 2, none⟩) hbw').trans c0
      have c3 := (((Below.refl wr.heap.size wr).alloc (Nat.le_refl _) (.cells #[] 42)).cell (p := ⟨b, off + k * 2 + 1, none⟩) hbw').trans c1
      have HA : Hid (Below wr.heap.size wr (wr.alloc (.cells #[] 42))) := hide ((Below.refl wr.heap.size wr).alloc (Nat.le_refl _) _)
      obtain ⟨v4, w4, hrun4, hown4, hg4, hat4⟩ := run_append_recs tyPace (w := (wr.alloc (.cells #[] 42)).drew) (t := 43) (ty := 43) (base := wr.heap.size) Tryz.underlying43 (RecAt.later (recs_empty (w := wr) rfl (Nat.le_refl _)) (Below.refl _ _).drew) (IsPaces.rec ((uh Hpv).below (uh HA).drew)) (by simp; omega) (by simp)
      rw [List.nil_append] at hown4
      have X4 : Below wr.heap.size wr w4 := (uh HA).drew.trans ((Below.refl _ _).grown hg4 (by simp) (fun i e => by cases e; exact Nat.le_refl _))
      obtain ⟨pa4, pc4, rfl⟩ := RecAt.shape hown4
      have hk4 := (uh Ko).below X4 (uh Ko).lt
      have hz4 := X4.size
      have r0 := hk4.cell (i := 0) rfl
      have r1 := hk4.free 0
      have hk5 := hk4.alloc (.cells #[.int .i64 n, .slice pa4 ps.length pc4] 45)
      have r2 := hk5.cell (i := 0) rfl
      have r3 := (X4.cell (p := ⟨b, off + k * 2, none⟩) hbw').trans c0
      have r4 := ((uh Ka).below X4 (uh Ka).lt).cell (i := 0) rfl
      have r5 := (((uh Ka).below X4 (uh Ka).lt).alloc (.cells #[.int .i64 n, .slice pa4 ps.length pc4] 45)).cell (i := 0) rfl
      have HO4 := hide hown4
      have HX4 := hide X4
      obtain ⟨v5, w5, hrun5, hown5, hg5, hat5⟩ := run_append_room (w := w4.alloc (.cells #[.int .i64 n, .slice pa4 ps.length pc4] 45)) (t := 24) (ty := 24) (base := w.heap.size + 3) (v := .slice ua k uc) (n := k) (xs := rcells qs) Tryz.underlying24 (World.ownsRow.alloc (by have h9 := ((uh Ho).later (uh HX4)).row; rw [uh Hql] at h9; exact h9) _) (g := w4.heap.size) (c := 1) (cell_new w4 (i := 0) rfl) (cell_new w4 (i := 1) rfl) rfl (by omega) (by simp; omega)
      obtain ⟨a5, c5, rfl⟩ := own_shape hown5
      have hn5 : ∀ i, (Value.slice ua k uc).ownBlock = some i → w.heap.size + 3 ≤ i := fun i e => ((uh Ho).lt (.inl e)).1
      have hk6 := hk5.same (w' := w5) (hg5.block _ hk5.lt (fun e => by have := hn5 _ e.symm; omega))
      have s0 := hk6.cell (i := 0) rfl
      have s1 := hk6.free 0
      have HK6 := hide hk6
      have HO5 := hide hown5
      have HG5 := hide hg5
      have HA5 := hide hat5
      have X5 : Hid (Below (w.heap.size + 1 + 1 + 1) wr w5) := hide (by
        have q1 : Below wr.heap.size wr w4 := uh HX4
        have q2 : Below w4.heap.size w4 (w4.alloc (.cells #[.int .i64 n, .slice pa4 ps.length pc4] 45)) := ba _ _
        have q3 : Below (w.heap.size + 1 + 1 + 1) (w4.alloc (.cells #[.int .i64 n, .slice pa4 ps.length pc4] 45)) w5 := (Below.refl _ _).grown (uh HG5) (by have := q1.size; simp; omega) (fun i e => by have := ((uh Ho).lt (.inl e)).1; omega)
        exact ((q1.mono (by omega)).trans (q2.mono (by have := q1.size; omega))).trans q3)
      have hp5 : OwnHall (w.heap.size + 3) w5 (.slice a5 (k + 1) c5) (qs ++ [((n, ps), .slice pa4 ps.length pc4)]) := by
        have q1 : OwnHall (w.heap.size + 3) w4 (.slice ua k uc) qs := (uh Ho).later (uh HX4)
        have q2 : PacesAt wr.heap.size w4 (.slice pa4 ps.length pc4) ps := uh HO4
        have q3 : PacesAt (w.heap.size + 3) w4 (.slice pa4 ps.length pc4) ps := q2.mono (by omega)
        refine OwnHall.push (w := w4) (w1 := w5) (v := .slice ua k uc) (o := .cells #[.int .i64 n, .slice pa4 ps.length pc4] 45) q1 q3 ?_ ?_ ?_ (uh HG5) (uh HA5)
        · intro b' e e'
          have h8 := (q2.lt e).1
          have h9 := ((uh Ho).lt (.inl e')).2
          omega
        · intro q hq' b' e e'
          have h8 := (q2.lt e').1
          have h9 := ((uh Ho).lt (.inr ⟨q, hq', e⟩)).2
          omega
        · rw [uh Hql]; exact uh HO5
      have HP5 := hide hp5
      have z0 := ((uh Ka).below (uh X5) (by omega)).cell (i := 0) rfl
      have z1 := ((uh X5).cell (p := ⟨b, off + k * 2, none⟩) (show b < w.heap.size + 1 + 1 + 1 by omega)).trans c0
      have z2 := ((uh X5).cell (p := ⟨b, off + k * 2 + 1, none⟩) (show b < w.heap.size + 1 + 1 + 1 by omega)).trans c1
      have r6 := ((uh HX4).cell (p := ⟨b, off + k * 2 + 1, none⟩) hbw').trans c1
      have r7 : (w4.alloc (.cells #[.int .i64 n, .slice pa4 ps.length pc4] 45)).cell? ⟨b, off + k * 2, none⟩ = some (.int .i64 n) := (((Below.refl w4.heap.size w4).alloc (Nat.le_refl _) _).cell (p := ⟨b, off + k * 2, none⟩) (by show b < w4.heap.size; omega)).trans r3
      have r8 : (w4.alloc (.cells #[.int .i64 n, .slice pa4 ps.length pc4] 45)).cell? ⟨b, off + k * 2 + 1, none⟩ = some (.slice pa ps.length pc) := (((Below.refl w4.heap.size w4).alloc (Nat.le_refl _) _).cell (p := ⟨b, off + k * 2 + 1, none⟩) (by show b < w4.heap.size; omega)).trans r6
      have t0 : (w5.setCell ⟨w.heap.size + 1 + 1, 0, none⟩ (.slice a5 (k + 1) c5)).cell? ⟨w.heap.size, 0, none⟩ = some (.slice (some ⟨b, off, none⟩) rs.length cap) := (World.cell?_setCell_other _ _ _ _ (by simp)).trans z0
      have t1 : (w5.setCell ⟨w.heap.size + 1 + 1, 0, none⟩ (.slice a5 (k + 1) c5)).cell? ⟨b, off + k * 2, none⟩ = some (.int .i64 n) := (World.cell?_setCell_other _ _ _ _ (fun e => by have := congrArg Addr.block e; simp at this; omega)).trans z1
      have t2 : (w5.setCell ⟨w.heap.size + 1 + 1, 0, none⟩ (.slice a5 (k + 1) c5)).cell? ⟨b, off + k * 2 + 1, none⟩ = some (.slice pa ps.length pc) := (World.cell?_setCell_other _ _ _ _ (fun e => by have := congrArg Addr.block e; simp at this; omega)).trans z2
      have R4 := hide hrun4
      have R5 := hide hrun5
      clear hown5 hg5 hat5 hk5 hn5 hk6 hown4 X4 hg4 hat4 hk4 hrun4 hrun5 hp5
      go_wp2_with fail
      refine wp_region_last (S := fun w' => w'.cell? ⟨w.heap.size, 0, none⟩ = some (.slice (some ⟨b, off, none⟩) rs.length cap) ∧ w'.cell? ⟨w.heap.size + 1 + 1, 0, none⟩ = some (.slice ua k uc) ∧ w'.cell? ⟨b, off + k * 2, none⟩ = some (.int .i64 n) ∧ w'.cell? ⟨b, off + k * 2 + 1, none⟩ = some (.slice pa ps.length pc)) (by kernel_rfl) (List.cons_ne_nil _ _) (by kernel_rfl) ⟨y0, x0, c0, c1⟩ (fun hHeld => ?_)
      simp only [List.dropLast_cons_cons, List.dropLast_singleton, List.length_cons, List.length_nil, Nat.zero_add, Nat.reduceAdd]
      (refine tq 0 ?_; (try simp only [Act.put, sA, sZ, sS]))
      (refine tq 1 ?_; (try simp only [Act.put, sA, sZ, sS]))
      (refine tq 2 ?_; (try simp only [Act.put, sA, sZ, sS]))
      (refine tq 3 ?_; (try simp only [Act.put, sA, sZ, sS]))
      (refine tq 4 ?_; (try simp only [Act.put, sA, sZ, sS]))
      (refine tq 5 ?_; (try simp only [Act.put, sA, sZ, sS]))
      (refine tq 6 ?_; (try simp only [Act.put, sA, sZ, sS]))
      (refine tq 7 ?_; (try simp only [Act.put, sA, sZ, sS]))
      (refine tq 9 ?_; (try simp only [Act.put, sA, sZ, sS]))
      (refine tq 10 ?_; (try simp only [Act.put, sA, sZ, sS]))
      (refine tq 11 ?_; (try simp only [Act.put, sA, sZ, sS]))
      (refine tq 12 ?_; (try simp only [Act.put, sA, sZ, sS]))
      (refine tq 13 ?_; (try simp only [Act.put, sA, sZ, sS]))
      (refine tq 14 ?_; (try simp only [Act.put, sA, sZ, sS]))
      refine rd 8 rfl (fun K hK => ?_)
      go_simp
      refine hK.out _ _ ⟨y1, x1, c2, c3⟩ (fun hHeld => ?_)
      clear hK K
      (try simp only [Act.put, sA, sZ, sS])
      refine rd 15 rfl (fun K hK => ?_)
      refine step_append_run rfl (.tmp 21) (.tmp 27) 43 rfl rfl rfl (uh R4) ?_
      refine hK.out _ _ ⟨r4, r0, r3, r6⟩ (fun hHeld => ?_)
      clear hK K
      (try simp only [Act.put, sA, sZ, sS])
      (refine tq 16 ?_; (try simp only [Act.put, sA, sZ, sS]))
      refine rd 17 rfl (fun K hK => ?_)
      go_simp
      refine hK.out _ _ ⟨r5, r2, r7, r8⟩ (fun hHeld => ?_)
      clear hK K
      (try simp only [Act.put, sA, sZ, sS])
      refine rd 18 rfl (fun K hK => ?_)
      refine step_append_run rfl (.tmp 14) (.tmp 30) 24 rfl rfl rfl (uh R5) ?_
      refine hK.out _ _ ⟨z0, s0, z1, z2⟩ (fun hHeld => ?_)
      clear hK K
      (try simp only [Act.put, sA, sZ, sS])
      (refine tq 19 ?_; (try simp only [Act.put, sA, sZ, sS]))
      refine wpAnyH_done (by kernel_rfl) ?_ _
      refine tailQ_run rfl rfl ?_
      go_simp
      clear hHeld
      go_wp2_with fail
      go_roundw
      case rel =>
        refine ⟨k + 1, .slice a5 (k + 1) c5, qs ++ [((n, ps), .slice pa4 ps.length pc4)], by omega, by go_num, ?_, ?_, ?_, ?_, by rw [List.map_append, uh Hq, uh Htk]; rfl, ?_⟩
        · have q := (uh HK6).set 0 (.slice a5 (k + 1) c5)
          exact q
        · exact ((uh Ka).below (uh X5) (by omega)).other (by show w.heap.size ≠ w.heap.size + 1 + 1; omega) _
        · exact ((uh Kr).below (uh X5) (by omega)).other (by show w.heap.size + 1 ≠ w.heap.size + 1 + 1; omega) _
        · exact (uh HP5).same fun i h0 hi => heap_setCell_other _ _ _ _ (by show i ≠ w.heap.size + 1 + 1; omega)
        · exact ((uh Hb).trans ((uh X5).mono (by omega))).setCell (by show _ ≤ w.heap.size + 1 + 1; omega) _
      case measure => exact ms
    · obtain rfl : k = rs.length := by omega
      have r0 := kr.cell (i := 0) rfl
      have r1 := kr.free 0
      go_wp2_with fail
      rw [List.take_length] at hq
      refine bodyPost_ret (v := .agg #[.slice ua rs.length uc]) (by simp [results, Tryz.results98, go_sem, *]) rfl ⟨_, qs, rfl, hq, ?_, ?_⟩
      · exact (ho.same fun i h0 hi => heap_setCell_other _ _ _ _ (by show i ≠ w.heap.size + 1; omega)).mono (by omega)
      · exact hb.setCell (by show _ ≤ w.heap.size + 1; omega) _
theorem tyG : RecTy 88 3 (.agg #[.int .i64 0, .int .i64 0, .int .i64 0]) encGuild := ⟨by kernel_rfl, rfl, encGuild_len, by omega, by omega, fun x u hu => by
 simp only [encGuild, List.mem_cons, List.not_mem_nil, or_false] at hu
 rcases hu with rfl | rfl | rfl <;> rfl⟩
theorem tyS : RecTy 39 11 (.agg E11) encSmith := ⟨by kernel_rfl, rfl, encSmith_len, by omega, by omega, fun x u hu => by
 simp only [encSmith, List.mem_cons, List.not_mem_nil, or_false] at hu
 rcases hu with rfl | rfl | rfl | rfl | rfl | rfl | rfl | rfl | rfl | rfl | rfl <;> rfl⟩
theorem tyD : RecTy 53 3 (.agg #[.bool false, .int .i64 0, .int .i64 0]) encDesk := ⟨by kernel_rfl, rfl, encDesk_len, by omega, by omega, fun x u hu => by
 simp only [encDesk, List.mem_cons, List.not_mem_nil, or_false] at hu
 rcases hu with rfl | rfl | rfl <;> rfl⟩
theorem tyN : RecTy 2 1 (.int .i64 0) encNum := ⟨by kernel_rfl, rfl, encNum_len, by omega, by omega, fun x u hu => by
 simp only [encNum, List.mem_cons, List.not_mem_nil, or_false] at hu
 rcases hu with rfl <;> rfl⟩
structure Few (m : SmyV) : Prop where
 rooms : m.rooms.length ≤ 1000
 paces : ∀ r ∈ m.rooms, r.2.length ≤ 1000
 guilds : m.guilds.length ≤ 1000
 smiths : m.smiths.length ≤ 800
 desks : m.desks.length ≤ 1000
 nums : m.paces.length ≤ 1000
theorem full_of {n₀ : Nat} {w : World} {v0 v1 v2 v3 v4 : Value} {m : SmyV} {qs : List (RoomV × Value)} (s0 s1 s2 s3 : Nat) (hh : OwnHall n₀ w v0 qs) (hr : qs.map (·.1) = m.rooms) (hg : GuildsAt n₀ w v1 m.guilds) (hs : SmithsAt n₀ w v2 m.smiths) (hd : DesksAt n₀ w v3 m.desks) (hp : NumsAt n₀ w v4 m.paces)
  (l0 : ∀ b, (v0.ownBlock = some b ∨ ∃ q ∈ qs, q.2.ownBlock = some b) → b < s0) (l1 : ∀ b, v1.ownBlock = some b → s0 ≤ b ∧ b < s1) (l2 : ∀ b, v2.ownBlock = some b → s1 ≤ b ∧ b < s2) (l3 : ∀ b, v3.ownBlock = some b → s2 ≤ b ∧ b < s3) (l4 : ∀ b, v4.ownBlock = some b → s3 ≤ b) (h1 : s0 ≤ s1) (h2 : s1 ≤ s2) (h3 : s2 ≤ s3) :
  FullSmy n₀ w v0 v1 v2 v3 v4 m qs := by
 refine ⟨hh, hr, hg, hs, hd, hp, ⟨?_, ?_⟩, ⟨?_, ?_⟩, ⟨?_, ?_⟩, ⟨?_, ?_⟩, ?_, ?_, ?_, ?_, ?_, ?_⟩
 ·intro b e e'; have := (l1 b e).1; have := l0 b (.inl e'); omega
 ·intro q hq b e e'; have := (l1 b e).1; have := l0 b (.inr ⟨q, hq, e'⟩); omega
 ·intro b e e'; have := (l2 b e).1; have := l0 b (.inl e'); omega
 ·intro q hq b e e'; have := (l2 b e).1; have := l0 b (.inr ⟨q, hq, e'⟩); omega
 ·intro b e e'; have := (l3 b e).1; have := l0 b (.inl e'); omega
 ·intro q hq b e e'; have := (l3 b e).1; have := l0 b (.inr ⟨q, hq, e'⟩); omega
 ·intro b e e'; have := l4 b e; have := l0 b (.inl e'); omega
 ·intro q hq b e e'; have := l4 b e; have := l0 b (.inr ⟨q, hq, e'⟩); omega
 ·intro b e e'; have := l1 b e; have := l2 b e'; omega
 ·intro b e e'; have := l1 b e; have := l3 b e'; omega
 ·intro b e e'; have := l1 b e; have := l4 b e'; omega
 ·intro b e e'; have := l2 b e; have := l3 b e'; omega
 ·intro b e e'; have := l2 b e; have := l4 b e'; omega
 ·intro b e e'; have := l3 b e; have := l4 b e'; omega
theorem l8Copy_any {w : World} {v : Value} {ps : List GuildV} (h : IsGuilds w v ps) (hl : ps.length ≤ 1000) :
  Calls Tryz.prog 99 #[v] w fun e w' => ∃ v', e = .returned v' ∧ GuildsAt w.heap.size w' v' ps ∧ Below w.heap.size w w' := by
 have Hv := hide h
 obtain ⟨a, cap, rfl, hc, hm, hr⟩ := h
 clear hr
 go_enter Tryz.func99, Tryz.ntmps99
 go_wp2_with (at_builtin; refine wpList_append_recs tyG rfl (.tmp 3) (.tmp 4) 27 Tryz.underlying27 rfl w.heap.size _ _ [] ps rfl rfl (recs_empty rfl (Nat.le_refl _)) ((uh Hv).below ((ba _ _))) (by simp; omega) (by simp) ?_; intro v' w1 hown hgrow hat)
 go_ret
 refine ⟨v', rfl, by simpa using hown, ((ba _ _)).trans ((Below.refl _ _).grown hgrow (by simp) (fun k e => ?_))⟩
 cases e; exact Nat.le_refl _
theorem l11Copy_any {w : World} {v0 v1 v2 v3 v4 : Value} {m : SmyV} (h : Smy w v0 v1 v2 v3 v4 m) (hF : Few m) :
  Calls Tryz.prog 39 #[.agg #[v0, v1, v2, v3, v4, .int .i64 m.now]] w fun e w' => ∃ u0 u1 u2 u3 u4 qs, e = .returned (.agg #[u0, u1, u2, u3, u4, .int .i64 m.now]) ∧ FullSmy w.heap.size w' u0 u1 u2 u3 u4 m qs ∧ Below w.heap.size w w' := by
 have Hv := hide h
 have HF := hide hF
 obtain ⟨a0, p0, a1, p1, a2, p2, a3, p3, a4, p4, rfl, rfl, rfl, rfl, rfl, _, _, _, _, _, _, _, _, _, _⟩ := h.five
 clear h hF
 go_enter Tryz.func39, Tryz.ntmps39
 go_wp2_with fail
 obtain ⟨W, hW, kb, kr, BB⟩ := two_boxes w 32 (S6 a0 p0 a1 p1 a2 p2 a3 p3 a4 p4 m) 32 E6
 rw [hW]
 clear hW
 have hW : w.heap.size + 2 ≤ W.heap.size := by have := (uh kr).lt; omega
 refine (l4Copy_any ((uh Hv).below (uh BB)).rooms (uh HF).rooms (uh HF).paces).mono ?_
 rintro e w1 ⟨u0, qs, rfl, hmap, hp, hb⟩
 have Hmap := hide hmap
 clear hmap
 have n0 : Hid (OwnHall (w.heap.size + 2) w1 u0 qs) := hide (hp.mono hW)
 replace kb := bl kb hb
 replace kr := bl kr hb
 replace BB := bt BB hb
 have hW1 : w.heap.size + 2 ≤ w1.heap.size := by have := hb.size; omega
 obtain ⟨b0, q0, rfl⟩ := hp.shape
 have hql : qs.length = m.rooms.length := by rw [← uh Hmap, List.length_map]
 rw [hql] at n0 ⊢
 have L0 : Hid (∀ b, ((Value.slice b0 m.rooms.length q0).ownBlock = some b ∨ ∃ q ∈ qs, q.2.ownBlock = some b) → b < w1.heap.size) := hide (fun b e => ((uh n0).lt e).2)
 clear hp hql hb hW
 have o0 := (uh kb).cell (i := 0) (v := .slice a0 m.rooms.length p0) rfl
 have f0 := (uh kb).free 0
 go_upto_region 2 with fail
 clear o0 f0
 replace kb : Hid (Blk (w1.setCell ⟨w.heap.size, 0, none⟩ (.slice b0 m.rooms.length q0)) w.heap.size 32 (S6 b0 q0 a1 p1 a2 p2 a3 p3 a4 p4 m)) := hide ((uh kb).set 0 _)
 replace kr : Hid (Blk (w1.setCell ⟨w.heap.size, 0, none⟩ (.slice b0 m.rooms.length q0)) (w.heap.size + 1) 32 E6) := hide ((uh kr).other (a := ⟨w.heap.size, 0, none⟩) (by show w.heap.size + 1 ≠ w.heap.size; omega) _)
 replace BB : Hid (Below w.heap.size w (w1.setCell ⟨w.heap.size, 0, none⟩ (.slice b0 m.rooms.length q0))) := hide ((uh BB).setCell (p := ⟨w.heap.size, 0, none⟩) (Nat.le_refl _) _)
 replace n0 := hide ((uh n0).set_old w.heap.size 0 (.slice b0 m.rooms.length q0) (by omega))
 have g0 : w1.heap.size ≤ (w1.setCell ⟨w.heap.size, 0, none⟩ (.slice b0 m.rooms.length q0)).heap.size := by simp
 generalize w1.setCell ⟨w.heap.size, 0, none⟩ (.slice b0 m.rooms.length q0) = X0 at *
 have c1 := (uh kb).cell (i := 1) (v := .slice a1 m.guilds.length p1) rfl
 go_wp2_with fail
 clear c1
 refine (l8Copy_any ((uh Hv).below (uh BB)).guilds (uh HF).guilds).mono ?_
 rintro e w2 ⟨u1, rfl, hp, hb⟩
 have n1 : Hid (GuildsAt (w.heap.size + 2) w2 u1 m.guilds) := hide (RecAt.mono hp (by omega))
 have M1 : Hid (∀ b, u1.ownBlock = some b → w1.heap.size ≤ b ∧ b < w2.heap.size) := hide (fun b e => ⟨Nat.le_trans g0 (RecAt.lt hp e).1, (RecAt.lt hp e).2⟩)
 replace kb := bl kb hb
 replace kr := bl kr hb
 replace n0 := hide ((uh n0).later hb)
 replace BB := bt BB hb
 have z1 : w1.heap.size ≤ w2.heap.size := Nat.le_trans g0 hb.size
 obtain ⟨b1, q1, rfl⟩ := RecAt.shape hp
 clear hp hb
 have o1 := (uh kb).cell (i := 1) (v := .slice a1 m.guilds.length p1) rfl
 have f1 := (uh kb).free 1
 go_upto_region 3 with fail
 clear o1 f1
 replace kb : Hid (Blk (w2.setCell ⟨w.heap.size, 1, none⟩ (.slice b1 m.guilds.length q1)) w.heap.size 32 (S6 b0 q0 b1 q1 a2 p2 a3 p3 a4 p4 m)) := hide ((uh kb).set 1 _)
 replace kr : Hid (Blk (w2.setCell ⟨w.heap.size, 1, none⟩ (.slice b1 m.guilds.length q1)) (w.heap.size + 1) 32 E6) := hide ((uh kr).other (a := ⟨w.heap.size, 1, none⟩) (by show w.heap.size + 1 ≠ w.heap.size; omega) _)
 replace BB : Hid (Below w.heap.size w (w2.setCell ⟨w.heap.size, 1, none⟩ (.slice b1 m.guilds.length q1))) := hide ((uh BB).setCell (p := ⟨w.heap.size, 1, none⟩) (Nat.le_refl _) _)
 replace n0 := hide ((uh n0).set_old w.heap.size 1 (.slice b1 m.guilds.length q1) (by omega))
 replace n1 := hide (RecAt.set_old (uh n1) w.heap.size 1 (.slice b1 m.guilds.length q1) (by omega))
 have g1 : w2.heap.size ≤ (w2.setCell ⟨w.heap.size, 1, none⟩ (.slice b1 m.guilds.length q1)).heap.size := by simp
 generalize w2.setCell ⟨w.heap.size, 1, none⟩ (.slice b1 m.guilds.length q1) = X1 at *
 have c2 := (uh kb).cell (i := 2) (v := .slice a2 m.smiths.length p2) rfl
 have HX := hide (((uh Hv).below (uh BB)).smiths)
 have hl9 := (uh HF).smiths
 have hlt9 := (uh kb).lt
 go_upto_region 4 with (at_builtin; refine wpList_append_recs tyS rfl (.tmp 11) (.tmp 13) 28 Tryz.underlying28 rfl X1.heap.size _ _ [] m.smiths rfl rfl (recs_empty rfl (Nat.le_refl _)) (IsRec.below (uh HX) ((ba _ _))) (by simp; omega) (by simp) ?_; intro u2 w3 hp9 hg9 hat9; rw [List.nil_append] at hp9; have hb9 : Below X1.heap.size X1 w3 := ((ba _ _)).trans ((Below.refl _ _).grown hg9 (by simp) (fun k e => by cases e; exact Nat.le_refl _)); have k9 := (uh kb).below hb9 (uh kb).lt; have o9 := k9.cell (i := 2) (v := .slice a2 m.smiths.length p2) rfl; have f9 := k9.free 2; obtain ⟨a9, c9, hu9⟩ := RecAt.shape hp9; subst hu9; have hp := hide hp9; have hb := hide hb9; clear hp9 hb9 k9 hg9 hat9)
 clear c2 HX hl9 hlt9 o9 f9
 replace hp := uh hp
 replace hb := uh hb
 obtain ⟨u2, hu2⟩ : ∃ u, u = Value.slice a9 m.smiths.length c9 := ⟨_, rfl⟩
 rw [← hu2] at hp ⊢
 clear hu2
 have n2 : Hid (SmithsAt (w.heap.size + 2) w3 u2 m.smiths) := hide (RecAt.mono hp (by omega))
 have M2 : Hid (∀ b, u2.ownBlock = some b → w2.heap.size ≤ b ∧ b < w3.heap.size) := hide (fun b e => ⟨Nat.le_trans g1 (RecAt.lt hp e).1, (RecAt.lt hp e).2⟩)
 replace kb := bl kb hb
 replace kr := bl kr hb
 replace n0 := hide ((uh n0).later hb)
 replace n1 := hide (RecAt.later (uh n1) hb)
 replace BB := bt BB hb
 have z2 : w2.heap.size ≤ w3.heap.size := Nat.le_trans g1 hb.size
 obtain ⟨b2, q2, rfl⟩ := RecAt.shape hp
 clear hp hb
 replace kb : Hid (Blk (w3.setCell ⟨w.heap.size, 2, none⟩ (.slice b2 m.smiths.length q2)) w.heap.size 32 (S6 b0 q0 b1 q1 b2 q2 a3 p3 a4 p4 m)) := hide ((uh kb).set 2 _)
 replace kr : Hid (Blk (w3.setCell ⟨w.heap.size, 2, none⟩ (.slice b2 m.smiths.length q2)) (w.heap.size + 1) 32 E6) := hide ((uh kr).other (a := ⟨w.heap.size, 2, none⟩) (by show w.heap.size + 1 ≠ w.heap.size; omega) _)
 replace BB : Hid (Below w.heap.size w (w3.setCell ⟨w.heap.size, 2, none⟩ (.slice b2 m.smiths.length q2))) := hide ((uh BB).setCell (p := ⟨w.heap.size, 2, none⟩) (Nat.le_refl _) _)
 replace n0 := hide ((uh n0).set_old w.heap.size 2 (.slice b2 m.smiths.length q2) (by omega))
 replace n1 := hide (RecAt.set_old (uh n1) w.heap.size 2 (.slice b2 m.smiths.length q2) (by omega))
 replace n2 := hide (RecAt.set_old (uh n2) w.heap.size 2 (.slice b2 m.smiths.length q2) (by omega))
 have g2 : w3.heap.size ≤ (w3.setCell ⟨w.heap.size, 2, none⟩ (.slice b2 m.smiths.length q2)).heap.size := by simp
 generalize w3.setCell ⟨w.heap.size, 2, none⟩ (.slice b2 m.smiths.length q2) = X2 at *
 have c3 := (uh kb).cell (i := 3) (v := .slice a3 m.desks.length p3) rfl
 have HX := hide (((uh Hv).below (uh BB)).desks)
 have hl9 := (uh HF).desks
 have hlt9 := (uh kb).lt
 go_upto_region 5 with (at_builtin; refine wpList_append_recs tyD rfl (.tmp 16) (.tmp 18) 29 Tryz.underlying29 rfl X2.heap.size _ _ [] m.desks rfl rfl (recs_empty rfl (Nat.le_refl _)) (IsRec.below (uh HX) ((ba _ _))) (by simp; omega) (by simp) ?_; intro u3 w4 hp9 hg9 hat9; rw [List.nil_append] at hp9; have hb9 : Below X2.heap.size X2 w4 := ((ba _ _)).trans ((Below.refl _ _).grown hg9 (by simp) (fun k e => by cases e; exact Nat.le_refl _)); have k9 := (uh kb).below hb9 (uh kb).lt; have o9 := k9.cell (i := 3) (v := .slice a3 m.desks.length p3) rfl; have f9 := k9.free 3; obtain ⟨a9, c9, hu9⟩ := RecAt.shape hp9; subst hu9; have hp := hide hp9; have hb := hide hb9; clear hp9 hb9 k9 hg9 hat9)
 clear c3 HX hl9 hlt9 o9 f9
 replace hp := uh hp
 replace hb := uh hb
 obtain ⟨u3, hu3⟩ : ∃ u, u = Value.slice a9 m.desks.length c9 := ⟨_, rfl⟩
 rw [← hu3] at hp ⊢
 clear hu3
 have n3 : Hid (DesksAt (w.heap.size + 2) w4 u3 m.desks) := hide (RecAt.mono hp (by omega))
 have M3 : Hid (∀ b, u3.ownBlock = some b → w3.heap.size ≤ b ∧ b < w4.heap.size) := hide (fun b e => ⟨Nat.le_trans g2 (RecAt.lt hp e).1, (RecAt.lt hp e).2⟩)
 replace kb := bl kb hb
 replace kr := bl kr hb
 replace n0 := hide ((uh n0).later hb)
 replace n1 := hide (RecAt.later (uh n1) hb)
 replace n2 := hide (RecAt.later (uh n2) hb)
 replace BB := bt BB hb
 have z3 : w3.heap.size ≤ w4.heap.size := Nat.le_trans g2 hb.size
 obtain ⟨b3, q3, rfl⟩ := RecAt.shape hp
 clear hp hb
 replace kb : Hid (Blk (w4.setCell ⟨w.heap.size, 3, none⟩ (.slice b3 m.desks.length q3)) w.heap.size 32 (S6 b0 q0 b1 q1 b2 q2 b3 q3 a4 p4 m)) := hide ((uh kb).set 3 _)
 replace kr : Hid (Blk (w4.setCell ⟨w.heap.size, 3, none⟩ (.slice b3 m.desks.length q3)) (w.heap.size + 1) 32 E6) := hide ((uh kr).other (a := ⟨w.heap.size, 3, none⟩) (by show w.heap.size + 1 ≠ w.heap.size; omega) _)
 replace BB : Hid (Below w.heap.size w (w4.setCell ⟨w.heap.size, 3, none⟩ (.slice b3 m.desks.length q3))) := hide ((uh BB).setCell (p := ⟨w.heap.size, 3, none⟩) (Nat.le_refl _) _)
 replace n0 := hide ((uh n0).set_old w.heap.size 3 (.slice b3 m.desks.length q3) (by omega))
 replace n1 := hide (RecAt.set_old (uh n1) w.heap.size 3 (.slice b3 m.desks.length q3) (by omega))
 replace n2 := hide (RecAt.set_old (uh n2) w.heap.size 3 (.slice b3 m.desks.length q3) (by omega))
 replace n3 := hide (RecAt.set_old (uh n3) w.heap.size 3 (.slice b3 m.desks.length q3) (by omega))
 have g3 : w4.heap.size ≤ (w4.setCell ⟨w.heap.size, 3, none⟩ (.slice b3 m.desks.length q3)).heap.size := by simp
 generalize w4.setCell ⟨w.heap.size, 3, none⟩ (.slice b3 m.desks.length q3) = X3 at *
 have c4 := (uh kb).cell (i := 4) (v := .slice a4 m.paces.length p4) rfl
 have HX := hide (((uh Hv).below (uh BB)).paces)
 have hl9 := (uh HF).nums
 have hlt9 := (uh kb).lt
 go_upto_region 6 with (at_builtin; refine wpList_append_recs tyN rfl (.tmp 21) (.tmp 23) 30 Tryz.underlying30 rfl X3.heap.size _ _ [] m.paces rfl rfl (recs_empty rfl (Nat.le_refl _)) (IsRec.below (uh HX) ((ba _ _))) (by simp; omega) (by simp) ?_; intro u4 w5 hp9 hg9 hat9; rw [List.nil_append] at hp9; have hb9 : Below X3.heap.size X3 w5 := ((ba _ _)).trans ((Below.refl _ _).grown hg9 (by simp) (fun k e => by cases e; exact Nat.le_refl _)); have k9 := (uh kb).below hb9 (uh kb).lt; have o9 := k9.cell (i := 4) (v := .slice a4 m.paces.length p4) rfl; have f9 := k9.free 4; obtain ⟨a9, c9, hu9⟩ := RecAt.shape hp9; subst hu9; have hp := hide hp9; have hb := hide hb9; clear hp9 hb9 k9 hg9 hat9)
 clear c4 HX hl9 hlt9 o9 f9
 replace hp := uh hp
 replace hb := uh hb
 obtain ⟨u4, hu4⟩ : ∃ u, u = Value.slice a9 m.paces.length c9 := ⟨_, rfl⟩
 rw [← hu4] at hp ⊢
 clear hu4
 have n4 : Hid (NumsAt (w.heap.size + 2) w5 u4 m.paces) := hide (RecAt.mono hp (by omega))
 have M4 : Hid (∀ b, u4.ownBlock = some b → w4.heap.size ≤ b ∧ b < w5.heap.size) := hide (fun b e => ⟨Nat.le_trans g3 (RecAt.lt hp e).1, (RecAt.lt hp e).2⟩)
 replace kb := bl kb hb
 replace kr := bl kr hb
 replace n0 := hide ((uh n0).later hb)
 replace n1 := hide (RecAt.later (uh n1) hb)
 replace n2 := hide (RecAt.later (uh n2) hb)
 replace n3 := hide (RecAt.later (uh n3) hb)
 replace BB := bt BB hb
 have z4 : w4.heap.size ≤ w5.heap.size := Nat.le_trans g3 hb.size
 obtain ⟨b4, q4, rfl⟩ := RecAt.shape hp
 clear hp hb
 replace kb : Hid (Blk (w5.setCell ⟨w.heap.size, 4, none⟩ (.slice b4 m.paces.length q4)) w.heap.size 32 (S6 b0 q0 b1 q1 b2 q2 b3 q3 b4 q4 m)) := hide ((uh kb).set 4 _)
 replace kr : Hid (Blk (w5.setCell ⟨w.heap.size, 4, none⟩ (.slice b4 m.paces.length q4)) (w.heap.size + 1) 32 E6) := hide ((uh kr).other (a := ⟨w.heap.size, 4, none⟩) (by show w.heap.size + 1 ≠ w.heap.size; omega) _)
 replace BB : Hid (Below w.heap.size w (w5.setCell ⟨w.heap.size, 4, none⟩ (.slice b4 m.paces.length q4))) := hide ((uh BB).setCell (p := ⟨w.heap.size, 4, none⟩) (Nat.le_refl _) _)
 replace n0 := hide ((uh n0).set_old w.heap.size 4 (.slice b4 m.paces.length q4) (by omega))
 replace n1 := hide (RecAt.set_old (uh n1) w.heap.size 4 (.slice b4 m.paces.length q4) (by omega))
 replace n2 := hide (RecAt.set_old (uh n2) w.heap.size 4 (.slice b4 m.paces.length q4) (by omega))
 replace n3 := hide (RecAt.set_old (uh n3) w.heap.size 4 (.slice b4 m.paces.length q4) (by omega))
 replace n4 := hide (RecAt.set_old (uh n4) w.heap.size 4 (.slice b4 m.paces.length q4) (by omega))
 have g4 : w5.heap.size ≤ (w5.setCell ⟨w.heap.size, 4, none⟩ (.slice b4 m.paces.length q4)).heap.size := by simp
 generalize w5.setCell ⟨w.heap.size, 4, none⟩ (.slice b4 m.paces.length q4) = X4 at *
 obtain ⟨c0, c1, c2, c3, c4, c5⟩ := (uh kb).c6
 obtain ⟨o0, o1, o2, o3, o4, o5⟩ := (uh kr).c6
 obtain ⟨f0, f1, f2, f3, f4, f5⟩ := (uh kr).f6
 go_wp2_with fail
 refine bodyPost_ret (v := .agg (S6 b0 q0 b1 q1 b2 q2 b3 q3 b4 q4 m)) (by simp [results, Tryz.results39, go_sem, *]) rfl ⟨_, _, _, _, _, qs, rfl, ?_, ?_⟩
 ·refine FullSmy.mono (n₀ := w.heap.size + 2) (full_of w1.heap.size w2.heap.size w3.heap.size w4.heap.size ?_ (uh Hmap) ?_ ?_ ?_ ?_ (uh L0) (uh M1) (uh M2) (uh M3) (fun b e => (uh M4 b e).1) z1 z2 z3) (by omega)
  ·iterate 6 (refine OwnHall.set_old ?_ _ _ _ (by omega))
   exact uh n0
  ·iterate 6 (refine RecAt.set_old ?_ _ _ _ (by omega))
   exact uh n1
  ·iterate 6 (refine RecAt.set_old ?_ _ _ _ (by omega))
   exact uh n2
  ·iterate 6 (refine RecAt.set_old ?_ _ _ _ (by omega))
   exact uh n3
  ·iterate 6 (refine RecAt.set_old ?_ _ _ _ (by omega))
   exact uh n4
 ·iterate 6 (refine Below.setCell ?_ (by show _ ≤ w.heap.size + 1; omega) _)
  exact uh BB
def zeroM : SmyV := ⟨[], [], [], [], [], 0⟩
theorem few_of {m : SmyV} (h : Loose m) : Few m := by
 have hd := h.head
 unfold headB at hd
 simp only [Bool.and_eq_true, decide_eq_true_eq] at hd
 obtain ⟨h1, h2, h3, h4, h5, _⟩ := hd
 obtain ⟨r1, r2, r3, r4⟩ := hallB_of h1
 have hg := (guildsB_of h2).2
 refine ⟨by omega, fun r hr => ?_, by omega, by omega, by omega, by omega⟩
 have hrb := List.all_eq_true.1 r3 r hr
 unfold roomB at hrb
 simp only [Bool.and_eq_true] at hrb
 have := inB_of hrb.2.1
 omega
open Go.ChangeShapes Go.WideShapes Go.ChangeAt Go.RowKit
theorem pulls_any (x u : Int) (w : World) (h1 : 0 ≤ u) (h2 : u ≤ 1024) (h3 : 0 ≤ x) (h4 : x ≤ 1024) : Calls Tryz.prog 268 #[.int .i64 x, .int .i64 u] w fun e w' => e = .returned (.int .i64 ((31 * u + x) / 32)) ∧ w' = w := by
 go_enter Tryz.func268, Tryz.ntmps268
 go_wp2
 go_ret
 exact ⟨rfl, rfl⟩
theorem repeated_any (x u : Int) (n : Nat) (w : World) (h1 : 0 ≤ u) (h2 : u ≤ 1024) (h3 : 0 ≤ x) (h4 : x ≤ 1024) (hn : n ≤ 1000) :
  Calls Tryz.prog 267 #[.func (Fn.func 268) #[.int .i64 x] #[], .int .i64 u, .int .i64 n] w fun e w' => e = .returned (.int .i64 (fadeN x n u)) ∧ w' = w := by
 go_enter Tryz.func267, Tryz.ntmps267
 go_wp2_with fail
 go_loop [1, 8] (fun s i => ∃ k : Nat, k ≤ n ∧ i = .int .i64 k ∧ s = .int .i64 (fadeN x k u)) (fun _ i => n - (intOf i).toNat)
 case atStart => exact ⟨0, Nat.zero_le _, rfl, rfl⟩
 case round =>
  obtain ⟨k, hk, rfl, rfl⟩ := hrel
  obtain ⟨f1, f2⟩ := fadeN_bd x h3 h4 k u h1 h2
  have Hs := hide (fadeN_succ x k u)
  generalize hz : fadeN x k u = z at *
  have Hz := hide hz
  clear hz
  by_cases hlt : k < n
  ·go_wp2_with fail
   refine (pulls_any x z _ f1 f2 h3 h4).mono ?_
   rintro e w' ⟨rfl, rfl⟩
   go_wp2_with fail
   go_round
   case rel => exact ⟨k + 1, by omega, by go_num, by rw [uh Hs]⟩
   case measure => exact ms
  ·go_wp2_with fail
   go_ret
   exact ⟨ret_int (by rw [← uh Hz, show k = n from by omega]), rfl⟩
theorem implFadedMany_any (u x n : Int) (w : World) : Calls Tryz.prog 210 #[.int .i64 u, .int .i64 x, .int .i64 n] w fun e w' => e = .returned (.int .i64 (fadedManyV u x n)) ∧ Below w.heap.size w w' := by
 refine ways3 u x n 0 1024 0 1024 0 1000 ?_ ?_ ?_ ?_
 ·intro ha
  have hv : fadedManyV u x n = -1 := by simp [fadedManyV, ha]
  rw [hv]; clear hv
  go_enter Tryz.func210, Tryz.ntmps210
  go_wp2_with fail
  refine (two_isUtil u x _ _ rfl).mono ?_
  rintro e w' ⟨rfl, rfl⟩
  go_wp2_with fail
  go_ret
  exact ⟨rfl, (ba _ _)⟩
 ·intro ha hb
  have hv : fadedManyV u x n = -1 := by simp [fadedManyV, hb]
  rw [hv]; clear hv
  go_enter Tryz.func210, Tryz.ntmps210
  go_wp2_with fail
  refine (two_isUtil u x _ _ rfl).mono ?_
  rintro e w' ⟨rfl, rfl⟩
  go_wp2_with fail
  go_ret
  exact ⟨rfl, (ba _ _)⟩
 ·intro ha hb hc
  have hv : fadedManyV u x n = -1 := by simp [fadedManyV, hc]
  rw [hv]; clear hv
  go_enter Tryz.func210, Tryz.ntmps210
  go_wp2_with fail
  refine (two_isUtil u x _ _ rfl).mono ?_
  rintro e w' ⟨rfl, rfl⟩
  go_wp2_with fail
  refine (one_isFadings n _ _ (by simp)).mono ?_
  rintro e w' ⟨rfl, rfl⟩
  go_wp2_with fail
  go_ret
  exact ⟨rfl, ((ba _ _)).alloc (by simp) _⟩
 ·intro ha hb hc
  have hv : fadedManyV u x n = fadeN x n.toNat u := by simp [fadedManyV, ha, hb, hc]
  rw [hv]; clear hv
  obtain ⟨a0, a1⟩ := inB_of ha
  obtain ⟨b0, b1⟩ := inB_of hb
  obtain ⟨c0, c1⟩ := inB_of hc
  obtain ⟨m, rfl⟩ := Int.eq_ofNat_of_zero_le c0
  rw [Int.toNat_natCast]
  go_enter Tryz.func210, Tryz.ntmps210
  go_wp2_with fail
  refine (two_isUtil u x _ _ rfl).mono ?_
  rintro e w' ⟨rfl, rfl⟩
  go_wp2_with fail
  refine (one_isFadings m _ _ (by simp)).mono ?_
  rintro e w' ⟨rfl, rfl⟩
  go_wp2_with fail
  refine (repeated_any x u m _ a0 a1 b0 b1 (by omega)).mono ?_
  rintro e w' ⟨rfl, rfl⟩
  go_wp2_with fail
  go_ret
  exact ⟨rfl, ((ba _ _)).alloc (by simp) _⟩
theorem specFadedMany_any (u x n : Int) (w : World) : Calls Tryz.prog 14 #[.int .i64 u, .int .i64 x, .int .i64 n] w fun e w' => e = .returned (.int .i64 (fadedManyV u x n)) ∧ w' = w := by
 refine ways3 u x n 0 1024 0 1024 0 1000 ?_ ?_ ?_ ?_
 ·intro ha
  have hv : fadedManyV u x n = -1 := by simp [fadedManyV, ha]
  rw [hv]; clear hv
  go_enter Tryz.func14, Tryz.ntmps14
  go_wp2_with (first | (go_at_call 49; refine (l1Force_any _ _).mono ?_; rintro e w' ⟨rfl, rfl⟩) | (go_at_call 40; refine (l1In_any _ _ _ _).mono ?_; rintro e w' ⟨rfl, rfl⟩))
  go_ret
  exact ⟨rfl, rfl⟩
 ·intro ha hb
  have hv : fadedManyV u x n = -1 := by simp [fadedManyV, hb]
  rw [hv]; clear hv
  go_enter Tryz.func14, Tryz.ntmps14
  go_wp2_with (first | (go_at_call 49; refine (l1Force_any _ _).mono ?_; rintro e w' ⟨rfl, rfl⟩) | (go_at_call 40; refine (l1In_any _ _ _ _).mono ?_; rintro e w' ⟨rfl, rfl⟩))
  go_ret
  exact ⟨rfl, rfl⟩
 ·intro ha hb hc
  have hv : fadedManyV u x n = -1 := by simp [fadedManyV, hc]
  rw [hv]; clear hv
  go_enter Tryz.func14, Tryz.ntmps14
  go_wp2_with (first | (go_at_call 49; refine (l1Force_any _ _).mono ?_; rintro e w' ⟨rfl, rfl⟩) | (go_at_call 40; refine (l1In_any _ _ _ _).mono ?_; rintro e w' ⟨rfl, rfl⟩))
  go_ret
  exact ⟨rfl, rfl⟩
 ·intro ha hb hc
  have hv : fadedManyV u x n = fadeN x n.toNat u := by simp [fadedManyV, ha, hb, hc]
  rw [hv]; clear hv
  obtain ⟨a0, a1⟩ := inB_of ha
  obtain ⟨b0, b1⟩ := inB_of hb
  obtain ⟨c0, c1⟩ := inB_of hc
  obtain ⟨m, rfl⟩ := Int.eq_ofNat_of_zero_le c0
  rw [Int.toNat_natCast]
  go_enter Tryz.func14, Tryz.ntmps14
  go_wp2_with (first | (go_at_call 49; refine (l1Force_any _ _).mono ?_; rintro e w' ⟨rfl, rfl⟩) | (go_at_call 40; refine (l1In_any _ _ _ _).mono ?_; rintro e w' ⟨rfl, rfl⟩))
  go_loop [0, 2] (fun s i => ∃ k : Nat, k ≤ m ∧ i = .int .i64 ((m : Int) - k) ∧ s = .int .i64 (fadeN x k u)) (fun _ i => (intOf i).toNat)
  case atStart => exact ⟨0, Nat.zero_le _, by simp, rfl⟩
  case round =>
   obtain ⟨k, hk, rfl, rfl⟩ := hrel
   obtain ⟨f1, f2⟩ := fadeN_bd x b0 b1 k u a0 a1
   have Hs := hide (fadeN_succ x k u)
   generalize hz : fadeN x k u = z at *
   have Hz := hide hz
   clear hz
   by_cases hlt : k < m
   ·go_wp2_with fail
    go_round
    case rel => exact ⟨k + 1, by omega, by go_num, by rw [uh Hs]⟩
    case measure => exact ms
   ·go_wp2_with fail
    go_ret
    exact ⟨ret_int (by rw [← uh Hz, show k = m from by omega]), rfl⟩
theorem smy_twelve {m : SmyV} (h : Loose m) : m.smiths.length ≤ 12 := by
 have hd := h.head
 unfold headB at hd
 simp only [Bool.and_eq_true, decide_eq_true_eq] at hd
 exact hd.2.2.1
def forceNow (m : SmyV) (b : Int) : Int := (paceAt (roomAt m.rooms (roomN m.rooms b)).2 (recAt m.paces (roomN m.rooms b)).toNat).1
def utilS (s : SmithV) (u : Int) : SmithV := (s.1, s.2.1, s.2.2.1, s.2.2.2.1, s.2.2.2.2.1, s.2.2.2.2.2.1, s.2.2.2.2.2.2.1, s.2.2.2.2.2.2.2.1, s.2.2.2.2.2.2.2.2.1, u, s.2.2.2.2.2.2.2.2.2.2)
def utilOf (s : SmithV) : Int := s.2.2.2.2.2.2.2.2.2.1
def tickS (m : SmyV) (n : Int) (s : SmithV) : Option SmithV :=
 if s.1 = 0 then some s else if s.1 = 3 then (if (chargedV s (n * forceNow m s.2.1)).2 then some (utilS (chargedV s (n * forceNow m s.2.1)).1 (fadedManyV (utilOf (chargedV s (n * forceNow m s.2.1)).1) (forceNow m s.2.1) n)) else none) else some (utilS s (fadedManyV (utilOf s) 0 n))
def tickTo (m : SmyV) (n : Int) : Nat → Option (List SmithV)
 | 0 => some m.smiths
 | k + 1 => match tickTo m n k with
  | none => none
  | some ss => match tickS m n (recAt m.smiths k) with
   | none => none
   | some t => some (ss.set k t)
theorem tickTo_same {m : SmyV} {n : Int} : ∀ {k : Nat} {ss : List SmithV}, tickTo m n k = some ss → ss.length = m.smiths.length ∧ ∀ j, k ≤ j → recAt ss j = recAt m.smiths j
 | 0, ss, h => by cases h; exact ⟨rfl, fun _ _ => rfl⟩
 | k + 1, ss, h => by
  unfold tickTo at h
  cases ht : tickTo m n k with
  | none => rw [ht] at h; cases h
  | some s0 =>
   rw [ht] at h
   simp only at h
   cases h1 : tickS m n (recAt m.smiths k) with
   | none => rw [h1] at h; cases h
   | some t =>
    rw [h1] at h
    cases h
    obtain ⟨e1, e2⟩ := tickTo_same ht
    refine ⟨by simpa using e1, fun j hj => ?_⟩
    rw [← e2 j (by omega)]
    unfold recAt
    simp [List.getD, List.getElem?_set_ne (show k ≠ j by omega)]
theorem tickTo_none {m : SmyV} {n : Int} {k : Nat} : ∀ d, tickTo m n k = none → tickTo m n (k + d) = none
 | 0, h => h
 | d + 1, h => by
  have := tickTo_none d h
  show tickTo m n (k + d + 1) = none
  unfold tickTo
  rw [this]
def tickX (m : SmyV) (n : Int) (ss : List SmithV) : SmyV := { m with smiths := ss, now := m.now + n }
def tickV (m : SmyV) (n : Int) : SmyV × Int :=
 if smyB m then (if inB n 1 20 then (match tickTo m n m.smiths.length with
  | none => (m, 4)
  | some ss => if looseB (tickX m n ss) then (turnV (tickX m n ss), 0) else (m, 4)) else (m, 3)) else (zeroM, 3)
theorem tick_right {m : SmyV} (h : smyB m = true) (n : Int) : smyB (tickV m n).1 = true := by
 unfold tickV
 rw [h]
 simp only [if_true]
 split
 ·split
  ·exact h
  ·split
   ·rename_i hl
    exact turn_right (loose_of hl)
   ·exact h
 ·exact h
theorem smith_equal (x0 x1 x2 x3 x4 x5 x6 x7 x8 x9 x10 y0 y1 y2 y3 y4 y5 y6 y7 y8 y9 y10 : Int) (w : World) : (Op.equalIn 10000 39 (.agg (I11 x0 x1 x2 x3 x4 x5 x6 x7 x8 x9 x10)) (.agg (I11 y0 y1 y2 y3 y4 y5 y6 y7 y8 y9 y10))).run Tryz.prog w = .ok (sameB (x0, x1, x2, x3, x4, x5, x6, x7, x8, x9, x10) (y0, y1, y2, y3, y4, y5, y6, y7, y8, y9, y10)) w := by
 have u := Tryz.underlying2
 have a := Tryz.isAgg2
 have z := Tryz.sizeOf2
 have hS : Tryz.prog.underlying 39 = some (.struct (Tryz.prog.fieldsOf 39)) := by kernel_rfl
 have hp : Tryz.prog.stoodInHeld 39 = false := by kernel_rfl
 rw [show (10000 : Nat) = 9999 + 1 from rfl, run_equalIn_agg w 9999 39 _ _ hS hp]
 simp only [Program.fieldsOf, Tryz.underlying39]
 go_simp
 unfold sameB
 by_cases h0 : x0 = y0
 rotate_left
 ·simp [h0]
 subst h0
 by_cases h1 : x1 = y1
 rotate_left
 ·simp [h1]
 subst h1
 by_cases h2 : x2 = y2
 rotate_left
 ·simp [h2]
 subst h2
 by_cases h3 : x3 = y3
 rotate_left
 ·simp [h3]
 subst h3
 by_cases h4 : x4 = y4
 rotate_left
 ·simp [h4]
 subst h4
 by_cases h5 : x5 = y5
 rotate_left
 ·simp [h5]
 subst h5
 by_cases h6 : x6 = y6
 rotate_left
 ·simp [h6]
 subst h6
 by_cases h7 : x7 = y7
 rotate_left
 ·simp [h7]
 subst h7
 by_cases h8 : x8 = y8
 rotate_left
 ·simp [h8]
 subst h8
 by_cases h9 : x9 = y9
 rotate_left
 ·simp [h9]
 subst h9
 by_cases h10 : x10 = y10
 rotate_left
 ·simp [h10]
 subst h10
 simp
theorem smith_eql (x0 x1 x2 x3 x4 x5 x6 x7 x8 x9 x10 y0 y1 y2 y3 y4 y5 y6 y7 y8 y9 y10 : Int) (w : World) : (binOp .eql 39 (.agg (I11 x0 x1 x2 x3 x4 x5 x6 x7 x8 x9 x10)) (.agg (I11 y0 y1 y2 y3 y4 y5 y6 y7 y8 y9 y10))).run Tryz.prog w = .ok (.bool (sameB (x0, x1, x2, x3, x4, x5, x6, x7, x8, x9, x10) (y0, y1, y2, y3, y4, y5, y6, y7, y8, y9, y10))) w := by
 rw [run_eql_struct, smith_equal]; rfl
theorem smith_neq (x0 x1 x2 x3 x4 x5 x6 x7 x8 x9 x10 y0 y1 y2 y3 y4 y5 y6 y7 y8 y9 y10 : Int) (w : World) : (binOp .neq 39 (.agg (I11 x0 x1 x2 x3 x4 x5 x6 x7 x8 x9 x10)) (.agg (I11 y0 y1 y2 y3 y4 y5 y6 y7 y8 y9 y10))).run Tryz.prog w = .ok (.bool (!sameB (x0, x1, x2, x3, x4, x5, x6, x7, x8, x9, x10) (y0, y1, y2, y3, y4, y5, y6, y7, y8, y9, y10))) w := by
 rw [run_neq_struct, smith_equal]; rfl
theorem implWeightOf_v {r x : Int} (h : weightV r = x) (w : World) : Calls Tryz.prog 262 #[.int .i64 r] w fun e w' => e = .returned (.int .i64 x) ∧ w' = w := by
 have := implWeightOf_any r w; rw [h] at this; exact this
theorem specWeightOf_v {r x : Int} (h : weightV r = x) (w : World) : Calls Tryz.prog 102 #[.int .i64 r] w fun e w' => e = .returned (.int .i64 x) ∧ w' = w := by
 have := specWeightOf_any r w; rw [h] at this; exact this
attribute [local go_sem ↓] smith_eql smith_neq
theorem specHad_any (n : Int) (w : World) : Calls Tryz.prog 161 #[.int .i64 n] w fun e w' => e = .returned (.bool (inB n (-1000000000000) 1000000000000)) ∧ w' = w := by
 go_enter Tryz.func161, Tryz.ntmps161
 go_wp2_with (go_at_call 40; refine (l1In_any _ _ _ _).mono ?_; rintro e w' ⟨rfl, rfl⟩)
 go_ret
 exact ⟨rfl, rfl⟩
theorem specSmithOk_any (st be rk my gu lo hi hd ca ut wk : Int) (w : World) : Calls Tryz.prog 100 #[.agg (I11 st be rk my gu lo hi hd ca ut wk)] w fun e w' => e = .returned (.bool (smithB (st, be, rk, my, gu, lo, hi, hd, ca, ut, wk))) ∧ Below w.heap.size w w' := by
 by_cases hst : st = 0
 ·subst hst
  unfold smithB
  rw [presB_st rfl, Bool.or_false]
  obtain ⟨q, hq⟩ : ∃ q, goneB (0, be, rk, my, gu, lo, hi, hd, ca, ut, wk) = q := ⟨_, rfl⟩
  rw [hq]
  have hz : sameB (0, be, rk, my, gu, lo, hi, hd, ca, ut, wk) (0, 0, 0, 0, 0, 0, 0, 0, 0, 0, 0) = q := hq
  clear hq
  go_enter Tryz.func100, Tryz.ntmps100
  go_wp2_with fail
  go_ret
  exact ⟨rfl, (ba _ _)⟩
 ·have hne : (st == 0) = false := by simpa using hst
  unfold smithB
  rw [goneB_st hst, Bool.false_or]
  unfold presB
  simp only
  obtain ⟨x0, x1⟩ := weight_in rk
  obtain ⟨x, hx⟩ : ∃ x, weightV rk = x := ⟨_, rfl⟩
  rw [hx] at x0 x1 ⊢
  have Hw := hide hx
  have hwr : IntKind.i64.wrap (x - 1) = x - 1 := by rw [IntKind.wrap_i64]; omega
  clear hx hst
  cases h0 : inB st 1 3
  ·go_enter Tryz.func100, Tryz.ntmps100
   go_wp2_with (first | (go_at_call 40; refine (l1In_any _ _ _ _).mono ?_; rintro e w' ⟨rfl, rfl⟩) | (go_at_call 159; refine (l3Rank_any _ _).mono ?_; rintro e w' ⟨rfl, rfl⟩) | (go_at_call 160; refine (l8Pair_any _ _ _).mono ?_; rintro e w' ⟨rfl, rfl⟩))
   go_ret
   exact ⟨rfl, (ba _ _)⟩
  cases h1 : inB be 0 7
  ·go_enter Tryz.func100, Tryz.ntmps100
   go_wp2_with (first | (go_at_call 40; refine (l1In_any _ _ _ _).mono ?_; rintro e w' ⟨rfl, rfl⟩) | (go_at_call 159; refine (l3Rank_any _ _).mono ?_; rintro e w' ⟨rfl, rfl⟩) | (go_at_call 160; refine (l8Pair_any _ _ _).mono ?_; rintro e w' ⟨rfl, rfl⟩))
   go_ret
   exact ⟨rfl, (ba _ _)⟩
  cases h2 : inB rk (-5) 5
  ·go_enter Tryz.func100, Tryz.ntmps100
   go_wp2_with (first | (go_at_call 40; refine (l1In_any _ _ _ _).mono ?_; rintro e w' ⟨rfl, rfl⟩) | (go_at_call 159; refine (l3Rank_any _ _).mono ?_; rintro e w' ⟨rfl, rfl⟩) | (go_at_call 160; refine (l8Pair_any _ _ _).mono ?_; rintro e w' ⟨rfl, rfl⟩))
   go_ret
   exact ⟨rfl, (ba _ _)⟩
  cases h3 : inB my 1 255
  ·go_enter Tryz.func100, Tryz.ntmps100
   go_wp2_with (first | (go_at_call 40; refine (l1In_any _ _ _ _).mono ?_; rintro e w' ⟨rfl, rfl⟩) | (go_at_call 159; refine (l3Rank_any _ _).mono ?_; rintro e w' ⟨rfl, rfl⟩) | (go_at_call 160; refine (l8Pair_any _ _ _).mono ?_; rintro e w' ⟨rfl, rfl⟩))
   go_ret
   exact ⟨rfl, (ba _ _)⟩
  cases h4 : inB gu (-1) 5
  ·go_enter Tryz.func100, Tryz.ntmps100
   go_wp2_with (first | (go_at_call 40; refine (l1In_any _ _ _ _).mono ?_; rintro e w' ⟨rfl, rfl⟩) | (go_at_call 159; refine (l3Rank_any _ _).mono ?_; rintro e w' ⟨rfl, rfl⟩) | (go_at_call 160; refine (l8Pair_any _ _ _).mono ?_; rintro e w' ⟨rfl, rfl⟩))
   go_ret
   exact ⟨rfl, (ba _ _)⟩
  cases h5 : pairB lo hi
  ·go_enter Tryz.func100, Tryz.ntmps100
   go_wp2_with (first | (go_at_call 40; refine (l1In_any _ _ _ _).mono ?_; rintro e w' ⟨rfl, rfl⟩) | (go_at_call 159; refine (l3Rank_any _ _).mono ?_; rintro e w' ⟨rfl, rfl⟩) | (go_at_call 160; refine (l8Pair_any _ _ _).mono ?_; rintro e w' ⟨rfl, rfl⟩))
   go_ret
   exact ⟨rfl, (ba _ _)⟩
  cases h6 : inB hd (-1000000000000) 1000000000000
  ·go_enter Tryz.func100, Tryz.ntmps100
   go_wp2_with (first | (go_at_call 40; refine (l1In_any _ _ _ _).mono ?_; rintro e w' ⟨rfl, rfl⟩) | (go_at_call 159; refine (l3Rank_any _ _).mono ?_; rintro e w' ⟨rfl, rfl⟩) | (go_at_call 160; refine (l8Pair_any _ _ _).mono ?_; rintro e w' ⟨rfl, rfl⟩))
   go_quiet (first | exact Calls.quiet_of_same (l1In_any _ _ _ _) | exact Calls.quiet_of_same (specHad_any _ _) | exact Calls.quiet_of_same (specWeightOf_v (uh Hw) _) | exact Calls.quiet_of_same (guildForce_any _ _))
   go_wp2_with fail
   go_ret
   exact ⟨rfl, drewN_below ((ba _ _)) _⟩
  cases h7 : inB ca 0 (x - 1)
  ·go_enter Tryz.func100, Tryz.ntmps100
   go_wp2_with (first | (go_at_call 40; refine (l1In_any _ _ _ _).mono ?_; rintro e w' ⟨rfl, rfl⟩) | (go_at_call 159; refine (l3Rank_any _ _).mono ?_; rintro e w' ⟨rfl, rfl⟩) | (go_at_call 160; refine (l8Pair_any _ _ _).mono ?_; rintro e w' ⟨rfl, rfl⟩))
   go_quiet (first | exact Calls.quiet_of_same (l1In_any _ _ _ _) | exact Calls.quiet_of_same (specHad_any _ _) | exact Calls.quiet_of_same (specWeightOf_v (uh Hw) _) | exact Calls.quiet_of_same (guildForce_any _ _))
   go_wp2_with fail
   go_ret
   exact ⟨rfl, drewN_below ((ba _ _)) _⟩
  cases h8 : inB ut 0 1024
  ·go_enter Tryz.func100, Tryz.ntmps100
   go_wp2_with (first | (go_at_call 40; refine (l1In_any _ _ _ _).mono ?_; rintro e w' ⟨rfl, rfl⟩) | (go_at_call 159; refine (l3Rank_any _ _).mono ?_; rintro e w' ⟨rfl, rfl⟩) | (go_at_call 160; refine (l8Pair_any _ _ _).mono ?_; rintro e w' ⟨rfl, rfl⟩))
   go_quiet (first | exact Calls.quiet_of_same (l1In_any _ _ _ _) | exact Calls.quiet_of_same (specHad_any _ _) | exact Calls.quiet_of_same (specWeightOf_v (uh Hw) _) | exact Calls.quiet_of_same (guildForce_any _ _))
   go_wp2_with fail
   go_ret
   exact ⟨rfl, drewN_below ((ba _ _)) _⟩
  cases h9 : inB wk 0 100000000000
  ·go_enter Tryz.func100, Tryz.ntmps100
   go_wp2_with (first | (go_at_call 40; refine (l1In_any _ _ _ _).mono ?_; rintro e w' ⟨rfl, rfl⟩) | (go_at_call 159; refine (l3Rank_any _ _).mono ?_; rintro e w' ⟨rfl, rfl⟩) | (go_at_call 160; refine (l8Pair_any _ _ _).mono ?_; rintro e w' ⟨rfl, rfl⟩))
   go_quiet (first | exact Calls.quiet_of_same (l1In_any _ _ _ _) | exact Calls.quiet_of_same (specHad_any _ _) | exact Calls.quiet_of_same (specWeightOf_v (uh Hw) _) | exact Calls.quiet_of_same (guildForce_any _ _))
   go_wp2_with fail
   go_ret
   exact ⟨rfl, drewN_below ((ba _ _)) _⟩
  go_enter Tryz.func100, Tryz.ntmps100
  go_wp2_with (first | (go_at_call 40; refine (l1In_any _ _ _ _).mono ?_; rintro e w' ⟨rfl, rfl⟩) | (go_at_call 159; refine (l3Rank_any _ _).mono ?_; rintro e w' ⟨rfl, rfl⟩) | (go_at_call 160; refine (l8Pair_any _ _ _).mono ?_; rintro e w' ⟨rfl, rfl⟩))
  go_quiet (first | exact Calls.quiet_of_same (l1In_any _ _ _ _) | exact Calls.quiet_of_same (specHad_any _ _) | exact Calls.quiet_of_same (specWeightOf_v (uh Hw) _) | exact Calls.quiet_of_same (guildForce_any _ _))
  go_wp2_with fail
  go_ret
  exact ⟨rfl, drewN_below ((ba _ _)) _⟩
end Go.Proofs.YtffcgajndmhpkaaGreatDoor
namespace Go.Proofs.YtffcgajndmhpkaaGreatDoor
open Go.ChangeShapes Go.WideShapes Go.ChangeAt Go.RowKit Go.Sort
set_option linter.unusedVariables false
theorem l11Present_any (st be rk my gu lo hi hd ca ut wk : Int) (w : World) : Calls Tryz.prog 47 #[.agg (I11 st be rk my gu lo hi hd ca ut wk)] w fun e w' =>
  e = .returned (.bool (presS (st, be, rk, my, gu, lo, hi, hd, ca, ut, wk))) ∧ Below w.heap.size w w' := by
 unfold presS
 simp only
 cases h2 : (st == 2)
 all_goals
  go_enter Tryz.func47, Tryz.ntmps47
  go_wp2_with fail
  go_ret
  exact ⟨by first | rfl | (simp), (ba _ _)⟩
theorem specInBand_any (h m : Int) (w : World) : Calls Tryz.prog 107 #[.int .i64 h, .int .i64 m] w fun e w' => e = .returned (.bool (bandB h m)) ∧ w' = w := by
 unfold bandB
 cases h1 : inB h (-1000000000000) 1000000000000
 ·go_enter Tryz.func107, Tryz.ntmps107
  go_wp2_with (first | (go_at_call 161; refine (specHad_any _ _).mono ?_; rintro e w' ⟨rfl, rfl⟩) | (go_at_call 40; refine (l1In_any _ _ _ _).mono ?_; rintro e w' ⟨rfl, rfl⟩))
  go_ret
  exact ⟨rfl, rfl⟩
 cases h2 : inB m (-1000000000000) 1000000000000
 ·go_enter Tryz.func107, Tryz.ntmps107
  go_wp2_with (first | (go_at_call 161; refine (specHad_any _ _).mono ?_; rintro e w' ⟨rfl, rfl⟩) | (go_at_call 40; refine (l1In_any _ _ _ _).mono ?_; rintro e w' ⟨rfl, rfl⟩))
  go_ret
  exact ⟨rfl, rfl⟩
 obtain ⟨a0, a1⟩ := inB_of h1
 obtain ⟨b0, b1⟩ := inB_of h2
 go_enter Tryz.func107, Tryz.ntmps107
 go_wp2_with (first | (go_at_call 161; refine (specHad_any _ _).mono ?_; rintro e w' ⟨rfl, rfl⟩) | (go_at_call 40; refine (l1In_any _ _ _ _).mono ?_; rintro e w' ⟨rfl, rfl⟩))
 go_ret
 exact ⟨rfl, rfl⟩
end Go.Proofs.YtffcgajndmhpkaaGreatDoor
