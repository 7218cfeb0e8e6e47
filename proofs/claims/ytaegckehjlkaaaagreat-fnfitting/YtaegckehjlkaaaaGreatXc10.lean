/- Part 10 of what the proof rests on. No condition but those that a theorem names. -/
import Derived.Test.YtaegckehjlkaaaaGreatXc09
import Derived.Deep.DeepCutAuto
set_option maxHeartbeats 8000000
set_option maxRecDepth 100000
namespace Go.Proofs.YtaegckehjlkaaaaGreat
open Go.ChangeShapes Go.WideShapes Go.ChangeAt Go.RowKit Go.Sort
set_option linter.unusedVariables false
set_option linter.unusedSimpArgs false
variable {w w' w0 w1 w2 w3 w₀ wr W W' X A B C : World} {v v0 v1 v2 v3 v4 u u0 u1 u2 u3 u4 : Value} {m : Z6}
def Tt (p:Z1):List Value:=[.int .i64 p.1,.int .i64 p.2]
theorem J5 (p:Z1):(Tt p).length=2:=rfl
theorem CP:PX 144 2 (.agg #[.int .i64 0,.int .i64 0]) Tt:=⟨by kernel_rfl,rfl,J5,by omega,by omega,fun x u hu=>by
  simp only [Tt,List.mem_cons,List.not_mem_nil,or_false] at hu
  rcases hu with rfl | rfl<;>rfl⟩
theorem IsPaces.rec  {ps : List Z1} (h : IsPaces w v ps) : IsRec 2 Tt w v ps := by
  obtain ⟨a, cap, rfl, hc, hm, hr⟩ := h
  refine ⟨a, cap, rfl, hc, hm, ?_⟩
  rcases hr with hr | ⟨b, off, rfl, hlt, hcl⟩
  · exact .inl hr
  · refine .inr ⟨b, off, rfl, hlt, fun j hj i u hu => ?_⟩
    obtain ⟨c0, c1⟩ := hcl j hj
    have e : Z8 ps j = ZY ps j := by unfold Z8 ZY; simp [List.getD, hj]
    rw [e] at hu
    match i, hu with
    | 0, hu => obtain rfl : u = _ := by simpa [Tt] using hu.symm
               exact c0
    | 1, hu => obtain rfl : u = _ := by simpa [Tt] using hu.symm
               exact c1
    | i + 2, hu => simp [Tt] at hu
theorem FT {B t sz n:Nat}  {xs:List Value} (h:w.ownsRow B t sz v n xs):∃ a cap,v= .slice a n cap:=by
  rcases h.2 with ⟨rfl,hz⟩ | ⟨g,cap,cur,rfl,_⟩
  · exact ⟨none,0,by rw [hz]⟩
  · exact ⟨_,cap,rfl⟩
theorem PN {base t ty : Nat} (ht : Tryz.prog.underlying t = some (.slice 140)) {n : Nat} {xs : List Value} (hown : w.ownsRow base 140 2 v n xs) {g c : Nat} {rb : Int} {pv : Value} (h0 : w.cell? ⟨g, 0, none⟩ = some (.int .i64 rb)) (h1 : w.cell? ⟨g, 1, none⟩ = some pv) (h1c : pv.oneCell' = true) (hn : n ≤ 4000) (hbase : base ≤ w.heap.size) :
    ∃ v' w', (Builtin.append_ #[t, t] ty #[v, .slice (some ⟨g, 0, none⟩) 1 c]).run Tryz.prog w = .ok v' w' ∧ w'.ownsRow base 140 2 v' (n + 1) (xs ++ [.int .i64 rb, pv]) ∧ w.grownBy w' v.ownBlock ∧ (v'.ownBlock = v.ownBlock ∨ v'.ownBlock = some w.heap.size) := by
  obtain ⟨i0, hi, hz0, hz1, hz2⟩ := Rv MV
  obtain ⟨v', w', hr, h2, h3, _, h5⟩ := run_append_own_at (P := Tryz.prog) w base t ty 140 i0 (.agg #[.int .i64 0, .slice none 0 0]) 2 32 ht hi hz0 hz1 hz2 rfl (by omega) v n xs hown ⟨g, 0, none⟩ 1 c [.int .i64 rb, pv] rfl
    (fun j u hu => by
      match j, hu with
      | 0, hu => obtain rfl : u = _ := by simpa using hu.symm
                 rw [LP]; exact h0
      | 1, hu => obtain rfl : u = _ := by simpa using hu.symm
                 rw [LP]; exact h1
      | j + 2, hu => simp at hu)
    (fun u hu => by
      simp only [List.mem_cons, List.not_mem_nil, or_false] at hu
      rcases hu with rfl | rfl
      · rfl
      · exact h1c) (by simp only [maxLen]; omega) (by omega) hbase
  exact ⟨v', w', hr, h2, h3, h5⟩
theorem VB {ops : Array Oper} {o : Oper} {a : Act} {K : Act → World → Prop} {Q : Exit → Act → World → Prop} {E : Prop} (hgd : o.guard = none) (s x : Operand) (t : TypeId)
    (ho : o.op = .call { callee := .builtin .append, args := #[s, x], argTypes := #[t, t] }) {v u v' : Value} {w' : World} (hs : a.eval s = v) (hx : a.eval x = u) (hrun : (Builtin.append_ #[t, t] o.type #[v, u]).run Tryz.prog w = .ok v' w')
    (h : K (a.put o.dst v') w') : if Region.wanted o (yielded ops a.tmps) = true then Oper.wp Tryz.prog o a w K Q else E := by
  have hw : Region.wanted o (yielded ops a.tmps) = true := by simp [Region.wanted, hgd]
  rw [if_pos hw]
  unfold Oper.wp execOp
  simp only [ho, resolve, invoke, builtin, Sem.run_bind, Sem.run_pure, Result.andThen_ok, List.map_toArray, List.map_cons, List.map_nil, hs, hx, hrun]
  exact h
theorem V0  {rs : List Z3} (h : IsRooms w v rs) (hl : rs.length ≤ 1000) (hp : ∀ r ∈ rs, r.2.length ≤ 1000) :
    Calls Tryz.prog 200 #[.agg #[v]] w fun e w' => ∃ v' qs, e = .returned (.agg #[v']) ∧ qs.map (·.1) = rs ∧ OwnHall w.heap.size w' v' qs ∧ Below w.heap.size w w' := by
  have Hv := Z9 h
  obtain ⟨a, cap, rfl, hc, hm, hr⟩ := h
  have Hr := Z9 hr
  have HP := Z9 hp
  clear hr hp
  go_enter Tryz.func200, Tryz.ntmps200
  go_wp2_with fail
  go_loopw [4] (fun i wr => ∃ (k : Nat) (u : Value) (qs : List (Z3 × Value)), k ≤ rs.length ∧ i = .int .i64 k ∧ Blk wr (w.heap.size + 1 + 1) 26 #[u] ∧ Blk wr w.heap.size 26 #[.slice a rs.length cap] ∧ Blk wr (w.heap.size + 1) 26 #[.slice none 0 0] ∧ OwnHall (w.heap.size + 3) wr u qs ∧ qs.map (·.1) = rs.take k ∧ Below w.heap.size w wr) (fun i _ => rs.length - (intOf i).toNat)
  case atStart =>
    refine ⟨0, _, [], Nat.zero_le _, rfl, ?_, ((Blk.new w _ _).alloc _).alloc _, ?_, OwnHall.nil _ _, rfl, (((Below.refl _ _).alloc (Nat.le_refl _) _).alloc (by simp) _).alloc (by simp; omega) _⟩
    · have k := Blk.new ((w.alloc (.cells #[.slice a rs.length cap] 26)).alloc (.cells #[.slice none 0 0] 26)) 26 #[.slice none 0 0]
      rw [World.size_alloc, World.size_alloc] at k
      exact k
    · have k := Blk.new (w.alloc (.cells #[.slice a rs.length cap] 26)) 26 #[.slice none 0 0]
      rw [World.size_alloc] at k
      exact k.alloc _
  case round =>
    obtain ⟨k, u, qs, hk, rfl, ko, ka, kr, ho, hq, hb⟩ := hrel
    have hql : qs.length = k := by have := congrArg List.length hq; simp at this; omega
    obtain ⟨ua, uc, rfl⟩ := ho.shape
    have Hql := Z9 hql
    rw [hql] at ko ho
    clear hql
    have Ko := Z9 ko
    have Ka := Z9 ka
    have Kr := Z9 kr
    have Ho := Z9 ho
    have Hq := Z9 hq
    have Hb := Z9 hb
    have x0 := ko.cell (i := 0) rfl
    have f0 := ko.free 0
    have y0 := ka.cell (i := 0) rfl
    have hsz := ko.lt
    by_cases hlt : k < rs.length
    · rcases uh Hr with e0 | ⟨b, off, rfl, hbw, hcl⟩
      · rw [e0] at hlt; simp at hlt
      obtain ⟨c0, pv, c1, hpv⟩ := hcl k hlt
      rw [← hb.cell (p := ⟨b, off + k * 2, none⟩) hbw] at c0
      rw [← hb.cell (p := ⟨b, off + k * 2 + 1, none⟩) hbw] at c1
      have Hpv := Z9 (hpv.below (hb.mono (Nat.le_refl _)))
      have hpl := uh HP (ZU rs k) (by unfold ZU; simp [List.getD, hlt])
      have Htk : Hid (rs.take (k + 1) = rs.take k ++ [ZU rs k]) := Z9 (by rw [List.take_succ_eq_append_getElem hlt]; unfold ZU; simp [List.getD, hlt])
      generalize ZU rs k = r at *
      obtain ⟨n, ps⟩ := r
      simp only at c0 hpl hpv
      obtain ⟨pa, pc, rfl, _, _, _⟩ := hpv
      have hbw' : b < wr.heap.size := by have := hb.size; omega
      clear hcl ko ka kr ho hq hb
      have x1 := ((uh Ko).alloc (.cells #[] 144)).cell (i := 0) rfl
      have f1 := ((uh Ko).alloc (.cells #[] 144)).free 0
      have y1 := ((uh Ka).alloc (.cells #[] 144)).cell (i := 0) rfl
      have c2 := (((Below.refl wr.heap.size wr).alloc (Nat.le_refl _) (.cells #[] 144)).cell (p := ⟨b, off + k * 2, none⟩) hbw').trans c0
      have c3 := (((Below.refl wr.heap.size wr).alloc (Nat.le_refl _) (.cells #[] 144)).cell (p := ⟨b, off + k * 2 + 1, none⟩) hbw').trans c1
      have HA : Hid (Below wr.heap.size wr (wr.alloc (.cells #[] 144))) := Z9 ((Below.refl wr.heap.size wr).alloc (Nat.le_refl _) _)
      obtain ⟨v4, w4, hrun4, hown4, hg4, hat4⟩ := WG CP (w := (wr.alloc (.cells #[] 144)).drew) (t := 138) (ty := 138) (base := wr.heap.size) Tryz.underlying138 (RecAt.later (YZ (w := wr) rfl (Nat.le_refl _)) (Below.refl _ _).drew) (IsPaces.rec ((uh Hpv).below (uh HA).drew)) (by simp; omega) (by simp)
      rw [List.nil_append] at hown4
      have X4 : Below wr.heap.size wr w4 := (uh HA).drew.trans ((Below.refl _ _).grown hg4 (by simp) (fun i e => by cases e; exact Nat.le_refl _))
      obtain ⟨pa4, pc4, rfl⟩ := RecAt.shape hown4
      have hk4 := (uh Ko).below X4 (uh Ko).lt
      have hz4 := X4.size
      have r0 := hk4.cell (i := 0) rfl
      have r1 := hk4.free 0
      have hk5 := hk4.alloc (.cells #[.int .i64 n, .slice pa4 ps.length pc4] 140)
      have r2 := hk5.cell (i := 0) rfl
      have r3 := (X4.cell (p := ⟨b, off + k * 2, none⟩) hbw').trans c0
      have r4 := ((uh Ka).below X4 (uh Ka).lt).cell (i := 0) rfl
      have r5 := (((uh Ka).below X4 (uh Ka).lt).alloc (.cells #[.int .i64 n, .slice pa4 ps.length pc4] 140)).cell (i := 0) rfl
      have HO4 := Z9 hown4
      have HX4 := Z9 X4
      obtain ⟨v5, w5, hrun5, hown5, hg5, hat5⟩ := PN (w := w4.alloc (.cells #[.int .i64 n, .slice pa4 ps.length pc4] 140)) (t := 24) (ty := 24) (base := w.heap.size + 3) (v := .slice ua k uc) (n := k) (xs := OW qs) Tryz.underlying24 (World.ownsRow.alloc (by have h9 := ((uh Ho).later (uh HX4)).row; rw [uh Hql] at h9; exact h9) _) (g := w4.heap.size) (c := 1) (Z2 w4 (i := 0) rfl) (Z2 w4 (i := 1) rfl) rfl (by omega) (by simp; omega)
      obtain ⟨a5, c5, rfl⟩ := FT hown5
      have hn5 : ∀ i, (Value.slice ua k uc).ownBlock = some i → w.heap.size + 3 ≤ i := fun i e => ((uh Ho).lt (.inl e)).1
      have hk6 := hk5.same (w' := w5) (hg5.block _ hk5.lt (fun e => by have := hn5 _ e.symm; omega))
      have s0 := hk6.cell (i := 0) rfl
      have s1 := hk6.free 0
      have HK6 := Z9 hk6
      have HO5 := Z9 hown5
      have HG5 := Z9 hg5
      have HA5 := Z9 hat5
      have X5 : Hid (Below (w.heap.size + 1 + 1 + 1) wr w5) := Z9 (by
        have q1 : Below wr.heap.size wr w4 := uh HX4
        have q2 : Below w4.heap.size w4 (w4.alloc (.cells #[.int .i64 n, .slice pa4 ps.length pc4] 140)) := (Below.refl _ _).alloc (Nat.le_refl _) _
        have q3 : Below (w.heap.size + 1 + 1 + 1) (w4.alloc (.cells #[.int .i64 n, .slice pa4 ps.length pc4] 140)) w5 := (Below.refl _ _).grown (uh HG5) (by have := q1.size; simp; omega) (fun i e => by have := ((uh Ho).lt (.inl e)).1; omega)
        exact ((q1.mono (by omega)).trans (q2.mono (by have := q1.size; omega))).trans q3)
      have hp5 : OwnHall (w.heap.size + 3) w5 (.slice a5 (k + 1) c5) (qs ++ [((n, ps), .slice pa4 ps.length pc4)]) := by
        have q1 : OwnHall (w.heap.size + 3) w4 (.slice ua k uc) qs := (uh Ho).later (uh HX4)
        have q2 : PacesAt wr.heap.size w4 (.slice pa4 ps.length pc4) ps := uh HO4
        have q3 : PacesAt (w.heap.size + 3) w4 (.slice pa4 ps.length pc4) ps := q2.mono (by omega)
        refine OwnHall.push (w := w4) (w1 := w5) (v := .slice ua k uc) (o := .cells #[.int .i64 n, .slice pa4 ps.length pc4] 140) q1 q3 ?_ ?_ ?_ (uh HG5) (uh HA5)
        · intro b' e e'
          have h8 := (q2.lt e).1
          have h9 := ((uh Ho).lt (.inl e')).2
          omega
        · intro q hq' b' e e'
          have h8 := (q2.lt e').1
          have h9 := ((uh Ho).lt (.inr ⟨q, hq', e⟩)).2
          omega
        · rw [uh Hql]; exact uh HO5
      have HP5 := Z9 hp5
      have z0 := ((uh Ka).below (uh X5) (by omega)).cell (i := 0) rfl
      have z1 := ((uh X5).cell (p := ⟨b, off + k * 2, none⟩) (show b < w.heap.size + 1 + 1 + 1 by omega)).trans c0
      have z2 := ((uh X5).cell (p := ⟨b, off + k * 2 + 1, none⟩) (show b < w.heap.size + 1 + 1 + 1 by omega)).trans c1
      have r6 := ((uh HX4).cell (p := ⟨b, off + k * 2 + 1, none⟩) hbw').trans c1
      have r7 : (w4.alloc (.cells #[.int .i64 n, .slice pa4 ps.length pc4] 140)).cell? ⟨b, off + k * 2, none⟩ = some (.int .i64 n) := (((Below.refl w4.heap.size w4).alloc (Nat.le_refl _) _).cell (p := ⟨b, off + k * 2, none⟩) (by show b < w4.heap.size; omega)).trans r3
      have r8 : (w4.alloc (.cells #[.int .i64 n, .slice pa4 ps.length pc4] 140)).cell? ⟨b, off + k * 2 + 1, none⟩ = some (.slice pa ps.length pc) := (((Below.refl w4.heap.size w4).alloc (Nat.le_refl _) _).cell (p := ⟨b, off + k * 2 + 1, none⟩) (by show b < w4.heap.size; omega)).trans r6
      have t0 : (w5.setCell ⟨w.heap.size + 1 + 1, 0, none⟩ (.slice a5 (k + 1) c5)).cell? ⟨w.heap.size, 0, none⟩ = some (.slice (some ⟨b, off, none⟩) rs.length cap) := (World.cell?_setCell_other _ _ _ _ (by simp)).trans z0
      have t1 : (w5.setCell ⟨w.heap.size + 1 + 1, 0, none⟩ (.slice a5 (k + 1) c5)).cell? ⟨b, off + k * 2, none⟩ = some (.int .i64 n) := (World.cell?_setCell_other _ _ _ _ (fun e => by have := congrArg Addr.block e; simp at this; omega)).trans z1
      have t2 : (w5.setCell ⟨w.heap.size + 1 + 1, 0, none⟩ (.slice a5 (k + 1) c5)).cell? ⟨b, off + k * 2 + 1, none⟩ = some (.slice pa ps.length pc) := (World.cell?_setCell_other _ _ _ _ (fun e => by have := congrArg Addr.block e; simp at this; omega)).trans z2
      have R4 := Z9 hrun4
      have R5 := Z9 hrun5
      clear hown5 hg5 hat5 hk5 hn5 hk6 hown4 X4 hg4 hat4 hk4 hrun4 hrun5 hp5
      go_wp2_with fail
      refine ZL (S := fun w' => w'.cell? ⟨w.heap.size, 0, none⟩ = some (.slice (some ⟨b, off, none⟩) rs.length cap) ∧ w'.cell? ⟨w.heap.size + 1 + 1, 0, none⟩ = some (.slice ua k uc) ∧ w'.cell? ⟨b, off + k * 2, none⟩ = some (.int .i64 n) ∧ w'.cell? ⟨b, off + k * 2 + 1, none⟩ = some (.slice pa ps.length pc)) (by kernel_rfl) (List.cons_ne_nil _ _) (by kernel_rfl) ⟨y0, x0, c0, c1⟩ (fun hHeld => ?_)
      simp only [List.dropLast_cons_cons, List.dropLast_singleton, List.length_cons, List.length_nil, Nat.zero_add, Nat.reduceAdd]
      (refine tk 0 rfl (by assumption) ?_; (try simp only [Act.put, sA, sZ, sS]))
      (refine tk 1 rfl (by assumption) ?_; (try simp only [Act.put, sA, sZ, sS]))
      (refine tk 2 rfl (by assumption) ?_; (try simp only [Act.put, sA, sZ, sS]))
      (refine tk 3 rfl (by assumption) ?_; (try simp only [Act.put, sA, sZ, sS]))
      (refine tk 4 rfl (by assumption) ?_; (try simp only [Act.put, sA, sZ, sS]))
      (refine tk 5 rfl (by assumption) ?_; (try simp only [Act.put, sA, sZ, sS]))
      (refine tk 6 rfl (by assumption) ?_; (try simp only [Act.put, sA, sZ, sS]))
      (refine tk 7 rfl (by assumption) ?_; (try simp only [Act.put, sA, sZ, sS]))
      (refine tk 9 rfl (by assumption) ?_; (try simp only [Act.put, sA, sZ, sS]))
      (refine tk 10 rfl (by assumption) ?_; (try simp only [Act.put, sA, sZ, sS]))
      (refine tk 11 rfl (by assumption) ?_; (try simp only [Act.put, sA, sZ, sS]))
      (refine tk 12 rfl (by assumption) ?_; (try simp only [Act.put, sA, sZ, sS]))
      (refine tk 13 rfl (by assumption) ?_; (try simp only [Act.put, sA, sZ, sS]))
      (refine tk 14 rfl (by assumption) ?_; (try simp only [Act.put, sA, sZ, sS]))
      refine rd 8 rfl (fun K hK => ?_)
      go_simp
      refine hK.out _ _ ⟨y1, x1, c2, c3⟩ (fun hHeld => ?_)
      clear hK K
      (try simp only [Act.put, sA, sZ, sS])
      refine rd 15 rfl (fun K hK => ?_)
      refine VB rfl (.tmp 21) (.tmp 27) 138 rfl rfl rfl (uh R4) ?_
      refine hK.out _ _ ⟨r4, r0, r3, r6⟩ (fun hHeld => ?_)
      clear hK K
      (try simp only [Act.put, sA, sZ, sS])
      (refine tk 16 rfl (by assumption) ?_; (try simp only [Act.put, sA, sZ, sS]))
      refine rd 17 rfl (fun K hK => ?_)
      go_simp
      refine hK.out _ _ ⟨r5, r2, r7, r8⟩ (fun hHeld => ?_)
      clear hK K
      (try simp only [Act.put, sA, sZ, sS])
      refine rd 18 rfl (fun K hK => ?_)
      refine VB rfl (.tmp 14) (.tmp 30) 24 rfl rfl rfl (uh R5) ?_
      refine hK.out _ _ ⟨z0, s0, z1, z2⟩ (fun hHeld => ?_)
      clear hK K
      (try simp only [Act.put, sA, sZ, sS])
      (refine tk 19 rfl (by assumption) ?_; (try simp only [Act.put, sA, sZ, sS]))
      refine wpAnyH_done (by kernel_rfl) ?_ _
      refine ZM rfl rfl ?_
      go_simp
      clear hHeld
      go_wp2_with fail
      go_roundw
      case rel =>
        refine ⟨k + 1, .slice a5 (k + 1) c5, qs ++ [((n, ps), .slice pa4 ps.length pc4)], by omega, by go_num, ?_, ?_, ?_, ?_, by rw [List.map_append, uh Hq, uh Htk]; rfl, ?_⟩
        · have q := (uh HK6).set 0 (.slice a5 (k + 1) c5)
          exact q
        · exact ((uh Ka).below (uh X5) (by omega)).other (by show w.heap.size ≠ w.heap.size + 1 + 1; omega) _
        · exact ((uh Kr).below (uh X5) (by omega)).other (by show w.heap.size + 1 ≠ w.heap.size + 1 + 1; omega) _
        · exact (uh HP5).same fun i h0 hi => heap_setCell_other _ _ _ _ (by show i ≠ w.heap.size + 1 + 1; omega)
        · exact ((uh Hb).trans ((uh X5).mono (by omega))).setCell (by show _ ≤ w.heap.size + 1 + 1; omega) _
      case measure => simp [intOf]; omega
    · obtain rfl : k = rs.length := by omega
      have r0 := kr.cell (i := 0) rfl
      have r1 := kr.free 0
      go_wp2_with fail
      rw [List.take_length] at hq
      refine bodyPost_ret (v := .agg #[.slice ua rs.length uc]) (by simp [results, Tryz.results200, go_sem, *]) rfl ⟨_, qs, rfl, hq, ?_, ?_⟩
      · exact (ho.same fun i h0 hi => heap_setCell_other _ _ _ _ (by show i ≠ w.heap.size + 1; omega)).mono (by omega)
      · exact hb.setCell (by show _ ≤ w.heap.size + 1; omega) _
theorem tyG:PX 154 3 (.agg #[.int .i64 0,.int .i64 0,.int .i64 0]) WY:=⟨by kernel_rfl,rfl,XR,by omega,by omega,fun x u hu=>by
 simp only [WY,List.mem_cons,List.not_mem_nil,or_false] at hu
 rcases hu with rfl | rfl | rfl<;>rfl⟩
theorem tyS:PX 41 11 (.agg #[.int .i64 0,.int .i64 0,.int .i64 0,.int .i64 0,.int .i64 0,.int .i64 0,.int .i64 0,.int .i64 0,.int .i64 0,.int .i64 0,.int .i64 0]) ZR:=⟨by kernel_rfl,rfl,ZT,by omega,by omega,fun x u hu=>by
 simp only [ZR,List.mem_cons,List.not_mem_nil,or_false] at hu
 rcases hu with rfl | rfl | rfl | rfl | rfl | rfl | rfl | rfl | rfl | rfl | rfl<;>rfl⟩
theorem tyD:PX 59 3 (.agg #[.bool false,.int .i64 0,.int .i64 0]) Xj:=⟨by kernel_rfl,rfl,Zm,by omega,by omega,fun x u hu=>by
 simp only [Xj,List.mem_cons,List.not_mem_nil,or_false] at hu
 rcases hu with rfl | rfl | rfl<;>rfl⟩
theorem tyN:PX 2 1 (.int .i64 0) Us:=⟨by kernel_rfl,rfl,YK,by omega,by omega,fun x u hu=>by
 simp only [Us,List.mem_cons,List.not_mem_nil,or_false] at hu
 rcases hu with rfl<;>rfl⟩
structure Few (m:Z6):Prop where
 rooms:m.rooms.length<=1000
 paces:∀ r ∈ m.rooms,r.2.length<=1000
 guilds:m.guilds.length<=1000
 smiths:m.smiths.length<=800
 desks:m.desks.length<=1000
 nums:m.paces.length<=1000
theorem C8 {n₀:Nat}  {qs:List (Z3 × Value)} (s0 s1 s2 s3:Nat) (hh:OwnHall n₀ w v0 qs) (hr:qs.map (·.1)=m.rooms) (hg:GuildsAt n₀ w v1 m.guilds) (hs:SmithsAt n₀ w v2 m.smiths) (hd:DesksAt n₀ w v3 m.desks) (hp:NumsAt n₀ w v4 m.paces)
  (l0:∀ b,(v0.ownBlock=some b\/ ∃ q ∈ qs,q.2.ownBlock=some b)->b<s0) (l1:∀ b,v1.ownBlock=some b->s0<=b/\b<s1) (l2:∀ b,v2.ownBlock=some b->s1<=b/\b<s2) (l3:∀ b,v3.ownBlock=some b->s2<=b/\b<s3) (l4:∀ b,v4.ownBlock=some b->s3<=b) (h1:s0<=s1) (h2:s1<=s2) (h3:s2<=s3) :
  FullSmy n₀ w v0 v1 v2 v3 v4 m qs:=by
 refine ⟨hh,hr,hg,hs,hd,hp,⟨?_,?_⟩,⟨?_,?_⟩,⟨?_,?_⟩,⟨?_,?_⟩,?_,?_,?_,?_,?_,?_⟩
 ·intro b e e';have:=(l1 b e).1;have:=l0 b (.inl e');omega
 ·intro q hq b e e';have:=(l1 b e).1;have:=l0 b (.inr ⟨q,hq,e'⟩);omega
 ·intro b e e';have:=(l2 b e).1;have:=l0 b (.inl e');omega
 ·intro q hq b e e';have:=(l2 b e).1;have:=l0 b (.inr ⟨q,hq,e'⟩);omega
 ·intro b e e';have:=(l3 b e).1;have:=l0 b (.inl e');omega
 ·intro q hq b e e';have:=(l3 b e).1;have:=l0 b (.inr ⟨q,hq,e'⟩);omega
 ·intro b e e';have:=l4 b e;have:=l0 b (.inl e');omega
 ·intro q hq b e e';have:=l4 b e;have:=l0 b (.inr ⟨q,hq,e'⟩);omega
 ·intro b e e';have:=l1 b e;have:=l2 b e';omega
 ·intro b e e';have:=l1 b e;have:=l3 b e';omega
 ·intro b e e';have:=l1 b e;have:=l4 b e';omega
 ·intro b e e';have:=l2 b e;have:=l3 b e';omega
 ·intro b e e';have:=l2 b e;have:=l4 b e';omega
 ·intro b e e';have:=l3 b e;have:=l4 b e';omega
theorem IS  {ps:List ZC} (h:XP w v ps) (hl:ps.length<=1000) :
  Calls Tryz.prog 201 #[v] w fun e w'=> ∃ v',e= .returned v'/\GuildsAt w.heap.size w' v' ps/\Below w.heap.size w w':=by
 have Hv:=Z9 h
 obtain ⟨a,cap,rfl,hc,hm,hr⟩:=h
 clear hr
 go_enter Tryz.func201,Tryz.ntmps201
 go_wp2_with (at_builtin;refine ZH tyG rfl (.tmp 3) (.tmp 4) 27 Tryz.underlying27 rfl w.heap.size _ _ [] ps rfl rfl (YZ rfl (Nat.le_refl _)) ((uh Hv).below ((Below.refl _ _).alloc (Nat.le_refl _) _)) (by simp;omega) (by simp) ?_;intro v' w1 hown hgrow hat)
 go_ret
 refine ⟨v',rfl,by simpa using hown,((Below.refl _ _).alloc (Nat.le_refl _) _).trans ((Below.refl _ _).grown hgrow (by simp) (fun k e=> ?_))⟩
 cases e;exact Nat.le_refl _
theorem Zy  (h:Smy w v0 v1 v2 v3 v4 m) (hF:Few m) :
  Calls Tryz.prog 145 #[.agg #[v0,v1,v2,v3,v4,.int .i64 m.now]] w fun e w'=> ∃ u0 u1 u2 u3 u4 qs,e= .returned (.agg #[u0,u1,u2,u3,u4,.int .i64 m.now])/\FullSmy w.heap.size w' u0 u1 u2 u3 u4 m qs/\Below w.heap.size w w':=by
 have Hv:=Z9 h
 have HF:=Z9 hF
 obtain ⟨a0,p0,a1,p1,a2,p2,a3,p3,a4,p4,rfl,rfl,rfl,rfl,rfl,_,_,_,_,_,_,_,_,_,_⟩:=h.five
 clear h hF
 go_enter Tryz.func145,Tryz.ntmps145
 go_wp2_with fail
 obtain ⟨W,hW,kb,kr,BB⟩:=Yw w 32 (S6 a0 p0 a1 p1 a2 p2 a3 p3 a4 p4 m) 32 E6
 rw [hW]
 clear hW
 have hW:w.heap.size+2<=W.heap.size:=by have:=(uh kr).lt;omega
 refine (V0 ((uh Hv).below (uh BB)).rooms (uh HF).rooms (uh HF).paces).mono ?_
 rintro e w1 ⟨u0,qs,rfl,hmap,hp,hb⟩
 have Hmap:=Z9 hmap
 clear hmap
 have n0:Hid (OwnHall (w.heap.size+2) w1 u0 qs):=Z9 (hp.mono hW)
 replace kb:=bl kb hb
 replace kr:=bl kr hb
 replace BB:=bt BB hb
 have hW1:w.heap.size+2<=w1.heap.size:=by have:=hb.size;omega
 obtain ⟨b0,q0,rfl⟩:=hp.shape
 have hql:qs.length=m.rooms.length:=by rw [<-uh Hmap,List.length_map]
 rw [hql] at n0 ⊢
 have L0:Hid (∀ b,((Value.slice b0 m.rooms.length q0).ownBlock=some b\/ ∃ q ∈ qs,q.2.ownBlock=some b)->b<w1.heap.size):=Z9 (fun b e=>((uh n0).lt e).2)
 clear hp hql hb hW
 have o0:=(uh kb).cell (i:=0) (v:= .slice a0 m.rooms.length p0) rfl
 have f0:=(uh kb).free 0
 go_upto_region 2 with fail
 clear o0 f0
 replace kb:Hid (Blk (w1.setCell ⟨w.heap.size,0,none⟩ (.slice b0 m.rooms.length q0)) w.heap.size 32 #[.slice b0 m.rooms.length q0,.slice a1 m.guilds.length p1,.slice a2 m.smiths.length p2,.slice a3 m.desks.length p3,.slice a4 m.paces.length p4,.int .i64 m.now]):=Z9 ((uh kb).set 0 _)
 replace kr:Hid (Blk (w1.setCell ⟨w.heap.size,0,none⟩ (.slice b0 m.rooms.length q0)) (w.heap.size+1) 32 #[.slice none 0 0,.slice none 0 0,.slice none 0 0,.slice none 0 0,.slice none 0 0,.int .i64 0]):=Z9 ((uh kr).other (a:=⟨w.heap.size,0,none⟩) (by show w.heap.size+1 ≠ w.heap.size;omega) _)
 replace BB:Hid (Below w.heap.size w (w1.setCell ⟨w.heap.size,0,none⟩ (.slice b0 m.rooms.length q0))):=Z9 ((uh BB).setCell (p:=⟨w.heap.size,0,none⟩) (Nat.le_refl _) _)
 replace n0:=Z9 ((uh n0).set_old w.heap.size 0 (.slice b0 m.rooms.length q0) (by omega))
 have g0:w1.heap.size<=(w1.setCell ⟨w.heap.size,0,none⟩ (.slice b0 m.rooms.length q0)).heap.size:=by simp
 generalize w1.setCell ⟨w.heap.size,0,none⟩ (.slice b0 m.rooms.length q0)=X0 at *
 have c1:=(uh kb).cell (i:=1) (v:= .slice a1 m.guilds.length p1) rfl
 go_wp2_with fail
 clear c1
 refine (IS ((uh Hv).below (uh BB)).guilds (uh HF).guilds).mono ?_
 rintro e w2 ⟨u1,rfl,hp,hb⟩
 have n1:Hid (GuildsAt (w.heap.size+2) w2 u1 m.guilds):=Z9 (RecAt.mono hp (by omega))
 have M1:Hid (∀ b,u1.ownBlock=some b->w1.heap.size<=b/\b<w2.heap.size):=Z9 (fun b e=>⟨Nat.le_trans g0 (RecAt.lt hp e).1,(RecAt.lt hp e).2⟩)
 replace kb:=bl kb hb
 replace kr:=bl kr hb
 replace n0:=Z9 ((uh n0).later hb)
 replace BB:=bt BB hb
 have z1:w1.heap.size<=w2.heap.size:=Nat.le_trans g0 hb.size
 obtain ⟨b1,q1,rfl⟩:=RecAt.shape hp
 clear hp hb
 have o1:=(uh kb).cell (i:=1) (v:= .slice a1 m.guilds.length p1) rfl
 have f1:=(uh kb).free 1
 go_upto_region 3 with fail
 clear o1 f1
 replace kb:Hid (Blk (w2.setCell ⟨w.heap.size,1,none⟩ (.slice b1 m.guilds.length q1)) w.heap.size 32 #[.slice b0 m.rooms.length q0,.slice b1 m.guilds.length q1,.slice a2 m.smiths.length p2,.slice a3 m.desks.length p3,.slice a4 m.paces.length p4,.int .i64 m.now]):=Z9 ((uh kb).set 1 _)
 replace kr:Hid (Blk (w2.setCell ⟨w.heap.size,1,none⟩ (.slice b1 m.guilds.length q1)) (w.heap.size+1) 32 #[.slice none 0 0,.slice none 0 0,.slice none 0 0,.slice none 0 0,.slice none 0 0,.int .i64 0]):=Z9 ((uh kr).other (a:=⟨w.heap.size,1,none⟩) (by show w.heap.size+1 ≠ w.heap.size;omega) _)
 replace BB:Hid (Below w.heap.size w (w2.setCell ⟨w.heap.size,1,none⟩ (.slice b1 m.guilds.length q1))):=Z9 ((uh BB).setCell (p:=⟨w.heap.size,1,none⟩) (Nat.le_refl _) _)
 replace n0:=Z9 ((uh n0).set_old w.heap.size 1 (.slice b1 m.guilds.length q1) (by omega))
 replace n1:=Z9 (RecAt.set_old (uh n1) w.heap.size 1 (.slice b1 m.guilds.length q1) (by omega))
 have g1:w2.heap.size<=(w2.setCell ⟨w.heap.size,1,none⟩ (.slice b1 m.guilds.length q1)).heap.size:=by simp
 generalize w2.setCell ⟨w.heap.size,1,none⟩ (.slice b1 m.guilds.length q1)=X1 at *
 have c2:=(uh kb).cell (i:=2) (v:= .slice a2 m.smiths.length p2) rfl
 have HX:=Z9 (((uh Hv).below (uh BB)).smiths)
 have hl9:=(uh HF).smiths
 have hlt9:=(uh kb).lt
 go_upto_region 4 with (at_builtin;refine ZH tyS rfl (.tmp 11) (.tmp 13) 28 Tryz.underlying28 rfl X1.heap.size _ _ [] m.smiths rfl rfl (YZ rfl (Nat.le_refl _)) (IsRec.below (uh HX) ((Below.refl _ _).alloc (Nat.le_refl _) _)) (by simp;omega) (by simp) ?_;intro u2 w3 hp9 hg9 hat9;rw [List.nil_append] at hp9;have hb9:Below X1.heap.size X1 w3:=((Below.refl _ _).alloc (Nat.le_refl _) _).trans ((Below.refl _ _).grown hg9 (by simp) (fun k e=>by cases e;exact Nat.le_refl _));have k9:=(uh kb).below hb9 (uh kb).lt;have o9:=k9.cell (i:=2) (v:= .slice a2 m.smiths.length p2) rfl;have f9:=k9.free 2;obtain ⟨a9,c9,hu9⟩:=RecAt.shape hp9;subst hu9;have hp:=Z9 hp9;have hb:=Z9 hb9;clear hp9 hb9 k9 hg9 hat9)
 clear c2 HX hl9 hlt9 o9 f9
 replace hp:=uh hp
 replace hb:=uh hb
 obtain ⟨u2,hu2⟩:∃ u,u=Value.slice a9 m.smiths.length c9:=⟨_,rfl⟩
 rw [<-hu2] at hp ⊢
 clear hu2
 have n2:Hid (SmithsAt (w.heap.size+2) w3 u2 m.smiths):=Z9 (RecAt.mono hp (by omega))
 have M2:Hid (∀ b,u2.ownBlock=some b->w2.heap.size<=b/\b<w3.heap.size):=Z9 (fun b e=>⟨Nat.le_trans g1 (RecAt.lt hp e).1,(RecAt.lt hp e).2⟩)
 replace kb:=bl kb hb
 replace kr:=bl kr hb
 replace n0:=Z9 ((uh n0).later hb)
 replace n1:=Z9 (RecAt.later (uh n1) hb)
 replace BB:=bt BB hb
 have z2:w2.heap.size<=w3.heap.size:=Nat.le_trans g1 hb.size
 obtain ⟨b2,q2,rfl⟩:=RecAt.shape hp
 clear hp hb
 replace kb:Hid (Blk (w3.setCell ⟨w.heap.size,2,none⟩ (.slice b2 m.smiths.length q2)) w.heap.size 32 #[.slice b0 m.rooms.length q0,.slice b1 m.guilds.length q1,.slice b2 m.smiths.length q2,.slice a3 m.desks.length p3,.slice a4 m.paces.length p4,.int .i64 m.now]):=Z9 ((uh kb).set 2 _)
 replace kr:Hid (Blk (w3.setCell ⟨w.heap.size,2,none⟩ (.slice b2 m.smiths.length q2)) (w.heap.size+1) 32 #[.slice none 0 0,.slice none 0 0,.slice none 0 0,.slice none 0 0,.slice none 0 0,.int .i64 0]):=Z9 ((uh kr).other (a:=⟨w.heap.size,2,none⟩) (by show w.heap.size+1 ≠ w.heap.size;omega) _)
 replace BB:Hid (Below w.heap.size w (w3.setCell ⟨w.heap.size,2,none⟩ (.slice b2 m.smiths.length q2))):=Z9 ((uh BB).setCell (p:=⟨w.heap.size,2,none⟩) (Nat.le_refl _) _)
 replace n0:=Z9 ((uh n0).set_old w.heap.size 2 (.slice b2 m.smiths.length q2) (by omega))
 replace n1:=Z9 (RecAt.set_old (uh n1) w.heap.size 2 (.slice b2 m.smiths.length q2) (by omega))
 replace n2:=Z9 (RecAt.set_old (uh n2) w.heap.size 2 (.slice b2 m.smiths.length q2) (by omega))
 have g2:w3.heap.size<=(w3.setCell ⟨w.heap.size,2,none⟩ (.slice b2 m.smiths.length q2)).heap.size:=by simp
 generalize w3.setCell ⟨w.heap.size,2,none⟩ (.slice b2 m.smiths.length q2)=X2 at *
 have c3:=(uh kb).cell (i:=3) (v:= .slice a3 m.desks.length p3) rfl
 have HX:=Z9 (((uh Hv).below (uh BB)).desks)
 have hl9:=(uh HF).desks
 have hlt9:=(uh kb).lt
 go_upto_region 5 with (at_builtin;refine ZH tyD rfl (.tmp 16) (.tmp 18) 29 Tryz.underlying29 rfl X2.heap.size _ _ [] m.desks rfl rfl (YZ rfl (Nat.le_refl _)) (IsRec.below (uh HX) ((Below.refl _ _).alloc (Nat.le_refl _) _)) (by simp;omega) (by simp) ?_;intro u3 w4 hp9 hg9 hat9;rw [List.nil_append] at hp9;have hb9:Below X2.heap.size X2 w4:=((Below.refl _ _).alloc (Nat.le_refl _) _).trans ((Below.refl _ _).grown hg9 (by simp) (fun k e=>by cases e;exact Nat.le_refl _));have k9:=(uh kb).below hb9 (uh kb).lt;have o9:=k9.cell (i:=3) (v:= .slice a3 m.desks.length p3) rfl;have f9:=k9.free 3;obtain ⟨a9,c9,hu9⟩:=RecAt.shape hp9;subst hu9;have hp:=Z9 hp9;have hb:=Z9 hb9;clear hp9 hb9 k9 hg9 hat9)
 clear c3 HX hl9 hlt9 o9 f9
 replace hp:=uh hp
 replace hb:=uh hb
 obtain ⟨u3,hu3⟩:∃ u,u=Value.slice a9 m.desks.length c9:=⟨_,rfl⟩
 rw [<-hu3] at hp ⊢
 clear hu3
 have n3:Hid (DesksAt (w.heap.size+2) w4 u3 m.desks):=Z9 (RecAt.mono hp (by omega))
 have M3:Hid (∀ b,u3.ownBlock=some b->w3.heap.size<=b/\b<w4.heap.size):=Z9 (fun b e=>⟨Nat.le_trans g2 (RecAt.lt hp e).1,(RecAt.lt hp e).2⟩)
 replace kb:=bl kb hb
 replace kr:=bl kr hb
 replace n0:=Z9 ((uh n0).later hb)
 replace n1:=Z9 (RecAt.later (uh n1) hb)
 replace n2:=Z9 (RecAt.later (uh n2) hb)
 replace BB:=bt BB hb
 have z3:w3.heap.size<=w4.heap.size:=Nat.le_trans g2 hb.size
 obtain ⟨b3,q3,rfl⟩:=RecAt.shape hp
 clear hp hb
 replace kb:Hid (Blk (w4.setCell ⟨w.heap.size,3,none⟩ (.slice b3 m.desks.length q3)) w.heap.size 32 #[.slice b0 m.rooms.length q0,.slice b1 m.guilds.length q1,.slice b2 m.smiths.length q2,.slice b3 m.desks.length q3,.slice a4 m.paces.length p4,.int .i64 m.now]):=Z9 ((uh kb).set 3 _)
 replace kr:Hid (Blk (w4.setCell ⟨w.heap.size,3,none⟩ (.slice b3 m.desks.length q3)) (w.heap.size+1) 32 #[.slice none 0 0,.slice none 0 0,.slice none 0 0,.slice none 0 0,.slice none 0 0,.int .i64 0]):=Z9 ((uh kr).other (a:=⟨w.heap.size,3,none⟩) (by show w.heap.size+1 ≠ w.heap.size;omega) _)
 replace BB:Hid (Below w.heap.size w (w4.setCell ⟨w.heap.size,3,none⟩ (.slice b3 m.desks.length q3))):=Z9 ((uh BB).setCell (p:=⟨w.heap.size,3,none⟩) (Nat.le_refl _) _)
 replace n0:=Z9 ((uh n0).set_old w.heap.size 3 (.slice b3 m.desks.length q3) (by omega))
 replace n1:=Z9 (RecAt.set_old (uh n1) w.heap.size 3 (.slice b3 m.desks.length q3) (by omega))
 replace n2:=Z9 (RecAt.set_old (uh n2) w.heap.size 3 (.slice b3 m.desks.length q3) (by omega))
 replace n3:=Z9 (RecAt.set_old (uh n3) w.heap.size 3 (.slice b3 m.desks.length q3) (by omega))
 have g3:w4.heap.size<=(w4.setCell ⟨w.heap.size,3,none⟩ (.slice b3 m.desks.length q3)).heap.size:=by simp
 generalize w4.setCell ⟨w.heap.size,3,none⟩ (.slice b3 m.desks.length q3)=X3 at *
 have c4:=(uh kb).cell (i:=4) (v:= .slice a4 m.paces.length p4) rfl
 have HX:=Z9 (((uh Hv).below (uh BB)).paces)
 have hl9:=(uh HF).nums
 have hlt9:=(uh kb).lt
 go_upto_region 6 with (at_builtin;refine ZH tyN rfl (.tmp 21) (.tmp 23) 30 Tryz.underlying30 rfl X3.heap.size _ _ [] m.paces rfl rfl (YZ rfl (Nat.le_refl _)) (IsRec.below (uh HX) ((Below.refl _ _).alloc (Nat.le_refl _) _)) (by simp;omega) (by simp) ?_;intro u4 w5 hp9 hg9 hat9;rw [List.nil_append] at hp9;have hb9:Below X3.heap.size X3 w5:=((Below.refl _ _).alloc (Nat.le_refl _) _).trans ((Below.refl _ _).grown hg9 (by simp) (fun k e=>by cases e;exact Nat.le_refl _));have k9:=(uh kb).below hb9 (uh kb).lt;have o9:=k9.cell (i:=4) (v:= .slice a4 m.paces.length p4) rfl;have f9:=k9.free 4;obtain ⟨a9,c9,hu9⟩:=RecAt.shape hp9;subst hu9;have hp:=Z9 hp9;have hb:=Z9 hb9;clear hp9 hb9 k9 hg9 hat9)
 clear c4 HX hl9 hlt9 o9 f9
 replace hp:=uh hp
 replace hb:=uh hb
 obtain ⟨u4,hu4⟩:∃ u,u=Value.slice a9 m.paces.length c9:=⟨_,rfl⟩
 rw [<-hu4] at hp ⊢
 clear hu4
 have n4:Hid (NumsAt (w.heap.size+2) w5 u4 m.paces):=Z9 (RecAt.mono hp (by omega))
 have M4:Hid (∀ b,u4.ownBlock=some b->w4.heap.size<=b/\b<w5.heap.size):=Z9 (fun b e=>⟨Nat.le_trans g3 (RecAt.lt hp e).1,(RecAt.lt hp e).2⟩)
 replace kb:=bl kb hb
 replace kr:=bl kr hb
 replace n0:=Z9 ((uh n0).later hb)
 replace n1:=Z9 (RecAt.later (uh n1) hb)
 replace n2:=Z9 (RecAt.later (uh n2) hb)
 replace n3:=Z9 (RecAt.later (uh n3) hb)
 replace BB:=bt BB hb
 have z4:w4.heap.size<=w5.heap.size:=Nat.le_trans g3 hb.size
 obtain ⟨b4,q4,rfl⟩:=RecAt.shape hp
 clear hp hb
 replace kb:Hid (Blk (w5.setCell ⟨w.heap.size,4,none⟩ (.slice b4 m.paces.length q4)) w.heap.size 32 #[.slice b0 m.rooms.length q0,.slice b1 m.guilds.length q1,.slice b2 m.smiths.length q2,.slice b3 m.desks.length q3,.slice b4 m.paces.length q4,.int .i64 m.now]):=Z9 ((uh kb).set 4 _)
 replace kr:Hid (Blk (w5.setCell ⟨w.heap.size,4,none⟩ (.slice b4 m.paces.length q4)) (w.heap.size+1) 32 #[.slice none 0 0,.slice none 0 0,.slice none 0 0,.slice none 0 0,.slice none 0 0,.int .i64 0]):=Z9 ((uh kr).other (a:=⟨w.heap.size,4,none⟩) (by show w.heap.size+1 ≠ w.heap.size;omega) _)
 replace BB:Hid (Below w.heap.size w (w5.setCell ⟨w.heap.size,4,none⟩ (.slice b4 m.paces.length q4))):=Z9 ((uh BB).setCell (p:=⟨w.heap.size,4,none⟩) (Nat.le_refl _) _)
 replace n0:=Z9 ((uh n0).set_old w.heap.size 4 (.slice b4 m.paces.length q4) (by omega))
 replace n1:=Z9 (RecAt.set_old (uh n1) w.heap.size 4 (.slice b4 m.paces.length q4) (by omega))
 replace n2:=Z9 (RecAt.set_old (uh n2) w.heap.size 4 (.slice b4 m.paces.length q4) (by omega))
 replace n3:=Z9 (RecAt.set_old (uh n3) w.heap.size 4 (.slice b4 m.paces.length q4) (by omega))
 replace n4:=Z9 (RecAt.set_old (uh n4) w.heap.size 4 (.slice b4 m.paces.length q4) (by omega))
 have g4:w5.heap.size<=(w5.setCell ⟨w.heap.size,4,none⟩ (.slice b4 m.paces.length q4)).heap.size:=by simp
 generalize w5.setCell ⟨w.heap.size,4,none⟩ (.slice b4 m.paces.length q4)=X4 at *
 obtain ⟨c0,c1,c2,c3,c4,c5⟩:=(uh kb).c6
 obtain ⟨o0,o1,o2,o3,o4,o5⟩:=(uh kr).c6
 obtain ⟨f0,f1,f2,f3,f4,f5⟩:=(uh kr).f6
 go_wp2_with fail
 refine bodyPost_ret (v:= .agg #[.slice b0 m.rooms.length q0,.slice b1 m.guilds.length q1,.slice b2 m.smiths.length q2,.slice b3 m.desks.length q3,.slice b4 m.paces.length q4,.int .i64 m.now]) (by simp [results,Tryz.results145,go_sem, *]) rfl ⟨_,_,_,_,_,qs,rfl,?_,?_⟩
 ·refine FullSmy.mono (n₀:=w.heap.size+2) (C8 w1.heap.size w2.heap.size w3.heap.size w4.heap.size ?_ (uh Hmap) ?_ ?_ ?_ ?_ (uh L0) (uh M1) (uh M2) (uh M3) (fun b e=>(uh M4 b e).1) z1 z2 z3) (by omega)
  ·iterate 6 (refine OwnHall.set_old ?_ _ _ _ (by omega))
   exact uh n0
  ·iterate 6 (refine RecAt.set_old ?_ _ _ _ (by omega))
   exact uh n1
  ·iterate 6 (refine RecAt.set_old ?_ _ _ _ (by omega))
   exact uh n2
  ·iterate 6 (refine RecAt.set_old ?_ _ _ _ (by omega))
   exact uh n3
  ·iterate 6 (refine RecAt.set_old ?_ _ _ _ (by omega))
   exact uh n4
 ·iterate 6 (refine Below.setCell ?_ (by show _<=w.heap.size+1;omega) _)
  exact uh BB
def X9:Z6:=⟨[],[],[],[],[],0⟩
def Yg (m:Z6) (who:Int):Bool:=inB who 0 ((m.smiths.length:Int)-1) && !((Z8 m.smiths who.toNat).1 ==0)
theorem Yz {who:Int} (h:Yg m who=true):∃ k:Nat,who=(k:Int)/\k<m.smiths.length/\(Z8 m.smiths k).1 ≠ 0:=by
 unfold Yg at h
 simp only [Bool.and_eq_true,Bool.not_eq_true',beq_eq_false_iff_ne] at h
 have h1:=ZV h.1
 exact ⟨who.toNat,by omega,by omega,h.2⟩
theorem WZ (h:Loose m):Few m:=by
 have hd:=h.head
 unfold YG at hd
 simp only [Bool.and_eq_true,decide_eq_true_eq] at hd
 obtain ⟨h1,h2,h3,h4,h5,_⟩:=hd
 obtain ⟨r1,r2,r3,r4⟩:=Zs h1
 have hg:=(VY h2).2
 refine ⟨by omega,fun r hr=> ?_,by omega,by omega,by omega,by omega⟩
 have hrb:=List.all_eq_true.1 r3 r hr
 unfold Zj at hrb
 simp only [Bool.and_eq_true] at hrb
 have:=ZV hrb.2.1
 omega
def UI (m:Z6) (who:Int):Z6 × Int:=
 if ZS m then (if Yg m who then (if ZP (Z8 m.smiths who.toNat) then (ZO (setS m who.toNat (stS (Z8 m.smiths who.toNat) 1)),0) else (m,2)) else (m,1)) else (X9,3)
def V2 (m:Z6) (who:Int):Z6 × Int:=
 if ZS m then (if Yg m who then (ZO (setS m who.toNat VQ),0) else (m,1)) else (X9,3)
def Wh (m:Z6) (who lo hi:Int):Z6 × Int:=
 if ZS m then (if Yg m who then (if Yr lo hi then (ZO (setS m who.toNat (IW (Z8 m.smiths who.toNat) lo hi)),0) else (m,3)) else (m,1)) else (X9,3)
def Wk (m:Z6) (who rank:Int):Z6 × Int:=
 if ZS m then (if Yg m who then (if (Ya (Z8 m.smiths who.toNat) rank).2 then (ZO (setS m who.toNat (Ya (Z8 m.smiths who.toNat) rank).1),0) else (m,3)) else (m,1)) else (X9,3)
theorem Jb (h:ZS m=true) (who:Int):ZS (UI m who).1=true:=by
 unfold UI
 rw [h]
 simp only [if_true]
 split
 ·rename_i hw
  obtain ⟨k,rfl,hk,hs⟩:=Yz hw
  rw [show ((k:Int)).toNat=k by simp]
  split
  ·rename_i hp
   exact YM (FC (ZZ h) hk hp)
  ·exact h
 ·exact h
theorem KA (h:ZS m=true) (who:Int):ZS (V2 m who).1=true:=by
 unfold V2
 rw [h]
 simp only [if_true]
 split
 ·rename_i hw
  obtain ⟨k,rfl,hk,hs⟩:=Yz hw
  rw [show ((k:Int)).toNat=k by simp]
  exact YM (II (ZZ h) hk)
 ·exact h
theorem KG (h:ZS m=true) (who lo hi:Int):ZS (Wh m who lo hi).1=true:=by
 unfold Wh
 rw [h]
 simp only [if_true]
 split
 ·rename_i hw
  obtain ⟨k,rfl,hk,hs⟩:=Yz hw
  rw [show ((k:Int)).toNat=k by simp]
  split
  ·rename_i hp
   exact YM (DR (ZZ h) hk hs hp)
  ·exact h
 ·exact h
theorem I9 (h:ZS m=true) (who rank:Int):ZS (Wk m who rank).1=true:=by
 unfold Wk
 rw [h]
 simp only [if_true]
 split
 ·rename_i hw
  obtain ⟨k,rfl,hk,hs⟩:=Yz hw
  rw [show ((k:Int)).toNat=k by simp]
  split
  ·rename_i hp
   exact YM (FB (ZZ h) hk (Prod.ext rfl hp))
  ·exact h
 ·exact h
structure Sane (m:Z6):Prop where
 hall:Ze m.rooms=true
 desks:(m.desks.length:Int)=Z4 m.rooms
 guilded:Gq m
 few:m.smiths.length<=12
theorem Sane.bench (h:Sane m) {b:Nat} (hb:b<m.desks.length):YX m.rooms (b:Int)=true:=MW h.hall (by omega) (by have:=h.desks;omega)
theorem Sane.eight (h:Sane m):m.desks.length<=8:=by have:=(Zs h.hall).2.2.2;have:=h.desks;omega
theorem Loose.sane (h:Loose m):Sane m:=by
 have hd:=h.head
 unfold YG at hd
 simp only [Bool.and_eq_true,decide_eq_true_eq] at hd
 obtain ⟨h1,h2,h3,h4,_⟩:=hd
 refine ⟨h1,h4,⟨h2,fun i hi hs=> ?_,fun i hi hs=>(h.limits hi hs).2.1⟩,h3⟩
 have hp:=(h.limits hi hs).1
 generalize Z8 m.smiths i=s at *
 obtain ⟨st,be,rk,my,gu,lo',hi',hd,ca,ut,wk⟩:=s
 exact (Zc hp).2.2.2.2.1.1
theorem Sane.with (h:Sane m) {k:Nat} (hk:k<m.smiths.length) (hs:(Z8 m.smiths k).1 ≠ 0) (b:Int):Sane (Xi m (k:Int) b):=by
 have hset:∀ i,Z8 (Xi m (k:Int) b).smiths i=if i=k then Sk (Z8 m.smiths k) b else Z8 m.smiths i:=fun i=>by
  unfold Xi
  simp only [Int.toNat_natCast]
  exact ZF hk i
 refine ⟨h.hall,h.desks,⟨h.guilded.guilds,fun i hi hne=> ?_,fun i hi hne=> ?_⟩,by unfold Xi;simpa using h.few⟩
 ·have hi':i<m.smiths.length:=by unfold Xi at hi;simpa using hi
  rw [hset] at hne ⊢
  by_cases e:i=k
  ·rw [if_pos e];exact h.guilded.lo k hk hs
  ·rw [if_neg e] at hne ⊢;exact h.guilded.lo i hi' hne
 ·have hi':i<m.smiths.length:=by unfold Xi at hi;simpa using hi
  rw [hset] at hne ⊢
  by_cases e:i=k
  ·rw [if_pos e];exact h.guilded.hi k hk hs
  ·rw [if_neg e] at hne ⊢;exact h.guilded.hi i hi' hne
theorem Sane.few' (h:Sane m) (hp:m.paces.length<=1000):Few m:=by
 obtain ⟨r1,r2,r3,r4⟩:=Zs h.hall
 have hg:=(VY h.guilded.guilds).2
 refine ⟨by omega,fun r hr=> ?_,by omega,by have:=h.few;omega,by have:=h.eight;omega,hp⟩
 have hrb:=List.all_eq_true.1 r3 r hr
 unfold Zj at hrb
 simp only [Bool.and_eq_true] at hrb
 have:=ZV hrb.2.1
 omega
end Go.Proofs.YtaegckehjlkaaaaGreat
