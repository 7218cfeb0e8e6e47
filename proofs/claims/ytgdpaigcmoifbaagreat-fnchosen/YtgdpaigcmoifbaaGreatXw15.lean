/- Part 15 of what the proof rests on. No condition but those that a theorem names. -/
import Derived.Test.YtgdpaigcmoifbaaGreatXw07
import Derived.Test.YtgdpaigcmoifbaaGreatXw09
import Derived.Test.YtgdpaigcmoifbaaGreatXw10
import Derived.Test.YtgdpaigcmoifbaaGreatXw11
import Derived.Deep.RegionLawGrows
import Derived.Deep.DeepMust
set_option maxHeartbeats 8000000
set_option maxRecDepth 100000
namespace Go.Proofs.YtgdpaigcmoifbaaGreat
open Go.ChangeShapes Go.WideShapes Go.ChangeAt Go.RowKit Go.Sort
set_option linter.unusedVariables false
variable {w w' w0 w1 w2 w3 w₀ wr W W' X A B C : World} {v v0 v1 v2 v3 v4 u u0 u1 u2 u3 u4 : Value}
theorem PacesAt.mono {n₀ n₁:Nat}  {ps:List Z4} (h:PacesAt n₀ w v ps) (hn:n₁<=n₀):PacesAt n₁ w v ps:=SZ h hn
open Go.ChangeShapes Go.WideShapes Go.ChangeAt Go.RowKit Go.Sort Go.Proofs.Tryz
set_option linter.unusedSimpArgs false
def Sc (p:Z4):List Value:=[.int .i64 p.1,.int .i64 p.2]
theorem FZ (p:Z4):(Sc p).length=2:=rfl
theorem Bm:Ob 139 2 (.agg #[.int .i64 0,.int .i64 0]) Sc:=⟨by kernel_rfl,rfl,FZ,by omega,by omega,fun x u hu=>by
  simp only [Sc,List.mem_cons,List.not_mem_nil,or_false] at hu
  rcases hu with rfl | rfl<;>rfl⟩
theorem IsPaces.rec  {ps : List Z4} (h : IsPaces w v ps) : IsRec 2 Sc w v ps := by
  obtain ⟨a, cap, rfl, hc, hm, hr⟩ := h;refine ⟨a, cap, rfl, hc, hm, ?_⟩
  rcases hr with hr | ⟨b, off, rfl, hlt, hcl⟩
  · exact .inl hr
  · refine .inr ⟨b, off, rfl, hlt, fun j hj i u hu => ?_⟩
    obtain ⟨c0, c1⟩ := hcl j hj;have e : Z8 ps j = Z7 ps j := by unfold Z8 Z7; simp [List.getD, hj]
    rw [e] at hu
    match i, hu with
    | 0, hu => obtain rfl : u = _ := by simpa [Sc] using hu.symm
               exact c0
    | 1, hu => obtain rfl : u = _ := by simpa [Sc] using hu.symm
               exact c1
    | i + 2, hu => simp [Sc] at hu
theorem J8 {B t sz n:Nat}  {xs:List Value} (h:w.ownsRow B t sz v n xs):∃ a cap,v= .slice a n cap:=by
  rcases h.2 with ⟨rfl,hz⟩ | ⟨g,cap,cur,rfl,_⟩
  · exact ⟨none,0,by rw [hz]⟩
  · exact ⟨_,cap,rfl⟩
theorem RR {base t ty : Nat} (ht : prog.underlying t = some (.slice 130)) {n : Nat} {xs : List Value} (hown : w.ownsRow base 130 2 v n xs) {g c : Nat} {rb : Int} {pv : Value} (h0 : w.cell? ⟨g, 0, none⟩ = some (.int .i64 rb)) (h1 : w.cell? ⟨g, 1, none⟩ = some pv) (h1c : pv.oneCell' = true) (hn : n ≤ 4000) (hbase : base ≤ w.heap.size) :
    ∃ v' w', (Builtin.append_ #[t, t] ty #[v, .slice (some ⟨g, 0, none⟩) 1 c]).run prog w = .ok v' w' ∧ w'.ownsRow base 130 2 v' (n + 1) (xs ++ [.int .i64 rb, pv]) ∧ w.grownBy w' v.ownBlock ∧ (v'.ownBlock = v.ownBlock ∨ v'.ownBlock = some w.heap.size) := by
  obtain ⟨i0, hi, hz0, hz1, hz2⟩ := PH JT
  obtain ⟨v', w', hr, h2, h3, _, h5⟩ := run_append_own_at (P := prog) w base t ty 130 i0 (.agg #[.int .i64 0, .slice none 0 0]) 2 32 ht hi hz0 hz1 hz2 rfl (by omega) v n xs hown ⟨g, 0, none⟩ 1 c [.int .i64 rb, pv] rfl
    (fun j u hu => by
      match j, hu with
      | 0, hu => obtain rfl : u = _ := by simpa using hu.symm
                 rw [IQ]; exact h0
      | 1, hu => obtain rfl : u = _ := by simpa using hu.symm
                 rw [IQ]; exact h1
      | j + 2, hu => simp at hu)
    (fun u hu => by
      simp only [List.mem_cons, List.not_mem_nil, or_false] at hu
      rcases hu with rfl | rfl
      · rfl
      · exact h1c) (by simp only [maxLen]; omega) (by omega) hbase
  exact ⟨v', w', hr, h2, h3, h5⟩
theorem XY {ops : Array Oper} {o : Oper} {a : Act} {K : Act → World → Prop} {Q : Exit → Act → World → Prop} {E : Prop} (hgd : o.guard = none) (s x : Operand) (t : TypeId)
    (ho : o.op = .call { callee := .builtin .append, args := #[s, x], argTypes := #[t, t] }) {v u v' : Value} {w' : World} (hs : a.eval s = v) (hx : a.eval x = u) (hrun : (Builtin.append_ #[t, t] o.type #[v, u]).run prog w = .ok v' w')
    (h : K (a.put o.dst v') w') : if Region.wanted o (yielded ops a.tmps) = true then Oper.wp prog o a w K Q else E := by
  have hw : Region.wanted o (yielded ops a.tmps) = true := by simp [Region.wanted, hgd]
  rw [if_pos hw];unfold Oper.wp execOp;simp only [ho, resolve, invoke, builtin, Sem.run_bind, Sem.run_pure, Result.andThen_ok, List.map_toArray, List.map_cons, List.map_nil, hs, hx, hrun];exact h
theorem Mq  {rs : List ZY} (h : IsRooms w v rs) (hl : rs.length ≤ 1000) (hp : ∀ r ∈ rs, r.2.length ≤ 1000) :
    Calls prog 137 #[.agg #[v]] w fun e w' => ∃ v' qs, e = .returned (.agg #[v']) ∧ qs.map (·.1) = rs ∧ OwnHall w.heap.size w' v' qs ∧ Below w.heap.size w w' := by
  have Hv := Z9 h;obtain ⟨a, cap, rfl, hc, hm, hr⟩ := h;have Hr := Z9 hr;have HP := Z9 hp;clear hr hp;go_enter func137, ntmps137;go_wp2_with fail
  go_loopw [4] (fun i wr => ∃ (k : Nat) (u : Value) (qs : List (ZY × Value)), k ≤ rs.length ∧ i = .int .i64 k ∧ Blk wr (w.heap.size + 1 + 1) 26 #[u] ∧ Blk wr w.heap.size 26 #[.slice a rs.length cap] ∧ Blk wr (w.heap.size + 1) 26 #[.slice none 0 0] ∧ OwnHall (w.heap.size + 3) wr u qs ∧ qs.map (·.1) = rs.take k ∧ Below w.heap.size w wr) (fun i _ => rs.length - (intOf i).toNat)
  case atStart =>
    refine ⟨0, _, [], ZA _, rfl, ?_, ((Blk.new w _ _).alloc _).alloc _, ?_, OwnHall.nil _ _, rfl, (((ba _ _)).alloc (by simp) _).alloc (by simp; omega) _⟩
    · have k := Blk.new ((w.alloc (.cells #[.slice a rs.length cap] 26)).alloc (.cells #[.slice none 0 0] 26)) 26 #[.slice none 0 0]
      rw [XG, XG] at k;exact k
    · have k := Blk.new (w.alloc (.cells #[.slice a rs.length cap] 26)) 26 #[.slice none 0 0]
      rw [XG] at k;exact k.alloc _
  case round =>
    obtain ⟨k, u, qs, hk, rfl, ko, ka, kr, ho, hq, hb⟩ := hrel;have hql : qs.length = k := by have := congrArg List.length hq; simp at this; omega
    obtain ⟨ua, uc, rfl⟩ := ho.shape;have Hql := Z9 hql;rw [hql] at ko ho;clear hql;have Ko := Z9 ko;have Ka := Z9 ka;have Kr := Z9 kr;have Ho := Z9 ho;have Hq := Z9 hq;have Hb := Z9 hb;have x0 := ko.cell (i := 0) rfl;have f0 := ko.free 0;have y0 := ka.cell (i := 0) rfl;have hsz := ko.lt;by_cases hlt : k < rs.length
    · rcases uh Hr with e0 | ⟨b, off, rfl, hbw, hcl⟩
      · rw [e0] at hlt; simp at hlt
      obtain ⟨c0, pv, c1, hpv⟩ := hcl k hlt;rw [← hb.cell (p := ⟨b, off + k * 2, none⟩) hbw] at c0;rw [← hb.cell (p := ⟨b, off + k * 2 + 1, none⟩) hbw] at c1;have Hpv := Z9 (hpv.below (hb.mono (Z0 _)));have hpl := uh HP (ZQ rs k) (by unfold ZQ; simp [List.getD, hlt]);have Htk : Hid (rs.take (k + 1) = rs.take k ++ [ZQ rs k]) := Z9 (by rw [List.take_succ_eq_append_getElem hlt]; unfold ZQ; simp [List.getD, hlt]);generalize ZQ rs k = r at *;obtain ⟨n, ps⟩ := r;simp only at c0 hpl hpv;obtain ⟨pa, pc, rfl, _, _, _⟩ := hpv;have hbw' : b < wr.heap.size := by have := hb.size; omega
      clear hcl ko ka kr ho hq hb;have x1 := ((uh Ko).alloc (.cells #[] 139)).cell (i := 0) rfl;have f1 := ((uh Ko).alloc (.cells #[] 139)).free 0;have y1 := ((uh Ka).alloc (.cells #[] 139)).cell (i := 0) rfl;have c2 := (((Z3 wr.heap.size wr).alloc (Z0 _) (.cells #[] 139)).cell (p := ⟨b, off + k * 2, none⟩) hbw').trans c0;have c3 := (((Z3 wr.heap.size wr).alloc (Z0 _) (.cells #[] 139)).cell (p := ⟨b, off + k * 2 + 1, none⟩) hbw').trans c1;have HA : Hid (Below wr.heap.size wr (wr.alloc (.cells #[] 139))) := Z9 ((Z3 wr.heap.size wr).alloc (Z0 _) _);obtain ⟨v4, w4, hrun4, hown4, hg4, hat4⟩ := XW Bm (w := (wr.alloc (.cells #[] 139)).drew) (t := 128) (ty := 128) (base := wr.heap.size) underlying128 (RecAt.later (Zq (w := wr) rfl (Z0 _)) (Z3 _ _).drew) (IsPaces.rec ((uh Hpv).below (uh HA).drew)) (by simp; omega) (by simp);rw [List.nil_append] at hown4;have X4 : Below wr.heap.size wr w4 := (uh HA).drew.trans ((Z3 _ _).grown hg4 (by simp) (fun i e => by cases e; exact Z0 _));obtain ⟨pa4, pc4, rfl⟩ := RecAt.shape hown4;have hk4 := (uh Ko).below X4 (uh Ko).lt;have hz4 := X4.size;have r0 := hk4.cell (i := 0) rfl;have r1 := hk4.free 0;have hk5 := hk4.alloc (.cells #[.int .i64 n, .slice pa4 ps.length pc4] 130);have r2 := hk5.cell (i := 0) rfl;have r3 := (X4.cell (p := ⟨b, off + k * 2, none⟩) hbw').trans c0;have r4 := ((uh Ka).below X4 (uh Ka).lt).cell (i := 0) rfl;have r5 := (((uh Ka).below X4 (uh Ka).lt).alloc (.cells #[.int .i64 n, .slice pa4 ps.length pc4] 130)).cell (i := 0) rfl;have HO4 := Z9 hown4;have HX4 := Z9 X4;obtain ⟨v5, w5, hrun5, hown5, hg5, hat5⟩ := RR (w := w4.alloc (.cells #[.int .i64 n, .slice pa4 ps.length pc4] 130)) (t := 24) (ty := 24) (base := w.heap.size + 3) (v := .slice ua k uc) (n := k) (xs := Rw qs) underlying24 (World.ownsRow.alloc (by have h9 := ((uh Ho).later (uh HX4)).row; rw [uh Hql] at h9; exact h9) _) (g := w4.heap.size) (c := 1) (Y4 w4 (i := 0) rfl) (Y4 w4 (i := 1) rfl) rfl (by omega) (by simp; omega);obtain ⟨a5, c5, rfl⟩ := J8 hown5;have hn5 : ∀ i, (Value.slice ua k uc).ownBlock = some i → w.heap.size + 3 ≤ i := fun i e => ((uh Ho).lt (.inl e)).1;have hk6 := hk5.same (w' := w5) (hg5.block _ hk5.lt (fun e => by have := hn5 _ e.symm; omega));have s0 := hk6.cell (i := 0) rfl;have s1 := hk6.free 0;have HK6 := Z9 hk6;have HO5 := Z9 hown5;have HG5 := Z9 hg5;have HA5 := Z9 hat5
      have X5 : Hid (Below (w.heap.size + 1 + 1 + 1) wr w5) := Z9 (by
        have q1 : Below wr.heap.size wr w4 := uh HX4;have q2 : Below w4.heap.size w4 (w4.alloc (.cells #[.int .i64 n, .slice pa4 ps.length pc4] 130)) := ba _ _;have q3 : Below (w.heap.size + 1 + 1 + 1) (w4.alloc (.cells #[.int .i64 n, .slice pa4 ps.length pc4] 130)) w5 := (Z3 _ _).grown (uh HG5) (by have := q1.size; simp; omega) (fun i e => by have := ((uh Ho).lt (.inl e)).1; omega)
        exact ((q1.mono (by omega)).trans (q2.mono (by have := q1.size; omega))).trans q3)
      have hp5 : OwnHall (w.heap.size + 3) w5 (.slice a5 (k + 1) c5) (qs ++ [((n, ps), .slice pa4 ps.length pc4)]) := by
        have q1 : OwnHall (w.heap.size + 3) w4 (.slice ua k uc) qs := (uh Ho).later (uh HX4);have q2 : PacesAt wr.heap.size w4 (.slice pa4 ps.length pc4) ps := uh HO4;have q3 : PacesAt (w.heap.size + 3) w4 (.slice pa4 ps.length pc4) ps := q2.mono (by omega);refine OwnHall.push (w := w4) (w1 := w5) (v := .slice ua k uc) (o := .cells #[.int .i64 n, .slice pa4 ps.length pc4] 130) q1 q3 ?_ ?_ ?_ (uh HG5) (uh HA5)
        · intro b' e e'
          have h8 := (q2.lt e).1;have h9 := ((uh Ho).lt (.inl e')).2;omega
        · intro q hq' b' e e'
          have h8 := (q2.lt e').1;have h9 := ((uh Ho).lt (.inr ⟨q, hq', e⟩)).2;omega
        · rw [uh Hql]; exact uh HO5
      have HP5 := Z9 hp5;have z0 := ((uh Ka).below (uh X5) (by omega)).cell (i := 0) rfl;have z1 := ((uh X5).cell (p := ⟨b, off + k * 2, none⟩) (show b < w.heap.size + 1 + 1 + 1 by omega)).trans c0;have z2 := ((uh X5).cell (p := ⟨b, off + k * 2 + 1, none⟩) (show b < w.heap.size + 1 + 1 + 1 by omega)).trans c1;have r6 := ((uh HX4).cell (p := ⟨b, off + k * 2 + 1, none⟩) hbw').trans c1;have r7 : (w4.alloc (.cells #[.int .i64 n, .slice pa4 ps.length pc4] 130)).cell? ⟨b, off + k * 2, none⟩ = some (.int .i64 n) := (((Z3 w4.heap.size w4).alloc (Z0 _) _).cell (p := ⟨b, off + k * 2, none⟩) (by show b < w4.heap.size; omega)).trans r3;have r8 : (w4.alloc (.cells #[.int .i64 n, .slice pa4 ps.length pc4] 130)).cell? ⟨b, off + k * 2 + 1, none⟩ = some (.slice pa ps.length pc) := (((Z3 w4.heap.size w4).alloc (Z0 _) _).cell (p := ⟨b, off + k * 2 + 1, none⟩) (by show b < w4.heap.size; omega)).trans r6;have t0 : (w5.setCell ⟨w.heap.size + 1 + 1, 0, none⟩ (.slice a5 (k + 1) c5)).cell? ⟨w.heap.size, 0, none⟩ = some (.slice (some ⟨b, off, none⟩) rs.length cap) := (World.cell?_setCell_other _ _ _ _ (by simp)).trans z0;have t1 : (w5.setCell ⟨w.heap.size + 1 + 1, 0, none⟩ (.slice a5 (k + 1) c5)).cell? ⟨b, off + k * 2, none⟩ = some (.int .i64 n) := (World.cell?_setCell_other _ _ _ _ (fun e => by have := congrArg Addr.block e; simp at this; omega)).trans z1;have t2 : (w5.setCell ⟨w.heap.size + 1 + 1, 0, none⟩ (.slice a5 (k + 1) c5)).cell? ⟨b, off + k * 2 + 1, none⟩ = some (.slice pa ps.length pc) := (World.cell?_setCell_other _ _ _ _ (fun e => by have := congrArg Addr.block e; simp at this; omega)).trans z2;have R4 := Z9 hrun4;have R5 := Z9 hrun5;clear hown5 hg5 hat5 hk5 hn5 hk6 hown4 X4 hg4 hat4 hk4 hrun4 hrun5 hp5;go_wp2_with fail;refine ZI (S := fun w' => w'.cell? ⟨w.heap.size, 0, none⟩ = some (.slice (some ⟨b, off, none⟩) rs.length cap) ∧ w'.cell? ⟨w.heap.size + 1 + 1, 0, none⟩ = some (.slice ua k uc) ∧ w'.cell? ⟨b, off + k * 2, none⟩ = some (.int .i64 n) ∧ w'.cell? ⟨b, off + k * 2 + 1, none⟩ = some (.slice pa ps.length pc)) (by kernel_rfl) (Wz _ _) (by kernel_rfl) ⟨y0, x0, c0, c1⟩ (fun hHeld => ?_);simp only [WA, WB, YL, YF, Nat.zero_add, Nat.reduceAdd]
      iterate 8 refine tz ?_
      refine tp 9 ?_;refine tp 10 ?_;refine tp 11 ?_;refine tp 12 ?_;refine tp 13 ?_;refine tp 14 ?_;refine rd 8 rfl (fun K hK => ?_);go_simp;refine hK.out _ _ ⟨y1, x1, c2, c3⟩ (fun hHeld => ?_);clear hK K
      (try simp only [Act.put, sA, sZ, sS])
      refine rd 15 rfl (fun K hK => ?_);refine XY rfl (.tmp 21) (.tmp 27) 128 rfl rfl rfl (uh R4) ?_;refine hK.out _ _ ⟨r4, r0, r3, r6⟩ (fun hHeld => ?_);clear hK K
      (try simp only [Act.put, sA, sZ, sS])
      refine tp 16 ?_;refine rd 17 rfl (fun K hK => ?_);go_simp;refine hK.out _ _ ⟨r5, r2, r7, r8⟩ (fun hHeld => ?_);clear hK K
      (try simp only [Act.put, sA, sZ, sS])
      refine rd 18 rfl (fun K hK => ?_);refine XY rfl (.tmp 14) (.tmp 30) 24 rfl rfl rfl (uh R5) ?_;refine hK.out _ _ ⟨z0, s0, z1, z2⟩ (fun hHeld => ?_);clear hK K
      (try simp only [Act.put, sA, sZ, sS])
      refine tp 19 ?_;refine wpAnyH_done (by kernel_rfl) ?_ _;refine ZK rfl rfl ?_;go_simp;clear hHeld;go_wp2_with fail;go_roundw
      case rel =>
        refine ⟨k + 1, .slice a5 (k + 1) c5, qs ++ [((n, ps), .slice pa4 ps.length pc4)], by omega, by go_num, ?_, ?_, ?_, ?_, by rw [List.map_append, uh Hq, uh Htk]; rfl, ?_⟩
        · have q := (uh HK6).set 0 (.slice a5 (k + 1) c5)
          exact q
        · exact ((uh Ka).below (uh X5) (by omega)).other (by show w.heap.size ≠ w.heap.size + 1 + 1; omega) _
        · exact ((uh Kr).below (uh X5) (by omega)).other (by show w.heap.size + 1 ≠ w.heap.size + 1 + 1; omega) _
        · exact (uh HP5).same fun i h0 hi => heap_setCell_other _ _ _ _ (by show i ≠ w.heap.size + 1 + 1; omega)
        · exact ((uh Hb).trans ((uh X5).mono (by omega))).setCell (by show _ ≤ w.heap.size + 1 + 1; omega) _
      case measure => exact ms
    · obtain rfl : k = rs.length := by omega
      have r0 := kr.cell (i := 0) rfl;have r1 := kr.free 0;go_wp2_with fail;rw [List.take_length] at hq;refine Zz (v := .agg #[.slice ua rs.length uc]) (by simp [results, results137, go_sem, *]) rfl ⟨_, qs, rfl, hq, ?_, ?_⟩
      · exact (ho.same fun i h0 hi => heap_setCell_other _ _ _ _ (by show i ≠ w.heap.size + 1; omega)).mono (by omega)
      · exact hb.setCell (by show _ ≤ w.heap.size + 1; omega) _
open Go.Lib (digitVal decFrom)
theorem TD {c:UInt8} {l p:Txt} (h:p ∈ YR c l) (hl:l.length<=1048576):p.length<=1048576:=by
 have:=Ui c l [] p h;simp at this;omega
theorem JN {l:Txt} {n:Nat} (h:l.length<=n):(bs l).size<=n:=by rw [ze];exact h
theorem HJ {l:Txt} : -999999999<=(Ya l).getD 0/\(Ya l).getD 0<=999999999:=by
 cases h:Ya l with
 | none=>simp
 | some v=>have:=Sz h;simp;omega
theorem Eo (l:Txt) (w:World) (hl:l.length<=1048576) :
  Calls prog 266 #[.string (bs l)] w fun e w'=> ∃ (f k:Int) (b:Bool),e= .returned (.tuple #[.agg #[.int .i64 f,.int .i64 k],.bool b])/\(b=true->Yk l=some (f,k))/\(b=false->Yk l=none)/\Below w.heap.size w w':=by
 have Hb0:Hid (∀ o,Below w.heap.size w (w.alloc o)):=Z9 (fun o=>(ba _ _));go_enter func266,ntmps266;go_wp2_with fail;refine (Rl (bs l) 58 _ (JN hl)).mono ?_;rw [QB];rintro e w1 ⟨v,rfl,hst,hb⟩;have hsz:w.heap.size+1<=w1.heap.size:=by have:=hb.size;simpa using this
 obtain ⟨cc,ff⟩:=Ls hb;have x0:=cc w.heap.size 0 (by simp);have x1:=cc w.heap.size 1 (by simp);have f0:=ff w.heap.size 0 (by simp);have f1:=ff w.heap.size 1 (by simp);have B1:Hid (Below w.heap.size w w1):=Z9 ((uh Hb0 _).trans (hb.mono (by simp)));obtain ⟨a,cap,rfl,hc,hm,hr⟩:=hst.view;have Hr:=Z9 hr;clear hst hr hb cc ff;by_cases h2:(YR 58 l).length=2
 ·obtain ⟨p,q,hpq⟩:∃ p q,YR 58 l=[p,q]:=by
   match hx:YR 58 l,h2 with
   | [p,q],_=>exact ⟨p,q,rfl⟩
  have Hpq:=Z9 hpq
  rcases uh Hr with h0 | ⟨g,rfl,hg1,hg2,hcl⟩
  ·rw [h0] at h2;simp at h2
  have c0:=hcl 0 (by omega);have c1:=hcl 1 (by omega);have hp1:=TD (c:=58) (l:=l) (p:=p) (by rw [hpq];simp) hl;have hq1:=TD (c:=58) (l:=l) (p:=q) (by rw [hpq];simp) hl;rw [hpq] at c0 c1;simp only [List.getD_cons_zero,List.getD_cons_succ] at c0 c1;have Hread:Hid (Yk l=(Ya p).bind fun f=>(Ya q).bind fun k=>some (f,k)):=Z9 (by unfold Yk;rw [hpq]);have hne:g ≠ w.heap.size:=by simp at hg1;omega
  clear hcl Hr hpq;generalize (YR 58 l).length=n2 at *;subst h2;go_wp2_with fail;refine (Qa (bs p) _ (by have:=JN hp1;omega)).mono ?_;rw [QB];rintro e w' ⟨rfl,hw'⟩;subst w';unfold Wl;have hbp:=HJ (l:=p);generalize hrp:Ya p=rp at *;have Hrp:=Z9 hrp;clear hrp;go_wp2_with fail;refine (Qa (bs q) _ (by have:=JN hq1;omega)).mono ?_;rw [QB];rintro e w' ⟨rfl,hw'⟩;subst w';unfold Wl;generalize hrq:Ya q=rq at *;have Hrq:=Z9 hrq;clear hrq;cases rp with
  | none=>
   have Hz:Hid (Yk l=none):=Z9 (by rw [uh Hread];rfl);simp only [Option.getD_none,Option.isSome_none];go_wp2_with fail;exact Zz (v:= .tuple #[.agg #[.int .i64 0,.int .i64 (rq.getD 0)],.bool false]) (by simp [results,results266,go_sem, *]) rfl ⟨_,_,_,rfl,fun h=>(by cases h),fun _=>uh Hz,((uh B1).setCell (by show _<=w.heap.size;omega) _).setCell (by show _<=w.heap.size;omega) _⟩
  | some f=>
   cases rq with
   | none=>
    have Hz:Hid (Yk l=none):=Z9 (by rw [uh Hread];rfl);simp only [Option.getD_none,Option.isSome_none,Option.getD_some,Option.isSome_some];go_wp2_with fail;exact Zz (v:= .tuple #[.agg #[.int .i64 f,.int .i64 0],.bool false]) (by simp [results,results266,go_sem, *]) rfl ⟨_,_,_,rfl,fun h=>(by cases h),fun _=>uh Hz,((uh B1).setCell (by show _<=w.heap.size;omega) _).setCell (by show _<=w.heap.size;omega) _⟩
   | some k=>
    have Hz:Hid (Yk l=some (f,k)):=Z9 (by rw [uh Hread];rfl);simp only [Option.getD_some,Option.isSome_some];go_wp2_with fail;exact Zz (v:= .tuple #[.agg #[.int .i64 f,.int .i64 k],.bool true]) (by simp [results,results266,go_sem, *]) rfl ⟨_,_,_,rfl,fun _=>uh Hz,fun h=>(by cases h),((uh B1).setCell (by show _<=w.heap.size;omega) _).setCell (by show _<=w.heap.size;omega) _⟩
 ·have Hz:Hid (Yk l=none):=Z9 (by
   unfold Yk
   split
   ·rename_i a b hx;rw [hx] at h2;simp at h2
   ·rfl)
  have hne:(((YR 58 l).length:Int) !=2)=true:=by rw [bne_iff_ne];omega
  have hcc:((YR 58 l).length:Int)<=9223372036854775807:=by omega
  generalize (YR 58 l).length=n2 at *;go_wp2_with fail;exact Zz (v:= .tuple #[.agg #[.int .i64 0,.int .i64 0],.bool false]) (by simp [results,results266,go_sem, *]) rfl ⟨_,_,_,rfl,fun h=>(by cases h),fun _=>uh Hz,((uh B1).setCell (by show _<=w.heap.size;omega) _).setCell (by show _<=w.heap.size;omega) _⟩
theorem J5 {α β:Type} {f:α->Option β} {l:List α} {k:Nat} {xs:List β} {y:β} (hk:k<l.length) (h:(l.take k).mapM f=some xs) (hy:f l[k]=some y):(l.take (k+1)).mapM f=some (xs++[y]):=by
 rw [List.take_succ_eq_append_getElem hk,List.mapM_append,h];simp [hy]
theorem OZ {α β:Type} {f:α->Option β} : ∀ {l:List α} {k:Nat} (hk:k<l.length),f l[k]=none->l.mapM f=none
 | x::l,0,_,h=>by simp at h;simp [List.mapM_cons,h]
 | x::l,k+1,hk,h=>by
  have ih:=OZ (f:=f) (l:=l) (k:=k) (by simpa using hk) (by simpa using h);rw [List.mapM_cons,ih];cases f x<;>rfl
theorem H7 {l a:Txt} {ws:List Txt} (h:YR 32 l=a::ws):YD l=(Ya a).bind fun n=>(ws.mapM Yk).bind fun ps=>some (n,ps):=by unfold YD;rw [h]
theorem KW {l:Txt} (h:(YR 47 l).mapM YD=none):Ys l=none:=by unfold Ys;rw [h];rfl
theorem KZ {l:Txt} {rs:List ZY} (h:(YR 47 l).mapM YD=some rs) (hb:YW rs=true):Ys l=some rs:=by unfold Ys;rw [h];simp [hb]
theorem Jq {l:Txt} {rs:List ZY} (h:(YR 47 l).mapM YD=some rs) (hb:YW rs=false):Ys l=none:=by unfold Ys;rw [h];simp [hb]
theorem I3 (w:World) (u u':Value) (t:TypeId):∀ (j:Nat) (x:Value),([u,u']:List Value)[j]?=some x->(w.alloc (.cells #[u,u'] t)).cell? ((⟨w.heap.size,0,none⟩:Addr).add j)=some x:=by
 intro j x h
 match j with
 | 0=>simp at h;subst h;simp [Addr.add]
 | 1=>simp at h;subst h;simp [Addr.add]
 | j+2=>simp at h
theorem QY (w:World) (u u':Value) (t:TypeId) (b:Nat) (hb:b=w.heap.size):∀ (j:Nat) (x:Value),([u,u']:List Value)[j]?=some x->(w.alloc (.cells #[u,u'] t)).cell? ((⟨b,0,none⟩:Addr).add j)=some x:=by
 subst hb;exact I3 w u u' t
theorem PacesAt.push {B:Nat} {v v':Value} {ps:List Z4} {f k:Int} {o:Obj} (h:PacesAt B w v ps) (hB:B<=w.heap.size)
  (hown:w1.ownsRow B 139 2 v' (ps.length+1) (YQ ps++[.int .i64 f,.int .i64 k])) (hg:(w.alloc o).grownBy w1 v.ownBlock) :
  PacesAt B w1 v' (ps++[(f,k)])/\Below B w w1:=by
 refine ⟨?_,((Z3 B w).alloc hB o).grown hg (by simp;omega) (fun j e=>(h.lt e).1)⟩;unfold PacesAt;simpa [YQ] using hown
theorem Hj {b:Nat} {w w6:World} {v v':Value} {ps:List Z4} {n f kk:Int} {o:Obj} (hp:PacesAt (b+1) w v ps) (hsz:b+1<=w.heap.size)
  (hown:w6.ownsRow (b+1) 139 2 v' (ps.length+1) (YQ ps++[.int .i64 f,.int .i64 kk])) (hg:(w.alloc o).grownBy w6 v.ownBlock)
  (c0:w.cell? ⟨b,0,none⟩=some (.int .i64 n)) (c1:w.cell? ⟨b,1,none⟩=some v) (c2:w.frozen? ⟨b,1,none⟩=false) :
  ∃ a cap,v'= .slice a (ps.length+1) cap/\w6.cell? ⟨b,1,none⟩=some v/\w6.frozen? ⟨b,1,none⟩=false/\
   Hid ((w6.setCell ⟨b,1,none⟩ v').cell? ⟨b,0,none⟩=some (.int .i64 n)/\(w6.setCell ⟨b,1,none⟩ v').cell? ⟨b,1,none⟩=some v'/\(w6.setCell ⟨b,1,none⟩ v').frozen? ⟨b,1,none⟩=false/\
    PacesAt (b+1) (w6.setCell ⟨b,1,none⟩ v') v' (ps++[(f,kk)])/\Below b w (w6.setCell ⟨b,1,none⟩ v')/\b+1<=(w6.setCell ⟨b,1,none⟩ v').heap.size):=by
 obtain ⟨hpa,hbl⟩:=hp.push hsz hown hg;obtain ⟨a,cap,hsh⟩:=hpa.shape;have d0:=(hbl.cell (p:=⟨b,0,none⟩) (by show b<b+1;omega)).trans c0;have d1:=(hbl.cell (p:=⟨b,1,none⟩) (by show b<b+1;omega)).trans c1;have d2:=(hbl.frozen (p:=⟨b,1,none⟩) (by show b<b+1;omega)).trans c2;refine ⟨a,cap,by simpa using hsh,d1,d2,?_⟩;refine ⟨?_,?_,?_,?_,?_,?_⟩
 ·rw [World.cell?_setCell_other _ _ _ _ (by simp)];exact d0
 ·exact World.cell?_setCell_same _ _ _ d1
 ·rw [World.frozen?_setCell];exact d2
 ·exact Xj hpa (fun q e=>Below.heap_setCell w6 ⟨b,1,none⟩ v' q (by have:=(hpa.lt e).1;show q ≠ b;omega))
 ·have hb0:Below b w w6:=hbl.mono (Nat.le_succ b)
  exact hb0.setCell (Z0 b) v'
 ·have:=hbl.size;simp;omega
theorem AS {b n₀:Nat} {w w6:World} {v v' pv:Value} {qs:List (ZY × Value)} {ps:List Z4} {n:Int} {o:Obj} (h:OwnHall n₀ w v qs) (hp:PacesAt n₀ w pv ps)
  (hoff:∀ b,pv.ownBlock=some b->v.ownBlock ≠ some b) (hap:∀ q ∈ qs,∀ b,q.2.ownBlock=some b->pv.ownBlock ≠ some b)
  (hown:w6.ownsRow n₀ 130 2 v' (qs.length+1) (Rw qs++[.int .i64 n,pv])) (hg:(w.alloc o).grownBy w6 v.ownBlock) (hat:v'.ownBlock=v.ownBlock\/v'.ownBlock=some (w.alloc o).heap.size)
  (hb:b<n₀) (hsz:n₀<=w.heap.size) (c1:w.cell? ⟨b,0,none⟩=some v) (c2:w.frozen? ⟨b,0,none⟩=false) :
  ∃ a cap,v'= .slice a (qs.length+1) cap/\w6.cell? ⟨b,0,none⟩=some v/\w6.frozen? ⟨b,0,none⟩=false/\
   Hid ((w6.setCell ⟨b,0,none⟩ v').cell? ⟨b,0,none⟩=some v'/\(w6.setCell ⟨b,0,none⟩ v').frozen? ⟨b,0,none⟩=false/\
    OwnHall n₀ (w6.setCell ⟨b,0,none⟩ v') v' (qs++[((n,ps),pv)])/\Below n₀ w w6):=by
 have hpush:=h.push hp hoff hap hown hg hat;have hbl:Below n₀ w w6:=((Z3 n₀ w).alloc hsz o).grown hg (by simp;omega) (fun j e=>(h.lt (.inl e)).1);obtain ⟨a,cap,hsh⟩:=hpush.shape;have d1:=(hbl.cell (p:=⟨b,0,none⟩) hb).trans c1;have d2:=(hbl.frozen (p:=⟨b,0,none⟩) hb).trans c2;refine ⟨a,cap,by simpa using hsh,d1,d2,?_,?_,?_,hbl⟩
 ·exact World.cell?_setCell_same _ _ _ d1
 ·rw [World.frozen?_setCell];exact d2
 ·exact hpush.same (fun k h0 hk=>Below.heap_setCell w6 ⟨b,0,none⟩ v' k (by show k ≠ b;omega))
def yV (l:Txt) (n₀:Nat) (e:Ending) (w':World):Prop:=
 (∃ v qs,e= .returned (.tuple #[.agg #[v],.bool true])/\Ys l=some (qs.map (·.1))/\OwnHall n₀ w' v qs)\/(e= .returned (.tuple #[.agg #[.slice none 0 0],.bool false])/\Ys l=none)
theorem Pg (l:Txt) (w:World) (hl:l.length<=1048576) :
  Calls prog 226 #[.string (bs l)] w fun e w'=>yV l w.heap.size e w'/\Below w.heap.size w w':=by
 obtain ⟨i1,hi1,hp0,hp1,hp2⟩:=info_parts BQ;obtain ⟨i2,hi2,hr0,hr1,hr2⟩:=info_parts JT;go_enter func226,ntmps226;go_wp2_with fail;refine (Rl (bs l) 47 _ (JN hl)).mono ?_;rw [QB];rintro e w2 ⟨rv,rfl,hst,hb⟩;have hsz:w.heap.size+2<=w2.heap.size:=by have:=hb.size;simp at this;omega
 obtain ⟨cc,ff⟩:=Ls hb;have x0:=cc w.heap.size 0 (by simp;omega);have x1:=cc (w.heap.size+1) 0 (by simp);have f0:=ff w.heap.size 0 (by simp;omega);have f1:=ff (w.heap.size+1) 0 (by simp);simp at x0 x1;have g0:w2.frozen? ⟨w.heap.size,0,none⟩=false:=by rw [f0,frozen?_alloc_cells,frozen?_alloc_cells];exact Sf (Z0 _)
 have g1:w2.frozen? ⟨w.heap.size+1,0,none⟩=false:=by rw [f1,frozen?_alloc_cells,frozen?_alloc_cells];exact Sf (by omega)
 have B2:Hid (Below w.heap.size w w2):=Z9 ((((ba _ _)).alloc (by simp) _).trans (hb.mono (by simp;omega)));have hpl:=Wy 47 l [];have Hsm:Hid (∀ p ∈ YR 47 l,p.length<=1048576):=Z9 (fun p hp=>TD hp hl);obtain ⟨ra,rcap,rfl,hrc,hrm,hrr⟩:=hst.view
 rcases hrr with h0 | ⟨g,rfl,hg1,hg2,hcl⟩
 ·exact absurd h0 (Kt _ _)
 have hg1':w.heap.size+2<=g:=by simp at hg1;omega
 have Hcl:=Z9 hcl;have hpl':(YR 47 l).length<=1048577:=by unfold YR;omega
 clear hst hb cc ff hcl hg1 f0 f1 hpl;have HN:Hid (Ys l=((YR 47 l).mapM YD).bind fun rs=>if YW rs=true then some rs else none):=Z9 rfl;have Hnone:Hid ((YR 47 l).mapM YD=none->Ys l=none):=Z9 KW;have Hsome:Hid (∀ rs,(YR 47 l).mapM YD=some rs->YW rs=true->Ys l=some rs):=Z9 (fun rs=>KZ);have Hbad:Hid (∀ rs,(YR 47 l).mapM YD=some rs->YW rs=false->Ys l=none):=Z9 (fun rs=>Jq);generalize YR 47 l=pc at *;go_wp2_with fail
 go_loopw [6] (fun i wr=> ∃ (k:Nat) (v:Value) (qs:List (ZY × Value)),k<=pc.length/\i= .int .i64 k/\wr.cell? ⟨w.heap.size+1,0,none⟩=some v/\wr.frozen? ⟨w.heap.size+1,0,none⟩=false/\OwnHall w2.heap.size wr v qs/\qs.length=k/\(pc.take k).mapM YD=some (qs.map (·.1))/\But (w.heap.size+1) w2 wr) (fun i _=>pc.length-(intOf i).toNat)
 case atStart=>exact ⟨0,_,[],ZA _,rfl,x1,g1,OwnHall.nil _ _,rfl,rfl,But.refl _ _⟩
 case round=>
  obtain ⟨wo,rfl⟩:∃ wo,wo=wr:=⟨wr,rfl⟩
  obtain ⟨k,v,qs,hk,rfl,hv,hfv,hoh,hql,hmap,hbut⟩:=hrel;have Hoh:=Z9 hoh;have Hmap:=Z9 hmap;have Hbut:=Z9 hbut;have hz2:=hbut.size;have Hql:=Z9 hql;have Hv:=Z9 hv;have Hfv:=Z9 hfv;have y0:wo.cell? ⟨w.heap.size,0,none⟩=some (.slice none 0 0):=(hbut.cell (p:=⟨w.heap.size,0,none⟩) (by show w.heap.size<_;omega) (by show w.heap.size ≠ _;omega)).trans x0;have Hy0:=Z9 y0;obtain ⟨va,vcap,rfl⟩:=hoh.shape;by_cases hlt:k<pc.length
  ·have hck:=(hbut.cell (p:=⟨g,k,none⟩) hg2 (by show g ≠ _;omega)).trans (uh Hcl k hlt)
   have hget:pc.getD k []=pc[k]:=by simp [List.getD,hlt]
   rw [hget] at hck;have hpk:=uh Hsm pc[k] (List.getElem_mem hlt);have HX:Hid (YD pc[k]=none->pc.mapM YD=none):=Z9 (fun h=>OZ hlt h);have HY:Hid (∀ y,YD pc[k]=some y->(pc.take (k+1)).mapM YD=some (qs.map (·.1)++[y])):=Z9 (fun y h=>J5 hlt (uh Hmap) h);generalize pc[k]=pk at *;clear hoh hmap hbut hql y0 hget;go_wp2_with fail;refine (Rl (bs pk) 32 _ (JN hpk)).mono ?_;rw [QB];rintro e w3 ⟨wv,rfl,hst3,hb3⟩;have hz3:=hb3.size;have Hb3:=Z9 hb3;have hwl:=Wy 32 pk []
   obtain ⟨wd,ws,hww⟩:∃ wd ws,YR 32 pk=wd::ws:=by
    cases hx:YR 32 pk with
    | nil=>exact absurd hx (Kt _ _)
    | cons a b=>exact ⟨a,b,rfl⟩
   have Hsm2:Hid (∀ p ∈ wd::ws,p.length<=1048576):=Z9 (fun p hp=>TD (c:=32) (by rw [hww];exact hp) hpk);have hwl':ws.length<=1048576:=by have h9:=hwl.2;unfold YR at hww;rw [hww] at h9;simp at h9;omega
   have HRR:=Z9 (H7 hww);rw [hww] at hst3;obtain ⟨wa,wcap,rfl,hwc,hwm,hwr⟩:=hst3.view
   rcases hwr with h0 | ⟨g3,rfl,hg31,hg32,hcl3⟩
   ·cases h0
   have Hcl3:=Z9 hcl3;have hc30:=hcl3 0 (by simp);simp only [List.getD_cons_zero] at hc30;have hlen3:(wd::ws).length=ws.length+1:=rfl;have hwdl:=uh Hsm2 wd (by simp);clear hst3 hcl3 hb3 hwl hww hpk;rw [hlen3] at *;go_wp2_with fail;refine (Qa (bs wd) _ (by have:=JN hwdl;omega)).mono ?_;rw [QB];rintro e w' ⟨rfl,hw'⟩;subst w';unfold Wl;have hnb:=HJ (l:=wd);have HisT:Hid ((Ya wd).isSome=true->Ya wd=some ((Ya wd).getD 0)):=Z9 (fun h=>by cases hx:Ya wd with | none=>rw [hx] at h;cases h | some y=>rfl);have HisF:Hid ((Ya wd).isSome=false->YD pk=none):=Z9 (fun h=>by rw [uh HRR];cases hx:Ya wd with | none=>rfl | some y=>rw [hx] at h;cases h);generalize (Ya wd).getD 0=n at *;generalize hib:(Ya wd).isSome=ib at *;have Hib:=Z9 hib;clear hib;go_wp2_with fail;have hRB:(w3.alloc (.cells #[.int .i64 n,.slice none 0 0] 130)).frozen? ⟨w3.heap.size,1,none⟩=false:=by rw [frozen?_alloc_cells];exact Sf (Z0 _)
   go_loopw [9,11] (fun q i wi=> ∃ (m:Nat) (b:Bool) (pv:Value) (ps:List Z4),m<=ws.length/\i= .int .i64 (m+1)/\q= .bool b/\wi.cell? ⟨w3.heap.size,0,none⟩=some (.int .i64 n)/\wi.cell? ⟨w3.heap.size,1,none⟩=some pv/\wi.frozen? ⟨w3.heap.size,1,none⟩=false/\PacesAt (w3.heap.size+1) wi pv ps/\ps.length=m/\Below w3.heap.size w3 wi/\w3.heap.size+1<=wi.heap.size/\(b=true->ib=true/\(ws.take m).mapM Yk=some ps)/\(b=false->YD pk=none)) (fun _ i _=>ws.length+1-(intOf i).toNat)
   case atStart=>exact ⟨0,ib,_,[],ZA _,rfl,rfl,by simp,by simp,hRB,World.ownsRow_nil _ _ _ _,rfl,(ba _ _),by simp,fun h=>⟨h,rfl⟩,fun h=>uh HisF h⟩
   case round=>
    obtain ⟨wi,rfl⟩:∃ wi,wi=wr:=⟨wr,rfl⟩
    obtain ⟨m,b,pv,ps,hm1,rfl,rfl,z0,z1,z2,hpa,hpl1,hbi,hzi,hbt,hbf⟩:=hrel;have Hpa:=Z9 hpa;have Hpl1:=Z9 hpl1;have Hbi:=Z9 hbi;have Hbt:=Z9 hbt;have Hbf:=Z9 hbf;have Hz1:=Z9 z1;have Hz0:=Z9 z0;have Hz2:=Z9 z2;obtain ⟨pva,pvcap,rfl⟩:=hpa.shape;by_cases hlt2:m<ws.length
    ·have hck2:=(hbi.cell (p:=⟨g3,m+1,none⟩) hg32).trans (uh Hcl3 (m+1) (by first | omega | (simp;omega)))
     have hget2:(wd::ws).getD (m+1) []=ws[m]:=by simp [List.getD,hlt2]
     rw [hget2] at hck2;have hpm:=uh Hsm2 ws[m] (List.mem_cons_of_mem _ (List.getElem_mem hlt2));have HXm:Hid (Yk ws[m]=none->YD pk=none):=Z9 (fun h=>by rw [uh HRR,OZ hlt2 h];cases Ya wd<;>rfl);have HYm:Hid (∀ y,Yk ws[m]=some y->(ws.take m).mapM Yk=some ps->(ws.take (m+1)).mapM Yk=some (ps++[y])):=Z9 (fun y h h'=>J5 hlt2 h' h);generalize ws[m]=pm at *;clear hpa hpl1 hbi hbt hbf hget2;go_wp2_with fail;refine (Eo pm _ hpm).mono ?_;rintro e w5 ⟨f,kk,fb,rfl,hft,hff,hb5⟩;have hz5:=hb5.size;have Hft:=Z9 hft;have Hff:=Z9 hff;have Hb5:=Z9 hb5;have c50:=(hb5.cell (p:=⟨w3.heap.size,0,none⟩) (by show w3.heap.size<_;omega)).trans (uh Hz0);have c51:=(hb5.cell (p:=⟨w3.heap.size,1,none⟩) (by show w3.heap.size<_;omega)).trans (uh Hz1);have c52:=(hb5.frozen (p:=⟨w3.heap.size,1,none⟩) (by show w3.heap.size<_;omega)).trans (uh Hz2);have Hp5:Hid (PacesAt (w3.heap.size+1) w5 (.slice pva ps.length pvcap) ps):=Z9 (Xj (uh Hpa) (fun q e=>hb5.block q ((uh Hpa).lt e).2));clear hft hff hb5 z0 z1 z2;have hne5:w3.heap.size ≠ w5.heap.size:=by omega
     have q51:(w5.alloc (.cells #[.int .i64 f,.int .i64 kk] 139)).cell? ⟨w3.heap.size,1,none⟩=some (.slice pva ps.length pvcap):=by rw [World.cell?_alloc_old _ _ _ hne5];exact c51
     have Hp6:Hid (PacesAt (w3.heap.size+1) (w5.alloc (.cells #[.int .i64 f,.int .i64 kk] 139)) (.slice pva ps.length pvcap) ps):=Z9 (Xj (uh Hp5) (fun q e=>Below.heap_alloc w5 _ q ((uh Hp5).lt e).2));have q50:(w5.alloc (.cells #[.int .i64 f,.int .i64 kk] 139)).cell? ⟨w3.heap.size,0,none⟩=some (.int .i64 n):=by rw [World.cell?_alloc_old _ _ _ hne5];exact c50
     have q52:(w5.alloc (.cells #[.int .i64 f,.int .i64 kk] 139)).frozen? ⟨w3.heap.size,1,none⟩=false:=by rw [frozen?_alloc_cells];exact c52
     have hpsm:ps.length<=1048576:=by rw [uh Hpl1];omega
     have HB5:Hid (Below w3.heap.size w3 (w5.alloc (.cells #[.int .i64 f,.int .i64 kk] 139))):=Z9 (((uh Hbi).trans ((uh Hb5).mono (by omega))).alloc (by omega) _);clear c50 c51 c52;cases b
     ·go_wp2_with (at_builtin;go_must (refine wpList_append_own_at _ rfl _ _ 128 rfl (w3.heap.size+1) 139 i1 (.agg #[.int .i64 0,.int .i64 0]) 2 16 underlying128 hi1 hp0 hp1 hp2 rfl (by decide) _ _ _ rfl (World.ownsRow.alloc (uh Hp6) _) ⟨_,0,none⟩ 1 1 [.int .i64 f,.int .i64 kk] rfl rfl (QY _ _ _ _ _ (by simp)) (by simp [Value.oneCell']) (by simp only [maxLen];omega) (by omega) (by simp;omega) ?_);go_must (intro v' w6 hown' hgrow _ _);go_must (obtain ⟨a6,cap6,rfl,e1,e2,HE⟩:=Hj (uh Hp6) (by simp;omega) hown' hgrow q50 q51 q52);clear hown' hgrow)
      go_roundw
      case rel=>exact ⟨m+1,false,_,ps++[(f,kk)],by omega,by go_num,rfl,(uh HE).1,(uh HE).2.1,(uh HE).2.2.1,(uh HE).2.2.2.1,by simp [uh Hpl1],(uh HB5).trans (uh HE).2.2.2.2.1,(uh HE).2.2.2.2.2,fun h=>(by cases h),fun _=>uh Hbf (by simp)⟩
      case measure=>exact ms
     ·go_wp2_with (at_builtin;go_must (refine wpList_append_own_at _ rfl _ _ 128 rfl (w3.heap.size+1) 139 i1 (.agg #[.int .i64 0,.int .i64 0]) 2 16 underlying128 hi1 hp0 hp1 hp2 rfl (by decide) _ _ _ rfl (World.ownsRow.alloc (uh Hp6) _) ⟨_,0,none⟩ 1 1 [.int .i64 f,.int .i64 kk] rfl rfl (QY _ _ _ _ _ (by simp)) (by simp [Value.oneCell']) (by simp only [maxLen];omega) (by omega) (by simp;omega) ?_);go_must (intro v' w6 hown' hgrow _ _);go_must (obtain ⟨a6,cap6,rfl,e1,e2,HE⟩:=Hj (uh Hp6) (by simp;omega) hown' hgrow q50 q51 q52);clear hown' hgrow)
      go_roundw
      case rel=>exact ⟨m+1,fb,_,ps++[(f,kk)],by omega,by go_num,rfl,(uh HE).1,(uh HE).2.1,(uh HE).2.2.1,(uh HE).2.2.2.1,by simp [uh Hpl1],(uh HB5).trans (uh HE).2.2.2.2.1,(uh HE).2.2.2.2.2,fun h=>⟨(uh Hbt (by simp)).1,uh HYm _ (uh Hft h) (uh Hbt (by simp)).2⟩,fun h=>uh HXm (uh Hff h)⟩
      case measure=>exact ms
    ·obtain rfl:m=ws.length:=by omega
     have HBi:Hid (Below wo.heap.size wo wi):=Z9 ((uh Hb3).trans (hbi.mono hz3));have HbutI:Hid (But (w.heap.size+1) w2 wi):=Z9 ((uh Hbut).later (uh HBi));have HB2:Hid (Below (w.heap.size+1) w2 wi):=Z9 ((uh HbutI).below (Z0 _) (by omega));have d0:wi.cell? ⟨w.heap.size,0,none⟩=some (.slice none 0 0):=((uh HB2).cell (p:=⟨w.heap.size,0,none⟩) (by show w.heap.size<_;omega)).trans x0;have df0:wi.frozen? ⟨w.heap.size,0,none⟩=false:=((uh HB2).frozen (p:=⟨w.heap.size,0,none⟩) (by show w.heap.size<_;omega)).trans g0;have d1:wi.cell? ⟨w.heap.size+1,0,none⟩=some (.slice va qs.length vcap):=((uh HBi).cell (p:=⟨w.heap.size+1,0,none⟩) (by show w.heap.size+1<_;omega)).trans (uh Hv);have df1:wi.frozen? ⟨w.heap.size+1,0,none⟩=false:=((uh HBi).frozen (p:=⟨w.heap.size+1,0,none⟩) (by show w.heap.size+1<_;omega)).trans (uh Hfv);have HohI:Hid (OwnHall w2.heap.size wi (.slice va qs.length vcap) qs):=Z9 ((uh Hoh).later (uh HBi));have hzwi:=(uh HBi).size;clear hpa hpl1 hbi hbt hbf;cases b
     ·have HZ:Hid (Ys l=none):=Z9 (uh Hnone (uh HX (uh Hbf (by simp))))
      go_wp2_with fail;exact Zz (v:= .tuple #[.agg #[.slice none 0 0],.bool false]) (by simp [results,results226,go_sem, *]) rfl ⟨.inr ⟨rfl,uh HZ⟩,(((uh B2).trans ((uh HB2).mono (by omega))).setCell (Z0 w.heap.size) _)⟩
     ·have HRm:Hid (YD pk=some (n,ps)):=Z9 (by
       obtain ⟨h1,h2⟩:=uh Hbt (by simp);rw [List.take_length] at h2
       rw [uh HRR,uh HisT h1,h2];rfl)
      have hqsm:qs.length<=1048577:=by rw [uh Hql];omega
      have HpI:Hid (PacesAt w2.heap.size wi (.slice pva ps.length pvcap) ps):=Z9 (SZ (uh Hpa) (by omega));have Hoff:Hid (∀ b,(Value.slice pva ps.length pvcap).ownBlock=some b->(Value.slice va qs.length vcap).ownBlock ≠ some b):=Z9 (fun b e e'=>by have h1:=((uh Hpa).lt e).1;have h2:=((uh Hoh).lt (.inl e')).2;omega);have Hap:Hid (∀ q ∈ qs,∀ b,q.2.ownBlock=some b->(Value.slice pva ps.length pvcap).ownBlock ≠ some b):=Z9 (fun q hq b e e'=>by have h1:=((uh Hpa).lt e').1;have h2:=((uh Hoh).lt (.inr ⟨q,hq,e⟩)).2;omega);go_wp2_with (at_builtin;go_must (refine wpList_append_own_at _ rfl _ _ 24 rfl w2.heap.size 130 i2 (.agg #[.int .i64 0,.slice none 0 0]) 2 32 underlying24 hi2 hr0 hr1 hr2 rfl (by decide) _ _ _ rfl (World.ownsRow.alloc (uh HohI).row _) ⟨_,0,none⟩ 1 1 [.int .i64 n,.slice pva ps.length pvcap] rfl rfl (QY _ _ _ _ _ (by simp)) (by simp [Value.oneCell']) (by simp only [maxLen];omega) (by omega) (by simp;omega) ?_);go_must (intro v' w6 hown' hgrow _ hat);go_must (obtain ⟨a6,cap6,rfl,e1,e2,HE⟩:=AS (b:=w.heap.size+1) (uh HohI) (uh HpI) (uh Hoff) (uh Hap) hown' hgrow hat (by omega) (by omega) d1 df1);clear hown' hgrow hat)
      go_roundw
      case rel=>exact ⟨k+1,_,qs++[((n,ps),.slice pva ps.length pvcap)],by omega,by go_num,(uh HE).1,(uh HE).2.1,(uh HE).2.2.1,by simp [uh Hql],by rw [List.map_append];exact uh HY _ (uh HRm),((uh HbutI).within (uh HE).2.2.2).setCell 0 _⟩
      case measure=>exact ms
  ·obtain rfl:k=pc.length:=by omega
   have HB2:Hid (Below (w.heap.size+1) w2 wo):=Z9 (hbut.below (Z0 _) (by omega));have df0:wo.frozen? ⟨w.heap.size,0,none⟩=false:=((uh HB2).frozen (p:=⟨w.heap.size,0,none⟩) (by show w.heap.size<_;omega)).trans g0;rw [List.take_length] at hmap;have Hmap2:=Z9 hmap;have HBo:Hid (Below w.heap.size w wo):=Z9 ((uh B2).trans ((uh HB2).mono (by omega)));clear hoh hmap hbut hql;go_wp2_with fail;refine ck (Wm (uh Hoh).rm) fun w7 hb7=> ?_;have c70:=(hb7.cell (p:=⟨w.heap.size,0,none⟩) (by show w.heap.size<_;omega)).trans y0;have c71:=(hb7.cell (p:=⟨w.heap.size+1,0,none⟩) (by show w.heap.size+1<_;omega)).trans hv;have c72:=(hb7.frozen (p:=⟨w.heap.size,0,none⟩) (by show w.heap.size<_;omega)).trans df0;have Hb7:=Z9 hb7;have hz7:=hb7.size;clear hb7 y0 hv hfv;cases hh:YW (qs.map (·.1))
   ·have HZ:Hid (Ys l=none):=Z9 (uh Hbad _ (uh Hmap2) hh)
    clear hh;go_wp2_with fail;exact Zz (v:= .tuple #[.agg #[.slice none 0 0],.bool false]) (by simp [results,results226,go_sem, *]) rfl ⟨.inr ⟨rfl,uh HZ⟩,((uh HBo).trans ((uh Hb7).mono (by omega))).setCell (Z0 w.heap.size) _⟩
   ·have HZ:Hid (Ys l=some (qs.map (·.1))):=Z9 (uh Hsome _ (uh Hmap2) hh)
    clear hh;go_wp2_with fail;exact Zz (v:= .tuple #[.agg #[.slice va qs.length vcap],.bool true]) (by simp [results,results226,go_sem, *]) rfl ⟨.inl ⟨_,qs,rfl,uh HZ,(((uh Hoh).later (uh Hb7)).but ((But.refl w.heap.size w7).setCell 0 _) (.inl (by omega))).mono (by omega)⟩,((uh HBo).trans ((uh Hb7).mono (by omega))).setCell (Z0 w.heap.size) _⟩
open Draw (St Off Row Cur)
def Ag (l:Txt):Bool:=decide (l.length<=1048576) && (Ys l).isSome
def Al:Value->Bool
 | .string s=>Ag s.data.toList
 | _=>false
theorem Cm (cs:Array Value) (j:Nat) (hj:j<cs.size) (h:cs.toList.all Al=true):∃ l,cs[j]?=some (.string (bs l))/\Ag l=true:=by
 rw [Array.all_toList,Array.all_eq_true] at h;have:=h j hj;rw [Array.getElem?_eq_getElem hj];generalize cs[j]=c at *;unfold Al at this
 split at this
 ·rename_i s;exact ⟨s.data.toList,by rw [CY],this⟩
 ·cases this
theorem Gw (w:World):Calls prog 227 #[] w fun e w'=>e= .returned (.slice (some ⟨w.heap.size,0,none⟩) 6 6)/\(∀ j,j<6-> ∃ l,w'.cell? ⟨w.heap.size,j,none⟩=some (.string (bs l))/\Ag l=true)/\Below w.heap.size w w'/\w.heap.size<w'.heap.size:=by
 go_enter func227,ntmps227;go_wp2_with fail;go_ret;refine ⟨rfl,fun j hj=> ?_,(ba _ _),by simp⟩;rw [World.cell?_alloc_new];exact Cm _ j hj (by decide +kernel)
theorem C8 {l:Txt} (h:Ag l=true):l.length<=1048576/\(Ys l).isSome=true:=by
 unfold Ag at h;simpa using h
theorem En (a:Option Addr) (len cap bc:Nat) (w:World) (hs:St a len cap bc w) :
  Calls prog 176 #[.pointer (some ⟨bc,0,none⟩)] w fun e w'=> ∃ v qs,e= .returned (.agg #[v])/\YW (qs.map (·.1))=true/\OwnHall w.heap.size w' v qs/\St a len cap bc w'/\Off bc w w':=by
 have Hs:=Z9 hs;have hbc:=WI hs;clear hs;go_enter func176,ntmps176;go_wp2_with fail;refine (Gw _).mono ?_;rintro e w1 ⟨rfl,htx,hb1,hz1⟩;have hz1':w.heap.size+2<=w1.heap.size:=by simp at hz1;omega
 have B1:Hid (Below w.heap.size w w1):=Z9 (((ba _ _)).trans (hb1.mono (by simp)));have x0:w1.cell? ⟨w.heap.size,0,none⟩=some (.slice none 0 0):=(hb1.cell (p:=⟨w.heap.size,0,none⟩) (by simp)).trans (by simp);have x1:w1.frozen? ⟨w.heap.size,0,none⟩=false:=(hb1.frozen (p:=⟨w.heap.size,0,none⟩) (by simp)).trans (by rw [frozen?_alloc_cells];exact Sf (Z0 _));have Htx:=Z9 htx;clear htx hb1;go_wp2_with fail;refine (Draw.below_any a len cap bc 6 (by omega) (by omega) _ (Xn (uh Hs) ((uh B1).mono (by omega)))).mono ?_;rintro e w2 ⟨x,rfl,hx0,hx1,hs2,ho2⟩;obtain ⟨j,rfl⟩:=Int.eq_ofNat_of_zero_le hx0;obtain ⟨l,hcl,hgd⟩:=uh Htx j (by omega);simp only [XG] at hcl;have hcl2:=(ho2.cell (p:=⟨w.heap.size+1,j,none⟩) (by show w.heap.size+1<_;omega) (by show w.heap.size+1 ≠ _;omega)).trans hcl;have y0:=(ho2.cell (p:=⟨w.heap.size,0,none⟩) (by show w.heap.size<_;omega) (by show w.heap.size ≠ _;omega)).trans x0;have y1:w2.frozen? ⟨w.heap.size,0,none⟩=false:=(World.frozen?_of_block (w:=w1) (w':=w2) (ho2.block w.heap.size (by omega) (by omega))).trans x1;have Hs2:=Z9 hs2;have Ho2:=Z9 ho2;have hz2:=ho2.size;have hll:=(C8 hgd).1;have Hgd:=Z9 (C8 hgd).2;clear hcl hs2 ho2 x0 x1 hgd;go_wp2_with fail;refine (Pg l _ hll).mono ?_;rintro e w3 ⟨hgot,hb3⟩
 rcases hgot with ⟨v,qs,rfl,hrd,hown⟩ | ⟨rfl,hrd⟩
 ·obtain ⟨va,vcap,rfl⟩:=hown.shape
  have hz3:=hb3.size;have z0:=(hb3.cell (p:=⟨w.heap.size,0,none⟩) (by show w.heap.size<_;omega)).trans y0;have z1:=(hb3.frozen (p:=⟨w.heap.size,0,none⟩) (by show w.heap.size<_;omega)).trans y1;have Hown:=Z9 hown;have Hb3:=Z9 hb3;have Hrd:=Z9 (KV hrd).1;have hlt3:w.heap.size<w3.heap.size:=by omega
  clear hown hb3 hrd y0 y1;go_wp2_with fail;have HB:Below w.heap.size w2 ((w3.setCell ⟨w.heap.size,0,none⟩ (.slice va qs.length vcap)).alloc (.cells #[.slice va qs.length vcap] 26)):=(((uh Hb3).mono (by omega)).setCell (Z0 w.heap.size) _).alloc (by simp;omega) _;refine Zz (v:= .agg #[.slice va qs.length vcap]) (by simp [results,results176,go_sem, *]) rfl ⟨_,qs,rfl,uh Hrd,?_,Xn (uh Hs2) (HB.mono (by omega)),SY ((SY (Off.refl bc w) (uh B1)).trans (uh Ho2)) HB⟩;exact ((((uh Hown).but ((But.refl w.heap.size w3).setCell 0 _) (.inl (by omega))).later ((ba _ _))).mono (by omega))
 ·exfalso;rw [hrd] at Hgd;exact absurd (uh Hgd) (by simp)
end Go.Proofs.YtgdpaigcmoifbaaGreat
