/- Part 14 of what the proof rests on. No condition but those that a theorem names. -/
import Derived.Test.YtgdpaigcmoifbaaGreatDoorXr07
import Derived.Test.YtgdpaigcmoifbaaGreatDoorXr09
import Derived.Test.YtgdpaigcmoifbaaGreatDoorXr10
import Derived.Test.YtgdpaigcmoifbaaGreatDoorXr11
import Derived.Deep.DrawnRows
import Derived.BigRegion
import Derived.Deep.RegionLawGrows
set_option maxHeartbeats 8000000
set_option maxRecDepth 100000
namespace Go.Proofs.YtgdpaigcmoifbaaGreatDoor
open Go.ChangeShapes Go.WideShapes Go.ChangeAt Go.RowKit Go.Sort Go.Proofs.Tryz
set_option linter.unusedVariables false
variable {w w' w0 w1 w2 w3 w₀ wr W W' X A B C : World} {v v0 v1 v2 v3 v4 u u0 u1 u2 u3 u4 : Value}
theorem M6 {α:Type} {f g:α->Value} {xs:List Value} {l:List α} (hl:xs.length=l.length*2) (h:∀ k (hk:k<l.length),xs[k*2]?=some (f l[k])/\xs[k*2+1]?=some (g l[k])):xs=l.flatMap fun p=>[f p,g p]:=by
 apply List.ext_getElem?;intro m;by_cases hm:m<l.length*2
 ·obtain ⟨h1,h2⟩:=h (m / 2) (by omega)
  obtain ⟨g1,g2⟩:=WM (f:=f) (g:=g) l (m / 2) (by omega)
  rcases Nat.mod_two_eq_zero_or_one m with e | e
  ·rw [show m=m / 2*2 by omega,h1,g1]
  ·rw [show m=m / 2*2+1 by omega,h2,g2]
 ·rw [List.getElem?_eq_none (by omega),List.getElem?_eq_none (by rw [SI];omega)]
theorem Kt {xs:List Value} {ps:List Z6} (hl:xs.length=ps.length*2) (h:Pairs xs (Rl ps) ps.length):xs=Zq ps:=by
 refine M6 hl fun k hk=> ?_;obtain ⟨u,u',h1,h2,h3,h4⟩:=h k hk;have hat:Z7 ps k=ps[k]:=by unfold Z7;simp [List.getD,hk]
 rw [h1,h2,h3,h4,hat];exact ⟨rfl,rfl⟩
theorem KY  {ps:List Z6} (h:IsPaces w v ps) (hs:ps.length<=1048576) :
  Calls prog 156 #[v] w fun e w'=> ∃ v',e= .returned v'/\PacesAt w.heap.size w' v' ps/\Below w.heap.size w w':=by
 obtain ⟨a,cap,rfl,hc,hm,hr⟩:=h;have Hr:=Z9 hr;clear hr;obtain ⟨i0,hi,hz0,hz1,hz2⟩:=info_parts JW;go_enter func156,ntmps156;go_wp2_with (at_make;refine wpList_make_full _ rfl _ _ 124 rfl w.heap.size 168 i0 (.agg #[.int .i64 0,.int .i64 0]) 2 underlying124 hi hz0 hz1 _ _ _ _ ps.length rfl rfl rfl rfl (by rw [hz2];omega) (by unfold maxLen;omega) (ZY _) ?_;intro w0 hown hgrow)
 have Hown:=Z9 hown;have Hgr:=Z9 hgrow;clear hown hgrow
 go_loopw [4] (fun i wr=> ∃ k:Nat,k<=ps.length/\i= .int .i64 k/\ ∃ xs,wr.ownsRow w.heap.size 168 2 (.slice (some ⟨w.heap.size,0,none⟩) ps.length ps.length) ps.length xs/\Pairs xs (Rl ps) k/\Below w.heap.size w wr) (fun i _=>ps.length-(intOf i).toNat)
 case atStart=>exact ⟨0,ZR _,rfl,_,uh Hown,fun j hj=>by omega,(Z0 _ _).grown (uh Hgr) (ZY _) (fun k e=>by cases e)⟩
 case round=>
  obtain ⟨k,hk,rfl,xs,hown,hpr,hb⟩:=hrel;have Hb:=Z9 hb;by_cases hlt:k<ps.length
  ·rcases uh Hr with h0 | ⟨b,off,rfl,hbw,hcl⟩
   ·rw [h0] at hlt;simp at hlt
   obtain ⟨c0,c1⟩:=hcl k hlt;rw [<-hb.cell (p:=⟨b,off+k*2,none⟩) hbw] at c0;rw [<-hb.cell (p:=⟨b,off+k*2+1,none⟩) hbw] at c1;have hxs:xs.length=ps.length*2:=hown.1;have Ho:=Z9 hown;have Hpr:=Z9 hpr;generalize hp:Z7 ps k=p at c0 c1;obtain ⟨f,c⟩:=p;simp only at c0 c1;have Hp:=Z9 hp;clear hcl hb hown hpr hp;go_wp2_with fail;refine ck (Pr _ _ _) fun w1 hb1=> ?_;have ho1:=SH (uh Ho) hb1;obtain ⟨⟨x0,y0⟩,z0⟩:=V7 ho1 (j:=k*2) (by omega);obtain ⟨⟨x1,y1⟩,z1⟩:=V7 ho1 (j:=k*2+1) (by omega);have Hp2:=Z9 (UB ho1 (k*2) (.int .i64 f) (.int .i64 c));have Hb1:=Z9 hb1;have hsz:=hb1.size;have hsz0:=(uh Hb).size;clear ho1 hb1;go_wp2_with fail;go_roundw
   case rel=>exact ⟨k+1,by omega,by go_num,_,(uh Hp2).1,(uh Hpr).next (by omega) ⟨by rw [uh Hp],by rw [uh Hp]⟩,((uh Hb).trans ((uh Hb1).mono hsz0)).trans (XR (uh Hp2).2 (ZY _) (by omega))⟩
   case measure=>exact ms
  ·obtain rfl:k=ps.length:=by omega
   go_wp2_with fail;go_ret;exact ⟨_,rfl,by have e9:=Kt hown.1 hpr;rw [e9] at hown;exact hown,hb⟩
theorem PacesAt.set {n₀:Nat}  {ps:List Z6} (h:PacesAt n₀ w v ps) (g o:Nat) (u:Value) (hg:∀ k,v.ownBlock=some k->k ≠ g):PacesAt n₀ (w.setCell ⟨g,o,none⟩ u) v ps:=
 YJ h fun k e=>heap_setCell_other w _ k u (hg k e)
theorem PacesAt.mono {n₀ n₁:Nat}  {ps:List Z6} (h:PacesAt n₀ w v ps) (hn:n₁<=n₀):PacesAt n₁ w v ps:=Tq h hn
theorem PacesAt.later {n₀:Nat}  {ps:List Z6} (h:PacesAt n₀ w v ps) (hb:Below w.heap.size w w'):PacesAt n₀ w' v ps:=YJ h fun k e=>hb.block k (h.lt e).2
theorem I0  {ps:List Z6} (rb:Int) (h:IsPaces w v ps) (hs:ps.length<=1048576) :
  Calls prog 117 #[.agg #[.int .i64 rb,v]] w fun e w'=> ∃ v',e= .returned (.agg #[.int .i64 rb,v'])/\PacesAt w.heap.size w' v' ps/\Below w.heap.size w w':=by
 have Hv:=Z9 h;obtain ⟨a,cap,rfl,hc,hm,hr⟩:=h;clear hr;have Hb0:Hid (∀ o1 o2 o3:Obj,Below w.heap.size w (((w.alloc o1).alloc o2).alloc o3)):=Z9 (fun o1 o2 o3=>(((ba _ _)).alloc (by simp) _).alloc (by simp;omega) _);go_enter func117,ntmps117;go_wp2_with fail;refine (KY ((uh Hv).below (uh Hb0 _ _ _)) hs).mono ?_;rintro e w1 ⟨v',rfl,hp,hb1⟩;have hk:∀ k,v'.ownBlock=some k->(((w.alloc _).alloc _).alloc _).heap.size<=k:=fun k e=>(hp.lt e).1;have hsz:w.heap.size+3<=w1.heap.size:=by have:=hb1.size;simp at this;omega
 have hk':∀ k,v'.ownBlock=some k->w.heap.size+3<=k:=fun k e=>by have:=hk k e;simp at this;omega
 obtain ⟨cc,ff⟩:=Rb hb1;have x0:=cc (w.heap.size+2) 0 (by simp);have x1:=cc (w.heap.size+2) 1 (by simp);have y0:=cc (w.heap.size+1) 0 (by simp);have y1:=cc (w.heap.size+1) 1 (by simp);have fx0:=ff (w.heap.size+2) 0 (by simp);have fx1:=ff (w.heap.size+2) 1 (by simp);have fy0:=ff (w.heap.size+1) 0 (by simp);have fy1:=ff (w.heap.size+1) 1 (by simp);have Hp:=Z9 hp;have Hk:=Z9 hk';have Hb1:=Z9 hb1;obtain ⟨a',cap',rfl⟩:=hp.shape;clear cc ff hk hk' hb1 hp;go_wp2_with fail;have B1:Below w.heap.size w w1:=(uh Hb0 _ _ _).trans ((uh Hb1).mono (by simp;omega));refine Y7 (v:= .agg #[.int .i64 rb,.slice a' ps.length cap']) (by simp [results,results117,go_sem, *]) rfl ⟨_,rfl,?_,?_⟩
 ·refine PacesAt.mono (n₀:=w.heap.size+1+1+1) ?_ (by omega)
  have Hp':PacesAt (w.heap.size+1+1+1) w1 (.slice a' ps.length cap') ps:=by have:=uh Hp;simpa using this
  exact ((Hp'.set _ _ _ (fun k e=>by have:=uh Hk k e;omega)).set _ _ _ (fun k e=>by have:=uh Hk k e;omega)).set _ _ _ (fun k e=>by have:=uh Hk k e;omega)
 ·exact ((B1.setCell (by show _<=w.heap.size+1+1;omega) _).setCell (by show _<=w.heap.size+1;omega) _).setCell (by show _<=w.heap.size+1;omega) _
set_option linter.unusedSimpArgs false
def TZ (p:Z6):List Value:=[.int .i64 p.1,.int .i64 p.2]
theorem JG (p:Z6):(TZ p).length=2:=rfl
theorem E4:N6 168 2 (.agg #[.int .i64 0,.int .i64 0]) TZ:=⟨by kernel_rfl,rfl,JG,by omega,by omega,fun x u hu=>by
  simp only [TZ,List.mem_cons,List.not_mem_nil,or_false] at hu
  rcases hu with rfl | rfl<;>rfl⟩
theorem IsPaces.rec  {ps : List Z6} (h : IsPaces w v ps) : IsRec 2 TZ w v ps := by
  obtain ⟨a, cap, rfl, hc, hm, hr⟩ := h;refine ⟨a, cap, rfl, hc, hm, ?_⟩
  rcases hr with hr | ⟨b, off, rfl, hlt, hcl⟩
  · exact .inl hr
  · refine .inr ⟨b, off, rfl, hlt, fun j hj i u hu => ?_⟩
    obtain ⟨c0, c1⟩ := hcl j hj;have e : Z8 ps j = Z7 ps j := by unfold Z8 Z7; simp [List.getD, hj]
    rw [e] at hu
    match i, hu with
    | 0, hu => obtain rfl : u = _ := by simpa [TZ] using hu.symm
               exact c0
    | 1, hu => obtain rfl : u = _ := by simpa [TZ] using hu.symm
               exact c1
    | i + 2, hu => simp [TZ] at hu
theorem M0 {B t sz n:Nat}  {xs:List Value} (h:w.ownsRow B t sz v n xs):∃ a cap,v= .slice a n cap:=by
  rcases h.2 with ⟨rfl,hz⟩ | ⟨g,cap,cur,rfl,_⟩
  · exact ⟨none,0,by rw [hz]⟩
  · exact ⟨_,cap,rfl⟩
theorem TM {base t ty : Nat} (ht : prog.underlying t = some (.slice 126)) {n : Nat} {xs : List Value} (hown : w.ownsRow base 126 2 v n xs) {g c : Nat} {rb : Int} {pv : Value} (h0 : w.cell? ⟨g, 0, none⟩ = some (.int .i64 rb)) (h1 : w.cell? ⟨g, 1, none⟩ = some pv) (h1c : pv.oneCell' = true) (hn : n ≤ 4000) (hbase : base ≤ w.heap.size) :
    ∃ v' w', (Builtin.append_ #[t, t] ty #[v, .slice (some ⟨g, 0, none⟩) 1 c]).run prog w = .ok v' w' ∧ w'.ownsRow base 126 2 v' (n + 1) (xs ++ [.int .i64 rb, pv]) ∧ w.grownBy w' v.ownBlock ∧ (v'.ownBlock = v.ownBlock ∨ v'.ownBlock = some w.heap.size) := by
  obtain ⟨i0, hi, hz0, hz1, hz2⟩ := Rv Fx
  obtain ⟨v', w', hr, h2, h3, _, h5⟩ := run_append_own_at (P := prog) w base t ty 126 i0 (.agg #[.int .i64 0, .slice none 0 0]) 2 32 ht hi hz0 hz1 hz2 rfl (by omega) v n xs hown ⟨g, 0, none⟩ 1 c [.int .i64 rb, pv] rfl
    (fun j u hu => by
      match j, hu with
      | 0, hu => obtain rfl : u = _ := by simpa using hu.symm
                 rw [Lt]; exact h0
      | 1, hu => obtain rfl : u = _ := by simpa using hu.symm
                 rw [Lt]; exact h1
      | j + 2, hu => simp at hu)
    (fun u hu => by
      simp only [List.mem_cons, List.not_mem_nil, or_false] at hu
      rcases hu with rfl | rfl
      · rfl
      · exact h1c) (by simp only [maxLen]; omega) (by omega) hbase
  exact ⟨v', w', hr, h2, h3, h5⟩
theorem WV {ops : Array Oper} {o : Oper} {a : Act} {K : Act → World → Prop} {Q : Exit → Act → World → Prop} {E : Prop} (hgd : o.guard = none) (s x : Operand) (t : TypeId)
    (ho : o.op = .call { callee := .builtin .append, args := #[s, x], argTypes := #[t, t] }) {v u v' : Value} {w' : World} (hs : a.eval s = v) (hx : a.eval x = u) (hrun : (Builtin.append_ #[t, t] o.type #[v, u]).run prog w = .ok v' w')
    (h : K (a.put o.dst v') w') : if Region.wanted o (yielded ops a.tmps) = true then Oper.wp prog o a w K Q else E := by
  have hw : Region.wanted o (yielded ops a.tmps) = true := by simp [Region.wanted, hgd]
  rw [if_pos hw];unfold Oper.wp execOp;simp only [ho, resolve, invoke, builtin, Sem.run_bind, Sem.run_pure, Result.andThen_ok, List.map_toArray, List.map_cons, List.map_nil, hs, hx, hrun];exact h
theorem Io  {rs : List Z4} (h : IsRooms w v rs) (hl : rs.length ≤ 1000) (hp : ∀ r ∈ rs, r.2.length ≤ 1000) :
    Calls prog 68 #[.agg #[v]] w fun e w' => ∃ v' qs, e = .returned (.agg #[v']) ∧ qs.map (·.1) = rs ∧ OwnHall w.heap.size w' v' qs ∧ Below w.heap.size w w' := by
  have Hv := Z9 h;obtain ⟨a, cap, rfl, hc, hm, hr⟩ := h;have Hr := Z9 hr;have HP := Z9 hp;clear hr hp;go_enter func68, ntmps68;go_wp2_with fail
  go_loopw [4] (fun i wr => ∃ (k : Nat) (u : Value) (qs : List (Z4 × Value)), k ≤ rs.length ∧ i = .int .i64 k ∧ Blk wr (w.heap.size + 1 + 1) 34 #[u] ∧ Blk wr w.heap.size 34 #[.slice a rs.length cap] ∧ Blk wr (w.heap.size + 1) 34 #[.slice none 0 0] ∧ OwnHall (w.heap.size + 3) wr u qs ∧ qs.map (·.1) = rs.take k ∧ Below w.heap.size w wr) (fun i _ => rs.length - (intOf i).toNat)
  case atStart =>
    refine ⟨0, _, [], ZR _, rfl, ?_, ((Blk.new w _ _).alloc _).alloc _, ?_, OwnHall.nil _ _, rfl, (((ba _ _)).alloc (by simp) _).alloc (by simp; omega) _⟩
    · have k := Blk.new ((w.alloc (.cells #[.slice a rs.length cap] 34)).alloc (.cells #[.slice none 0 0] 34)) 34 #[.slice none 0 0]
      rw [YW, YW] at k;exact k
    · have k := Blk.new (w.alloc (.cells #[.slice a rs.length cap] 34)) 34 #[.slice none 0 0]
      rw [YW] at k;exact k.alloc _
  case round =>
    obtain ⟨k, u, qs, hk, rfl, ko, ka, kr, ho, hq, hb⟩ := hrel;have hql : qs.length = k := by have := congrArg List.length hq; simp at this; omega
    obtain ⟨ua, uc, rfl⟩ := ho.shape;have Hql := Z9 hql;rw [hql] at ko ho;clear hql;have Ko := Z9 ko;have Ka := Z9 ka;have Kr := Z9 kr;have Ho := Z9 ho;have Hq := Z9 hq;have Hb := Z9 hb;have x0 := ko.cell (i := 0) rfl;have f0 := ko.free 0;have y0 := ka.cell (i := 0) rfl;have hsz := ko.lt;by_cases hlt : k < rs.length
    · rcases uh Hr with e0 | ⟨b, off, rfl, hbw, hcl⟩
      · rw [e0] at hlt; simp at hlt
      obtain ⟨c0, pv, c1, hpv⟩ := hcl k hlt;rw [← hb.cell (p := ⟨b, off + k * 2, none⟩) hbw] at c0;rw [← hb.cell (p := ⟨b, off + k * 2 + 1, none⟩) hbw] at c1;have Hpv := Z9 (hpv.below (hb.mono (ZY _)));have hpl := uh HP (ZU rs k) (by unfold ZU; simp [List.getD, hlt]);have Htk : Hid (rs.take (k + 1) = rs.take k ++ [ZU rs k]) := Z9 (by rw [List.take_succ_eq_append_getElem hlt]; unfold ZU; simp [List.getD, hlt]);generalize ZU rs k = r at *;obtain ⟨n, ps⟩ := r;simp only at c0 hpl hpv;obtain ⟨pa, pc, rfl, _, _, _⟩ := hpv;have hbw' : b < wr.heap.size := by have := hb.size; omega
      clear hcl ko ka kr ho hq hb;have x1 := ((uh Ko).alloc (.cells #[] 168)).cell (i := 0) rfl;have f1 := ((uh Ko).alloc (.cells #[] 168)).free 0;have y1 := ((uh Ka).alloc (.cells #[] 168)).cell (i := 0) rfl;have c2 := (((Z0 wr.heap.size wr).alloc (ZY _) (.cells #[] 168)).cell (p := ⟨b, off + k * 2, none⟩) hbw').trans c0;have c3 := (((Z0 wr.heap.size wr).alloc (ZY _) (.cells #[] 168)).cell (p := ⟨b, off + k * 2 + 1, none⟩) hbw').trans c1;have HA : Hid (Below wr.heap.size wr (wr.alloc (.cells #[] 168))) := Z9 ((Z0 wr.heap.size wr).alloc (ZY _) _);obtain ⟨v4, w4, hrun4, hown4, hg4, hat4⟩ := VX E4 (w := (wr.alloc (.cells #[] 168)).drew) (t := 124) (ty := 124) (base := wr.heap.size) underlying124 (RecAt.later (Zh (w := wr) rfl (ZY _)) (Z0 _ _).drew) (IsPaces.rec ((uh Hpv).below (uh HA).drew)) (by simp; omega) (by simp);rw [List.nil_append] at hown4;have X4 : Below wr.heap.size wr w4 := (uh HA).drew.trans ((Z0 _ _).grown hg4 (by simp) (fun i e => by cases e; exact ZY _));obtain ⟨pa4, pc4, rfl⟩ := RecAt.shape hown4;have hk4 := (uh Ko).below X4 (uh Ko).lt;have hz4 := X4.size;have r0 := hk4.cell (i := 0) rfl;have r1 := hk4.free 0;have hk5 := hk4.alloc (.cells #[.int .i64 n, .slice pa4 ps.length pc4] 126);have r2 := hk5.cell (i := 0) rfl;have r3 := (X4.cell (p := ⟨b, off + k * 2, none⟩) hbw').trans c0;have r4 := ((uh Ka).below X4 (uh Ka).lt).cell (i := 0) rfl;have r5 := (((uh Ka).below X4 (uh Ka).lt).alloc (.cells #[.int .i64 n, .slice pa4 ps.length pc4] 126)).cell (i := 0) rfl;have HO4 := Z9 hown4;have HX4 := Z9 X4;obtain ⟨v5, w5, hrun5, hown5, hg5, hat5⟩ := TM (w := w4.alloc (.cells #[.int .i64 n, .slice pa4 ps.length pc4] 126)) (t := 32) (ty := 32) (base := w.heap.size + 3) (v := .slice ua k uc) (n := k) (xs := Xb qs) underlying32 (World.ownsRow.alloc (by have h9 := ((uh Ho).later (uh HX4)).row; rw [uh Hql] at h9; exact h9) _) (g := w4.heap.size) (c := 1) (Zv w4 (i := 0) rfl) (Zv w4 (i := 1) rfl) rfl (by omega) (by simp; omega);obtain ⟨a5, c5, rfl⟩ := M0 hown5;have hn5 : ∀ i, (Value.slice ua k uc).ownBlock = some i → w.heap.size + 3 ≤ i := fun i e => ((uh Ho).lt (.inl e)).1;have hk6 := hk5.same (w' := w5) (hg5.block _ hk5.lt (fun e => by have := hn5 _ e.symm; omega));have s0 := hk6.cell (i := 0) rfl;have s1 := hk6.free 0;have HK6 := Z9 hk6;have HO5 := Z9 hown5;have HG5 := Z9 hg5;have HA5 := Z9 hat5
      have X5 : Hid (Below (w.heap.size + 1 + 1 + 1) wr w5) := Z9 (by
        have q1 : Below wr.heap.size wr w4 := uh HX4;have q2 : Below w4.heap.size w4 (w4.alloc (.cells #[.int .i64 n, .slice pa4 ps.length pc4] 126)) := ba _ _;have q3 : Below (w.heap.size + 1 + 1 + 1) (w4.alloc (.cells #[.int .i64 n, .slice pa4 ps.length pc4] 126)) w5 := (Z0 _ _).grown (uh HG5) (by have := q1.size; simp; omega) (fun i e => by have := ((uh Ho).lt (.inl e)).1; omega)
        exact ((q1.mono (by omega)).trans (q2.mono (by have := q1.size; omega))).trans q3)
      have hp5 : OwnHall (w.heap.size + 3) w5 (.slice a5 (k + 1) c5) (qs ++ [((n, ps), .slice pa4 ps.length pc4)]) := by
        have q1 : OwnHall (w.heap.size + 3) w4 (.slice ua k uc) qs := (uh Ho).later (uh HX4);have q2 : PacesAt wr.heap.size w4 (.slice pa4 ps.length pc4) ps := uh HO4;have q3 : PacesAt (w.heap.size + 3) w4 (.slice pa4 ps.length pc4) ps := q2.mono (by omega);refine OwnHall.push (w := w4) (w1 := w5) (v := .slice ua k uc) (o := .cells #[.int .i64 n, .slice pa4 ps.length pc4] 126) q1 q3 ?_ ?_ ?_ (uh HG5) (uh HA5)
        · intro b' e e'
          have h8 := (q2.lt e).1;have h9 := ((uh Ho).lt (.inl e')).2;omega
        · intro q hq' b' e e'
          have h8 := (q2.lt e').1;have h9 := ((uh Ho).lt (.inr ⟨q, hq', e⟩)).2;omega
        · rw [uh Hql]; exact uh HO5
      have HP5 := Z9 hp5;have z0 := ((uh Ka).below (uh X5) (by omega)).cell (i := 0) rfl;have z1 := ((uh X5).cell (p := ⟨b, off + k * 2, none⟩) (show b < w.heap.size + 1 + 1 + 1 by omega)).trans c0;have z2 := ((uh X5).cell (p := ⟨b, off + k * 2 + 1, none⟩) (show b < w.heap.size + 1 + 1 + 1 by omega)).trans c1;have r6 := ((uh HX4).cell (p := ⟨b, off + k * 2 + 1, none⟩) hbw').trans c1;have r7 : (w4.alloc (.cells #[.int .i64 n, .slice pa4 ps.length pc4] 126)).cell? ⟨b, off + k * 2, none⟩ = some (.int .i64 n) := (((Z0 w4.heap.size w4).alloc (ZY _) _).cell (p := ⟨b, off + k * 2, none⟩) (by show b < w4.heap.size; omega)).trans r3;have r8 : (w4.alloc (.cells #[.int .i64 n, .slice pa4 ps.length pc4] 126)).cell? ⟨b, off + k * 2 + 1, none⟩ = some (.slice pa ps.length pc) := (((Z0 w4.heap.size w4).alloc (ZY _) _).cell (p := ⟨b, off + k * 2 + 1, none⟩) (by show b < w4.heap.size; omega)).trans r6;have t0 : (w5.setCell ⟨w.heap.size + 1 + 1, 0, none⟩ (.slice a5 (k + 1) c5)).cell? ⟨w.heap.size, 0, none⟩ = some (.slice (some ⟨b, off, none⟩) rs.length cap) := (World.cell?_setCell_other _ _ _ _ (by simp)).trans z0;have t1 : (w5.setCell ⟨w.heap.size + 1 + 1, 0, none⟩ (.slice a5 (k + 1) c5)).cell? ⟨b, off + k * 2, none⟩ = some (.int .i64 n) := (World.cell?_setCell_other _ _ _ _ (fun e => by have := congrArg Addr.block e; simp at this; omega)).trans z1;have t2 : (w5.setCell ⟨w.heap.size + 1 + 1, 0, none⟩ (.slice a5 (k + 1) c5)).cell? ⟨b, off + k * 2 + 1, none⟩ = some (.slice pa ps.length pc) := (World.cell?_setCell_other _ _ _ _ (fun e => by have := congrArg Addr.block e; simp at this; omega)).trans z2;have R4 := Z9 hrun4;have R5 := Z9 hrun5;clear hown5 hg5 hat5 hk5 hn5 hk6 hown4 X4 hg4 hat4 hk4 hrun4 hrun5 hp5;go_wp2_with fail;refine ZH (S := fun w' => w'.cell? ⟨w.heap.size, 0, none⟩ = some (.slice (some ⟨b, off, none⟩) rs.length cap) ∧ w'.cell? ⟨w.heap.size + 1 + 1, 0, none⟩ = some (.slice ua k uc) ∧ w'.cell? ⟨b, off + k * 2, none⟩ = some (.int .i64 n) ∧ w'.cell? ⟨b, off + k * 2 + 1, none⟩ = some (.slice pa ps.length pc)) (by kernel_rfl) (Va _ _) (by kernel_rfl) ⟨y0, x0, c0, c1⟩ (fun hHeld => ?_);simp only [Vb, Vc, XY, Xo, Nat.zero_add, Nat.reduceAdd]
      iterate 8 refine tz ?_
      refine tp 9 ?_;refine tp 10 ?_;refine tp 11 ?_;refine tp 12 ?_;refine tp 13 ?_;refine tp 14 ?_;refine rd 8 rfl (fun K hK => ?_);go_simp;refine hK.out _ _ ⟨y1, x1, c2, c3⟩ (fun hHeld => ?_);clear hK K
      (try simp only [Act.put, sA, sZ, sS])
      refine rd 15 rfl (fun K hK => ?_);refine WV rfl (.tmp 21) (.tmp 27) 124 rfl rfl rfl (uh R4) ?_;refine hK.out _ _ ⟨r4, r0, r3, r6⟩ (fun hHeld => ?_);clear hK K
      (try simp only [Act.put, sA, sZ, sS])
      refine tp 16 ?_;refine rd 17 rfl (fun K hK => ?_);go_simp;refine hK.out _ _ ⟨r5, r2, r7, r8⟩ (fun hHeld => ?_);clear hK K
      (try simp only [Act.put, sA, sZ, sS])
      refine rd 18 rfl (fun K hK => ?_);refine WV rfl (.tmp 14) (.tmp 30) 32 rfl rfl rfl (uh R5) ?_;refine hK.out _ _ ⟨z0, s0, z1, z2⟩ (fun hHeld => ?_);clear hK K
      (try simp only [Act.put, sA, sZ, sS])
      refine tp 19 ?_;refine wpAnyH_done (by kernel_rfl) ?_ _;refine YQ rfl rfl ?_;go_simp;clear hHeld;go_wp2_with fail;go_roundw
      case rel =>
        refine ⟨k + 1, .slice a5 (k + 1) c5, qs ++ [((n, ps), .slice pa4 ps.length pc4)], by omega, by go_num, ?_, ?_, ?_, ?_, by rw [List.map_append, uh Hq, uh Htk]; rfl, ?_⟩
        · have q := (uh HK6).set 0 (.slice a5 (k + 1) c5)
          exact q
        · exact ((uh Ka).below (uh X5) (by omega)).other (by show w.heap.size ≠ w.heap.size + 1 + 1; omega) _
        · exact ((uh Kr).below (uh X5) (by omega)).other (by show w.heap.size + 1 ≠ w.heap.size + 1 + 1; omega) _
        · exact (uh HP5).same fun i h0 hi => heap_setCell_other _ _ _ _ (by show i ≠ w.heap.size + 1 + 1; omega)
        · exact ((uh Hb).trans ((uh X5).mono (by omega))).setCell (by show _ ≤ w.heap.size + 1 + 1; omega) _
      case measure => exact ms
    · obtain rfl : k = rs.length := by omega
      have r0 := kr.cell (i := 0) rfl;have r1 := kr.free 0;go_wp2_with fail;rw [List.take_length] at hq;refine Y7 (v := .agg #[.slice ua rs.length uc]) (by simp [results, results68, go_sem, *]) rfl ⟨_, qs, rfl, hq, ?_, ?_⟩
      · exact (ho.same fun i h0 hi => heap_setCell_other _ _ _ _ (by show i ≠ w.heap.size + 1; omega)).mono (by omega)
      · exact hb.setCell (by show _ ≤ w.heap.size + 1; omega) _
def UM (us:List Value) (j:Nat):Value:=us.getD j (.slice none 0 0)
def L6 (rs:List Z4) (us:List Value) (j:Nat) (u u':Value):Prop:=u= .int .i64 (ZU rs j).1/\u'=UM us j
theorem Ns {us:List Value} {j:Nat} (h:j<us.length) (x:Value):UM (us++[x]) j=UM us j:=by unfold UM;simp [List.getD,List.getElem?_append_left h]
theorem Nr (us:List Value) (x:Value):UM (us++[x]) us.length=x:=by unfold UM;simp [List.getD]
def QV (rs:List Z4) (us:List Value):List (Z4 × Value):=(List.range rs.length).map fun j=>(ZU rs j,UM us j)
theorem Tt (rs:List Z4) (us:List Value):(QV rs us).length=rs.length:=by unfold QV;simp
theorem II (rs:List Z4) (us:List Value):(QV rs us).map (·.1)=rs:=by
 apply List.ext_getElem?;intro j;by_cases hj:j<rs.length
 ·unfold QV ZU;simp [hj,List.getD]
 ·rw [List.getElem?_eq_none (by rw [List.length_map,Tt];omega),List.getElem?_eq_none (by omega)]
theorem FO {rs:List Z4} {us:List Value} (h:us.length=rs.length):(QV rs us).map (·.2)=us:=by
 apply List.ext_getElem?;intro j;by_cases hj:j<rs.length
 ·have hj2:j<us.length:=by omega
  unfold QV UM;simp [hj,hj2,List.getD]
 ·rw [List.getElem?_eq_none (by rw [List.length_map,Tt];omega),List.getElem?_eq_none (by omega)]
theorem Ky {rs:List Z4} {us:List Value} {q:Z4 × Value} (h:q ∈ QV rs us):∃ j,j<rs.length/\q=(ZU rs j,UM us j):=by
 unfold QV at h;obtain ⟨j,hj,rfl⟩:=List.mem_map.1 h;exact ⟨j,List.mem_range.1 hj,rfl⟩
theorem Dw {rs:List Z4} {us:List Value} {k:Nat} (h:k<(QV rs us).length):(QV rs us)[k]=(ZU rs k,UM us k):=by simp [QV]
theorem IH {xs:List Value} {rs:List Z4} {us:List Value} (hl:xs.length=rs.length*2) (h:Pairs xs (L6 rs us) rs.length):xs=Xb (QV rs us):=by
 refine M6 (by rw [Tt];exact hl) fun k hk=> ?_;have hk2:k<rs.length:=by rw [Tt] at hk;exact hk
 obtain ⟨u,u',h1,h2,h3,h4⟩:=h k hk2;rw [h1,h2,h3,h4,Dw hk];exact ⟨rfl,rfl⟩
theorem K6  {rs:List Z4} (h:IsRooms w v rs) (hs:Q8 rs) :
  Calls prog 72 #[v] w fun e w'=> ∃ v' qs,e= .returned v'/\qs.map (·.1)=rs/\OwnHall w.heap.size w' v' qs/\Below w.heap.size w w':=by
 obtain ⟨a,cap,rfl,hc,hm,hr⟩:=h;have Hr:=Z9 hr;clear hr;obtain ⟨hs1,hs2⟩:=hs;have Hs2:=Z9 hs2;clear hs2;obtain ⟨i0,hi,hz0,hz1,hz2⟩:=info_parts JX;go_enter func72,ntmps72;go_wp2_with (at_make;refine wpList_make_full _ rfl _ _ 32 rfl w.heap.size 126 i0 (.agg #[.int .i64 0,.slice none 0 0]) 2 underlying32 hi hz0 hz1 _ _ _ _ rs.length rfl rfl rfl rfl (by rw [hz2];omega) (by unfold maxLen;omega) (ZY _) ?_;intro w0 hown hgrow)
 have Hown:=Z9 hown;have Hgr:=Z9 hgrow;clear hown hgrow
 go_loopw [4] (fun i wr=> ∃ k:Nat,k<=rs.length/\i= .int .i64 k/\ ∃ (xs us:List Value),wr.ownsRow w.heap.size 126 2 (.slice (some ⟨w.heap.size,0,none⟩) rs.length rs.length) rs.length xs/\us.length=k/\Pairs xs (L6 rs us) k/\(∀ j,j<k->PacesAt (w.heap.size+1) wr (UM us j) (ZU rs j).2)/\(us.Pairwise fun x y=> ∀ b,x.ownBlock=some b->y.ownBlock ≠ some b)/\Below w.heap.size w wr) (fun i _=>rs.length-(intOf i).toNat)
 case atStart=>exact ⟨0,ZR _,rfl,_,[],uh Hown,rfl,fun j hj=>by omega,fun j hj=>by omega,List.Pairwise.nil,(Z0 _ _).grown (uh Hgr) (ZY _) (fun k e=>by cases e)⟩
 case round=>
  obtain ⟨k,hk,rfl,xs,us,hown,hul,hpr,hpa,hap,hb⟩:=hrel;have Hb:=Z9 hb;by_cases hlt:k<rs.length
  ·rcases uh Hr with h0 | ⟨b,off,rfl,hbw,hcl⟩
   ·rw [h0] at hlt;simp at hlt
   obtain ⟨c0,pv,c1,hip⟩:=hcl k hlt;rw [<-hb.cell (p:=⟨b,off+k*2,none⟩) hbw] at c0;rw [<-hb.cell (p:=⟨b,off+k*2+1,none⟩) hbw] at c1;have hxs:xs.length=rs.length*2:=hown.1;have hg1:w.heap.size<wr.heap.size:=(World.ownsRow.lt hown w.heap.size rfl).2;have Ho:=Z9 hown;have Hpr:=Z9 hpr;have Hpa:=Z9 hpa;have Hap:=Z9 hap;have Hul:=Z9 hul;have Hip:=Z9 (hip.below hb);obtain ⟨pa,pcap,rfl,_⟩:=hip;have hsk:=uh Hs2 k hlt;generalize hp:ZU rs k=p at c0 c1 Hip hsk;obtain ⟨rb,ps⟩:=p;simp only at c0 c1 hsk;have Hp:=Z9 hp;have Hx:=Z9 hxs;clear hcl hb hown hpr hp hpa hap hul hxs;go_wp2_with fail;refine (I0 rb (uh Hip) hsk).mono ?_;rintro e w1 ⟨v',rfl,hip',hb1⟩;have hxs:xs.length=rs.length*2:=uh Hx;have ho1:=SH (uh Ho) hb1;obtain ⟨⟨x0,y0⟩,z0⟩:=V7 ho1 (j:=k*2) (by omega);obtain ⟨⟨x1,y1⟩,z1⟩:=V7 ho1 (j:=k*2+1) (by omega);have Hp2:=Z9 (UB ho1 (k*2) (.int .i64 rb) v');have Hip':=Z9 hip';have Hb1:=Z9 hb1;have hsz:=hb1.size;have hsz0:=(uh Hb).size;obtain ⟨a',cap',rfl⟩:=hip'.shape;clear ho1 hb1 hip' hxs;go_wp2_with fail;have hkeep:∀ {u:Value} {ps':List Z6},PacesAt (w.heap.size+1) w1 u ps'->PacesAt (w.heap.size+1) ((w1.setCell ⟨w.heap.size,k*2,none⟩ (.int .i64 rb)).setCell ⟨w.heap.size,k*2+1,none⟩ (.slice a' ps.length cap')) u ps':=fun hq=>(hq.set _ _ _ (fun m e=>by have:=(hq.lt e).1;omega)).set _ _ _ (fun m e=>by have:=(hq.lt e).1;omega);have hnew:PacesAt (w.heap.size+1) w1 (.slice a' ps.length cap') ps:=(uh Hip').mono (by omega);have hul:=uh Hul;go_roundw
   case rel=>
    refine ⟨k+1,by omega,by go_num,_,us++[.slice a' ps.length cap'],(uh Hp2).1,by simp;omega,?_,?_,?_,((uh Hb).trans ((uh Hb1).mono hsz0)).trans (XR (uh Hp2).2 (ZY _) (by omega))⟩
    ·have hpr9:Pairs xs (L6 rs (us++[.slice a' ps.length cap'])) k:=by
      intro j hj;obtain ⟨u,u',h1,h2,h3,h4⟩:=uh Hpr j hj;exact ⟨u,u',h1,h2,h3,by rw [Ns (by omega)];exact h4⟩
     have hl9:k*2+1<xs.length:=by have:=uh Hx;omega
     exact hpr9.next hl9 ⟨by rw [uh Hp],by rw [<-hul,Nr]⟩
    ·intro j hj
     by_cases e:j<k
     ·rw [Ns (by omega)]
      exact hkeep ((uh Hpa j e).later (uh Hb1))
     ·obtain rfl:j=us.length:=by omega
      rw [Nr,hul,uh Hp];exact hkeep hnew
    ·rw [List.pairwise_append]
     refine ⟨uh Hap,by simp,fun x hx y hy b e=> ?_⟩;obtain rfl:y= .slice a' ps.length cap':=by simpa using hy
     obtain ⟨j,hj,rfl⟩:=List.getElem_of_mem hx;have hq:=uh Hpa j (by omega);have hv9:UM us j=us[j]:=by unfold UM;simp [List.getD,hj]
     rw [hv9] at hq;intro e';have:=(hq.lt e).2;have:=((uh Hip').lt e').1;omega
   case measure=>exact ms
  ·obtain rfl:k=rs.length:=by omega
   go_wp2_with fail;go_ret;refine ⟨_,QV rs us,rfl,II _ _,⟨?_,?_,?_,?_⟩,hb⟩
   ·have e9:=IH hown.1 hpr
    rw [e9] at hown;rw [Tt];exact hown
   ·intro q hq
    obtain ⟨j,hj,rfl⟩:=Ky hq;exact (hpa j hj).mono (by omega)
   ·intro q hq b' e e'
    obtain ⟨j,hj,rfl⟩:=Ky hq;have:=((hpa j hj).lt e).1;have e2:w.heap.size=b':=by simpa [Value.ownBlock] using e'
    omega
   ·rw [FO hul]
    exact hap
end Go.Proofs.YtgdpaigcmoifbaaGreatDoor
