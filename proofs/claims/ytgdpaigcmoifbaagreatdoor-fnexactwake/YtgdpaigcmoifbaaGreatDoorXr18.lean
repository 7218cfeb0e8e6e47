/- Part 18 of what the proof rests on. No condition but those that a theorem names. -/
import Derived.Test.YtgdpaigcmoifbaaGreatDoorXr13
import Derived.Test.YtgdpaigcmoifbaaGreatDoorXr14
import Derived.Deep.DeepCutAuto
set_option maxHeartbeats 8000000
set_option maxRecDepth 100000
namespace Go.Proofs.YtgdpaigcmoifbaaGreatDoor
open Go.ChangeShapes Go.WideShapes Go.ChangeAt Go.RowKit Go.Sort Go.Proofs.Tryz
set_option linter.unusedVariables false
def Off2 (u v:Value):Prop:= ∀ b,u.ownBlock=some b->v.ownBlock ≠ some b
theorem Off2.symm {u v:Value} (h:Off2 u v):Off2 v u:=fun b e e'=>h b e' e
def OffHall (u v:Value) (qs:List (Z4 × Value)):Prop:=Off2 u v/\ ∀ q ∈ qs,Off2 u q.2
structure FullSmy (n₀:Nat) (w:World) (v0 v1 v2 v3 v4:Value) (m:Z3) (qs:List (Z4 × Value)):Prop where
 hall:OwnHall n₀ w v0 qs
 rm:qs.map (·.1)=m.rm
 gd:GuildsAt n₀ w v1 m.gd
 sm:SmithsAt n₀ w v2 m.sm
 dk:DesksAt n₀ w v3 m.dk
 pc:NumsAt n₀ w v4 m.pc
 h1:OffHall v1 v0 qs
 h2:OffHall v2 v0 qs
 h3:OffHall v3 v0 qs
 h4:OffHall v4 v0 qs
 a12:Off2 v1 v2
 a13:Off2 v1 v3
 a14:Off2 v1 v4
 a23:Off2 v2 v3
 a24:Off2 v2 v4
 a34:Off2 v3 v4
theorem FullSmy.smy {n₀:Nat} {w:World} {v0 v1 v2 v3 v4:Value} {m:Z3} {qs:List (Z4 × Value)} (h:FullSmy n₀ w v0 v1 v2 v3 v4 m qs):Smy w v0 v1 v2 v3 v4 m:=
 ⟨by rw [<-h.rm];exact h.hall.rm,h.gd.list,h.sm.list,h.dk.list,h.pc.list⟩
theorem OwnHall.set_old {n₀:Nat} {w:World} {v:Value} {qs:List (Z4 × Value)} (h:OwnHall n₀ w v qs) (g o:Nat) (u:Value) (hg:g<n₀):OwnHall n₀ (w.setCell ⟨g,o,none⟩ u) v qs:=
 h.same fun k h0 hk=>heap_setCell_other w _ k u (by show k ≠ g;omega)
theorem FullSmy.below {n₀:Nat} {w w':World} {v0 v1 v2 v3 v4:Value} {m:Z3} {qs:List (Z4 × Value)} (h:FullSmy n₀ w v0 v1 v2 v3 v4 m qs) (hb:Below w.heap.size w w'):FullSmy n₀ w' v0 v1 v2 v3 v4 m qs:=
 ⟨h.hall.later hb,h.rm,RecAt.later h.gd hb,RecAt.later h.sm hb,RecAt.later h.dk hb,RecAt.later h.pc hb,h.h1,h.h2,h.h3,h.h4,h.a12,h.a13,h.a14,h.a23,h.a24,h.a34⟩
theorem FullSmy.set {n₀:Nat} {w:World} {v0 v1 v2 v3 v4:Value} {m:Z3} {qs:List (Z4 × Value)} (h:FullSmy n₀ w v0 v1 v2 v3 v4 m qs) (g o:Nat) (u:Value) (hg:g<n₀):FullSmy n₀ (w.setCell ⟨g,o,none⟩ u) v0 v1 v2 v3 v4 m qs:=
 ⟨h.hall.set_old g o u hg,h.rm,RecAt.set_old h.gd g o u hg,RecAt.set_old h.sm g o u hg,RecAt.set_old h.dk g o u hg,RecAt.set_old h.pc g o u hg,h.h1,h.h2,h.h3,h.h4,h.a12,h.a13,h.a14,h.a23,h.a24,h.a34⟩
theorem FullSmy.mono {n₀ n₁:Nat} {w:World} {v0 v1 v2 v3 v4:Value} {m:Z3} {qs:List (Z4 × Value)} (h:FullSmy n₀ w v0 v1 v2 v3 v4 m qs) (hn:n₁<=n₀):FullSmy n₁ w v0 v1 v2 v3 v4 m qs:=
 ⟨h.hall.mono hn,h.rm,RecAt.mono h.gd hn,RecAt.mono h.sm hn,RecAt.mono h.dk hn,RecAt.mono h.pc hn,h.h1,h.h2,h.h3,h.h4,h.a12,h.a13,h.a14,h.a23,h.a24,h.a34⟩
theorem To {u v:Value} {k:Nat} (hu:∀ b,u.ownBlock=some b->k<=b) (hv:∀ b,v.ownBlock=some b->b<k):Off2 u v:=fun b e e'=>by have:=hu b e;have:=hv b e';omega
theorem KV {w:World} {v:Value} {rs:List Z4} (h:IsRooms w v rs) (hs:Q8 rs) :
  Calls prog 31 #[.agg #[v]] w fun e w'=> ∃ v' qs,e= .returned (.agg #[v'])/\qs.map (·.1)=rs/\OwnHall w.heap.size w' v' qs/\Below w.heap.size w w':=by
 have Hv:=Z9 h;obtain ⟨a,cap,rfl,hc,hm,hr⟩:=h;clear hr;have Hb0:Hid (∀ o1 o2 o3:Obj,Below w.heap.size w (((w.alloc o1).alloc o2).alloc o3)):=Z9 (fun o1 o2 o3=>(((ba _ _)).alloc (by simp) _).alloc (by simp;omega) _);go_enter func31,ntmps31;go_wp2_with fail;refine (K6 ((uh Hv).below (uh Hb0 _ _ _)) hs).mono ?_;rintro e w1 ⟨v',qs,rfl,hmap,hp,hb1⟩;simp only [YW] at hp;have hsz:w.heap.size+3<=w1.heap.size:=by have:=hb1.size;simp at this;omega
 obtain ⟨cc,ff⟩:=Rb hb1;have x0:=cc (w.heap.size+2) 0 (by simp);have y0:=cc (w.heap.size+1) 0 (by simp);have fx0:=ff (w.heap.size+2) 0 (by simp);have fy0:=ff (w.heap.size+1) 0 (by simp);have Hp:=Z9 hp;have Hb1:=Z9 hb1;obtain ⟨a',cap',rfl⟩:=hp.shape;have hql:qs.length=rs.length:=by rw [<-hmap,List.length_map]
 have Hmap:=Z9 hmap;rw [hql] at Hp ⊢;clear hp hmap hql;clear cc ff hb1;go_wp2_with fail;have B1:Below w.heap.size w w1:=(uh Hb0 _ _ _).trans ((uh Hb1).mono (by simp;omega));refine Y7 (v:= .agg #[.slice a' rs.length cap']) (by simp [results,results31,go_sem, *]) rfl ⟨_,qs,rfl,uh Hmap,?_,?_⟩
 ·exact (((uh Hp).set_old _ _ _ (by omega)).set_old _ _ _ (by omega)).mono (by omega)
 ·exact (B1.setCell (by show _<=w.heap.size+1+1;omega) _).setCell (by show _<=w.heap.size+1;omega) _
theorem Wh {w:World} {v0 v1 v2 v3 v4:Value} {m:Z3} (h:Smy w v0 v1 v2 v3 v4 m) (hs:Yy m) :
  Calls prog 9 #[.agg #[v0,v1,v2,v3,v4,.int .i64 m.now]] w fun e w'=> ∃ u0 u1 u2 u3 u4 qs,e= .returned (.agg #[u0,u1,u2,u3,u4,.int .i64 m.now])/\FullSmy w.heap.size w' u0 u1 u2 u3 u4 m qs/\Below w.heap.size w w':=by
 have Hv:=Z9 h;have Hs:=Z9 hs;obtain ⟨a0,p0,rfl,_,_⟩:=IsRooms.shape h.rm;obtain ⟨a1,p1,rfl,hc1,hm1⟩:=IsRec.shape h.gd;obtain ⟨a2,p2,rfl,hc2,hm2⟩:=IsRec.shape h.sm;obtain ⟨a3,p3,rfl,hc3,hm3⟩:=IsRec.shape h.dk;obtain ⟨a4,p4,rfl,hc4,hm4⟩:=IsRec.shape h.pc;clear h hs;go_enter func9,ntmps9;go_wp2_with fail;have BB:Hid (Below w.heap.size w (((w.alloc (.cells (S6 a0 p0 a1 p1 a2 p2 a3 p3 a4 p4 m) 30)).alloc (.cells E6 39)).alloc (.cells E6 39))):=Z9 ((((ba _ _)).alloc (by simp) _).alloc (by simp;omega) _);have ka:Hid (Blk (((w.alloc (.cells (S6 a0 p0 a1 p1 a2 p2 a3 p3 a4 p4 m) 30)).alloc (.cells E6 39)).alloc (.cells E6 39)) w.heap.size 30 (S6 a0 p0 a1 p1 a2 p2 a3 p3 a4 p4 m)):=Z9 (((Blk.new w _ _).alloc _).alloc _)
 have kr:Hid (Blk (((w.alloc (.cells (S6 a0 p0 a1 p1 a2 p2 a3 p3 a4 p4 m) 30)).alloc (.cells E6 39)).alloc (.cells E6 39)) (w.heap.size+1) 39 E6):=Z9 (by
  have k:=Blk.new (w.alloc (.cells (S6 a0 p0 a1 p1 a2 p2 a3 p3 a4 p4 m) 30)) 39 E6;rw [YW] at k
  exact k.alloc _)
 have ko:Hid (Blk (((w.alloc (.cells (S6 a0 p0 a1 p1 a2 p2 a3 p3 a4 p4 m) 30)).alloc (.cells E6 39)).alloc (.cells E6 39)) (w.heap.size+1+1) 39 E6):=Z9 (by
  have k:=Blk.new ((w.alloc (.cells (S6 a0 p0 a1 p1 a2 p2 a3 p3 a4 p4 m) 30)).alloc (.cells E6 39)) 39 E6;rw [YW,YW] at k
  exact k)
 generalize ((w.alloc (.cells (S6 a0 p0 a1 p1 a2 p2 a3 p3 a4 p4 m) 30)).alloc (.cells E6 39)).alloc (.cells E6 39)=W at *;have hW:w.heap.size+3<=W.heap.size:=by have:=(uh ko).lt;omega
 refine (KV ((uh Hv).below (uh BB)).rm (uh Hs).rm).mono ?_;rintro e w1 ⟨u0,qs,rfl,hmap,hp,hb⟩;have Hmap:=Z9 hmap;clear hmap;have n0:Hid (OwnHall (w.heap.size+3) w1 u0 qs):=Z9 (hp.mono hW);replace ka:=bl ka hb;replace kr:=bl kr hb;replace ko:=bl ko hb;replace BB:=bt BB hb;have hW2:w.heap.size+3<=w1.heap.size:=by have:=hb.size;omega
 obtain ⟨b0,q0,rfl⟩:=hp.shape;have hql:qs.length=m.rm.length:=by rw [<-uh Hmap,List.length_map]
 rw [hql] at n0 ⊢;have L0:Hid (∀ b,((Value.slice b0 m.rm.length q0).ownBlock=some b\/ ∃ q ∈ qs,q.2.ownBlock=some b)->b<w1.heap.size):=Z9 (fun b e=>((uh n0).lt e).2);clear hp hql;obtain ⟨s0,hs0⟩:∃ s,s=w1.heap.size:=⟨_,rfl⟩
 rw [<-hs0] at L0;have g0:s0<=w1.heap.size:=Nat.le_of_eq hs0;clear hs0;clear hb;have o0:=(uh ko).cell (i:=0) (v:= .slice none 0 0) rfl;have f0:=(uh ko).free 0;have c1:=(uh ka).cell (i:=1) (v:= .slice a1 m.gd.length p1) rfl;go_wp2_with fail;replace ka:Hid (Blk (w1.setCell ⟨w.heap.size+1+1,0,none⟩ (.slice b0 m.rm.length q0)) w.heap.size 30 (S6 a0 p0 a1 p1 a2 p2 a3 p3 a4 p4 m)):=Z9 ((uh ka).other (a:=⟨w.heap.size+1+1,0,none⟩) (by show w.heap.size ≠ w.heap.size+1+1;omega) _);replace kr:Hid (Blk (w1.setCell ⟨w.heap.size+1+1,0,none⟩ (.slice b0 m.rm.length q0)) (w.heap.size+1) 39 E6):=Z9 ((uh kr).other (a:=⟨w.heap.size+1+1,0,none⟩) (by show w.heap.size+1 ≠ w.heap.size+1+1;omega) _);replace ko:Hid (Blk (w1.setCell ⟨w.heap.size+1+1,0,none⟩ (.slice b0 m.rm.length q0)) (w.heap.size+1+1) 39 #[.slice b0 m.rm.length q0,.slice none 0 0,.slice none 0 0,.slice none 0 0,.slice none 0 0,.int .i64 0]):=Z9 ((uh ko).set 0 _);replace n0:=Z9 ((uh n0).set_old (w.heap.size+1+1) 0 (.slice b0 m.rm.length q0) (by omega));replace BB:Hid (Below w.heap.size w (w1.setCell ⟨w.heap.size+1+1,0,none⟩ (.slice b0 m.rm.length q0))):=Z9 ((uh BB).setCell (p:=⟨w.heap.size+1+1,0,none⟩) (by show w.heap.size<=w.heap.size+1+1;omega) _);have hW3:w.heap.size+3<=(w1.setCell ⟨w.heap.size+1+1,0,none⟩ (.slice b0 m.rm.length q0)).heap.size:=by have:=(uh ko).lt;omega
 replace g0:s0<=(w1.setCell ⟨w.heap.size+1+1,0,none⟩ (.slice b0 m.rm.length q0)).heap.size:=by simpa using g0
 clear o0 f0 c1 hW hW2;generalize (w1.setCell ⟨w.heap.size+1+1,0,none⟩ (.slice b0 m.rm.length q0))=W at *;have hW:=hW3;clear hW3;refine (RD ((uh Hv).below (uh BB)).gd (uh Hs).gd).mono ?_;rintro e w2 ⟨u1,rfl,hp,hb⟩;have n1:Hid (GuildsAt (w.heap.size+3) w2 u1 m.gd):=Z9 (RecAt.mono hp hW);replace n0:=Z9 ((uh n0).later hb);replace ka:=bl ka hb;replace kr:=bl kr hb;replace ko:=bl ko hb;replace BB:=bt BB hb;have hW2:w.heap.size+3<=w2.heap.size:=by have:=hb.size;omega
 obtain ⟨b1,q1,rfl⟩:=RecAt.shape hp;have M1:Hid (∀ b,(Value.slice b1 m.gd.length q1).ownBlock=some b->s0<=b/\b<w2.heap.size):=Z9 (fun b e=>⟨YV g0 (RecAt.lt hp e).1,(RecAt.lt hp e).2⟩);obtain ⟨s1,hs1⟩:∃ s,s=w2.heap.size:=⟨_,rfl⟩
 rw [<-hs1] at M1;have r1z:s0<=s1:=by have:=hb.size;omega
 clear g0;have g1:s1<=w2.heap.size:=Nat.le_of_eq hs1;clear hs1;clear hp hb;have o1:=(uh ko).cell (i:=1) (v:= .slice none 0 0) rfl;have f1:=(uh ko).free 1;have c2:=(uh ka).cell (i:=2) (v:= .slice a2 m.sm.length p2) rfl;go_wp2_with fail;replace ka:Hid (Blk (w2.setCell ⟨w.heap.size+1+1,1,none⟩ (.slice b1 m.gd.length q1)) w.heap.size 30 (S6 a0 p0 a1 p1 a2 p2 a3 p3 a4 p4 m)):=Z9 ((uh ka).other (a:=⟨w.heap.size+1+1,1,none⟩) (by show w.heap.size ≠ w.heap.size+1+1;omega) _);replace kr:Hid (Blk (w2.setCell ⟨w.heap.size+1+1,1,none⟩ (.slice b1 m.gd.length q1)) (w.heap.size+1) 39 E6):=Z9 ((uh kr).other (a:=⟨w.heap.size+1+1,1,none⟩) (by show w.heap.size+1 ≠ w.heap.size+1+1;omega) _);replace ko:Hid (Blk (w2.setCell ⟨w.heap.size+1+1,1,none⟩ (.slice b1 m.gd.length q1)) (w.heap.size+1+1) 39 #[.slice b0 m.rm.length q0,.slice b1 m.gd.length q1,.slice none 0 0,.slice none 0 0,.slice none 0 0,.int .i64 0]):=Z9 ((uh ko).set 1 _);replace n0:=Z9 ((uh n0).set_old (w.heap.size+1+1) 1 (.slice b1 m.gd.length q1) (by omega));replace n1:=Z9 (RecAt.set_old (uh n1) (w.heap.size+1+1) 1 (.slice b1 m.gd.length q1) (by omega));replace BB:Hid (Below w.heap.size w (w2.setCell ⟨w.heap.size+1+1,1,none⟩ (.slice b1 m.gd.length q1))):=Z9 ((uh BB).setCell (p:=⟨w.heap.size+1+1,1,none⟩) (by show w.heap.size<=w.heap.size+1+1;omega) _);have hW3:w.heap.size+3<=(w2.setCell ⟨w.heap.size+1+1,1,none⟩ (.slice b1 m.gd.length q1)).heap.size:=by have:=(uh ko).lt;omega
 replace g1:s1<=(w2.setCell ⟨w.heap.size+1+1,1,none⟩ (.slice b1 m.gd.length q1)).heap.size:=by simpa using g1
 clear o1 f1 c2 hW hW2;generalize (w2.setCell ⟨w.heap.size+1+1,1,none⟩ (.slice b1 m.gd.length q1))=W at *;have hW:=hW3;clear hW3;refine (RF ((uh Hv).below (uh BB)).sm (uh Hs).sm).mono ?_;rintro e w3 ⟨u2,rfl,hp,hb⟩;have n2:Hid (SmithsAt (w.heap.size+3) w3 u2 m.sm):=Z9 (RecAt.mono hp hW);replace n0:=Z9 ((uh n0).later hb);replace n1:=Z9 (RecAt.later (uh n1) hb);replace ka:=bl ka hb;replace kr:=bl kr hb;replace ko:=bl ko hb;replace BB:=bt BB hb;have hW2:w.heap.size+3<=w3.heap.size:=by have:=hb.size;omega
 obtain ⟨b2,q2,rfl⟩:=RecAt.shape hp;have M2:Hid (∀ b,(Value.slice b2 m.sm.length q2).ownBlock=some b->s1<=b/\b<w3.heap.size):=Z9 (fun b e=>⟨YV g1 (RecAt.lt hp e).1,(RecAt.lt hp e).2⟩);obtain ⟨s2,hs2⟩:∃ s,s=w3.heap.size:=⟨_,rfl⟩
 rw [<-hs2] at M2;have r2z:s1<=s2:=by have:=hb.size;omega
 clear g1;have g2:s2<=w3.heap.size:=Nat.le_of_eq hs2;clear hs2;clear hp hb;have o2:=(uh ko).cell (i:=2) (v:= .slice none 0 0) rfl;have f2:=(uh ko).free 2;have c3:=(uh ka).cell (i:=3) (v:= .slice a3 m.dk.length p3) rfl;go_wp2_with fail;replace ka:Hid (Blk (w3.setCell ⟨w.heap.size+1+1,2,none⟩ (.slice b2 m.sm.length q2)) w.heap.size 30 (S6 a0 p0 a1 p1 a2 p2 a3 p3 a4 p4 m)):=Z9 ((uh ka).other (a:=⟨w.heap.size+1+1,2,none⟩) (by show w.heap.size ≠ w.heap.size+1+1;omega) _);replace kr:Hid (Blk (w3.setCell ⟨w.heap.size+1+1,2,none⟩ (.slice b2 m.sm.length q2)) (w.heap.size+1) 39 E6):=Z9 ((uh kr).other (a:=⟨w.heap.size+1+1,2,none⟩) (by show w.heap.size+1 ≠ w.heap.size+1+1;omega) _);replace ko:Hid (Blk (w3.setCell ⟨w.heap.size+1+1,2,none⟩ (.slice b2 m.sm.length q2)) (w.heap.size+1+1) 39 #[.slice b0 m.rm.length q0,.slice b1 m.gd.length q1,.slice b2 m.sm.length q2,.slice none 0 0,.slice none 0 0,.int .i64 0]):=Z9 ((uh ko).set 2 _);replace n0:=Z9 ((uh n0).set_old (w.heap.size+1+1) 2 (.slice b2 m.sm.length q2) (by omega));replace n1:=Z9 (RecAt.set_old (uh n1) (w.heap.size+1+1) 2 (.slice b2 m.sm.length q2) (by omega));replace n2:=Z9 (RecAt.set_old (uh n2) (w.heap.size+1+1) 2 (.slice b2 m.sm.length q2) (by omega));replace BB:Hid (Below w.heap.size w (w3.setCell ⟨w.heap.size+1+1,2,none⟩ (.slice b2 m.sm.length q2))):=Z9 ((uh BB).setCell (p:=⟨w.heap.size+1+1,2,none⟩) (by show w.heap.size<=w.heap.size+1+1;omega) _);have hW3:w.heap.size+3<=(w3.setCell ⟨w.heap.size+1+1,2,none⟩ (.slice b2 m.sm.length q2)).heap.size:=by have:=(uh ko).lt;omega
 replace g2:s2<=(w3.setCell ⟨w.heap.size+1+1,2,none⟩ (.slice b2 m.sm.length q2)).heap.size:=by simpa using g2
 clear o2 f2 c3 hW hW2;generalize (w3.setCell ⟨w.heap.size+1+1,2,none⟩ (.slice b2 m.sm.length q2))=W at *;have hW:=hW3;clear hW3;refine (Qs ((uh Hv).below (uh BB)).dk (uh Hs).dk).mono ?_;rintro e w4 ⟨u3,rfl,hp,hb⟩;have n3:Hid (DesksAt (w.heap.size+3) w4 u3 m.dk):=Z9 (RecAt.mono hp hW);replace n0:=Z9 ((uh n0).later hb);replace n1:=Z9 (RecAt.later (uh n1) hb);replace n2:=Z9 (RecAt.later (uh n2) hb);replace ka:=bl ka hb;replace kr:=bl kr hb;replace ko:=bl ko hb;replace BB:=bt BB hb;have hW2:w.heap.size+3<=w4.heap.size:=by have:=hb.size;omega
 obtain ⟨b3,q3,rfl⟩:=RecAt.shape hp;have M3:Hid (∀ b,(Value.slice b3 m.dk.length q3).ownBlock=some b->s2<=b/\b<w4.heap.size):=Z9 (fun b e=>⟨YV g2 (RecAt.lt hp e).1,(RecAt.lt hp e).2⟩);obtain ⟨s3,hs3⟩:∃ s,s=w4.heap.size:=⟨_,rfl⟩
 rw [<-hs3] at M3;have r3z:s2<=s3:=by have:=hb.size;omega
 clear g2;have g3:s3<=w4.heap.size:=Nat.le_of_eq hs3;clear hs3;clear hp hb;have o3:=(uh ko).cell (i:=3) (v:= .slice none 0 0) rfl;have f3:=(uh ko).free 3;have c4:=(uh ka).cell (i:=4) (v:= .slice a4 m.pc.length p4) rfl;go_wp2_with fail;replace ka:Hid (Blk (w4.setCell ⟨w.heap.size+1+1,3,none⟩ (.slice b3 m.dk.length q3)) w.heap.size 30 (S6 a0 p0 a1 p1 a2 p2 a3 p3 a4 p4 m)):=Z9 ((uh ka).other (a:=⟨w.heap.size+1+1,3,none⟩) (by show w.heap.size ≠ w.heap.size+1+1;omega) _);replace kr:Hid (Blk (w4.setCell ⟨w.heap.size+1+1,3,none⟩ (.slice b3 m.dk.length q3)) (w.heap.size+1) 39 E6):=Z9 ((uh kr).other (a:=⟨w.heap.size+1+1,3,none⟩) (by show w.heap.size+1 ≠ w.heap.size+1+1;omega) _);replace ko:Hid (Blk (w4.setCell ⟨w.heap.size+1+1,3,none⟩ (.slice b3 m.dk.length q3)) (w.heap.size+1+1) 39 #[.slice b0 m.rm.length q0,.slice b1 m.gd.length q1,.slice b2 m.sm.length q2,.slice b3 m.dk.length q3,.slice none 0 0,.int .i64 0]):=Z9 ((uh ko).set 3 _);replace n0:=Z9 ((uh n0).set_old (w.heap.size+1+1) 3 (.slice b3 m.dk.length q3) (by omega));replace n1:=Z9 (RecAt.set_old (uh n1) (w.heap.size+1+1) 3 (.slice b3 m.dk.length q3) (by omega));replace n2:=Z9 (RecAt.set_old (uh n2) (w.heap.size+1+1) 3 (.slice b3 m.dk.length q3) (by omega));replace n3:=Z9 (RecAt.set_old (uh n3) (w.heap.size+1+1) 3 (.slice b3 m.dk.length q3) (by omega));replace BB:Hid (Below w.heap.size w (w4.setCell ⟨w.heap.size+1+1,3,none⟩ (.slice b3 m.dk.length q3))):=Z9 ((uh BB).setCell (p:=⟨w.heap.size+1+1,3,none⟩) (by show w.heap.size<=w.heap.size+1+1;omega) _);have hW3:w.heap.size+3<=(w4.setCell ⟨w.heap.size+1+1,3,none⟩ (.slice b3 m.dk.length q3)).heap.size:=by have:=(uh ko).lt;omega
 replace g3:s3<=(w4.setCell ⟨w.heap.size+1+1,3,none⟩ (.slice b3 m.dk.length q3)).heap.size:=by simpa using g3
 clear o3 f3 c4 hW hW2;generalize (w4.setCell ⟨w.heap.size+1+1,3,none⟩ (.slice b3 m.dk.length q3))=W at *;have hW:=hW3;clear hW3;refine (RE ((uh Hv).below (uh BB)).pc (uh Hs).pc).mono ?_;rintro e w5 ⟨u4,rfl,hp,hb⟩;have n4:Hid (NumsAt (w.heap.size+3) w5 u4 m.pc):=Z9 (RecAt.mono hp hW);replace n0:=Z9 ((uh n0).later hb);replace n1:=Z9 (RecAt.later (uh n1) hb);replace n2:=Z9 (RecAt.later (uh n2) hb);replace n3:=Z9 (RecAt.later (uh n3) hb);replace ka:=bl ka hb;replace kr:=bl kr hb;replace ko:=bl ko hb;replace BB:=bt BB hb;have hW2:w.heap.size+3<=w5.heap.size:=by have:=hb.size;omega
 obtain ⟨b4,q4,rfl⟩:=RecAt.shape hp;have M4:Hid (∀ b,(Value.slice b4 m.pc.length q4).ownBlock=some b->s3<=b/\b<w5.heap.size):=Z9 (fun b e=>⟨YV g3 (RecAt.lt hp e).1,(RecAt.lt hp e).2⟩);obtain ⟨s4,hs4⟩:∃ s,s=w5.heap.size:=⟨_,rfl⟩
 rw [<-hs4] at M4;have r4z:s3<=s4:=by have:=hb.size;omega
 clear g3;have g4:s4<=w5.heap.size:=Nat.le_of_eq hs4;clear hs4;clear hp hb;have o4:=(uh ko).cell (i:=4) (v:= .slice none 0 0) rfl;have f4:=(uh ko).free 4;have o0:=(uh ko).cell (i:=0) (v:= .slice b0 m.rm.length q0) rfl;have r0:=(uh kr).cell (i:=0) (v:= .slice none 0 0) rfl;have rf0:=(uh kr).free 0;have o1:=(uh ko).cell (i:=1) (v:= .slice b1 m.gd.length q1) rfl;have r1:=(uh kr).cell (i:=1) (v:= .slice none 0 0) rfl;have rf1:=(uh kr).free 1;have o2:=(uh ko).cell (i:=2) (v:= .slice b2 m.sm.length q2) rfl;have r2:=(uh kr).cell (i:=2) (v:= .slice none 0 0) rfl;have rf2:=(uh kr).free 2;have o3:=(uh ko).cell (i:=3) (v:= .slice b3 m.dk.length q3) rfl;have r3:=(uh kr).cell (i:=3) (v:= .slice none 0 0) rfl;have rf3:=(uh kr).free 3;have r4:=(uh kr).cell (i:=4) (v:= .slice none 0 0) rfl;have rf4:=(uh kr).free 4;have o5:=(uh ko).cell (i:=5) (v:= .int .i64 0) rfl;have r5:=(uh kr).cell (i:=5) (v:= .int .i64 0) rfl;have rf5:=(uh kr).free 5;have f5:=(uh ko).free 5;have c5:=(uh ka).cell (i:=5) (v:= .int .i64 m.now) rfl;go_wp2_with fail;refine Y7 (v:= .agg (S6 b0 q0 b1 q1 b2 q2 b3 q3 b4 q4 m)) (by simp [results,results9,go_sem,r0,r1,r2,r3,r4,r5]) rfl ⟨_,_,_,_,_,qs,rfl,?_,?_⟩
 ·refine FullSmy.mono ?_ (show w.heap.size<=w.heap.size+3 by omega)
  iterate 8 (refine FullSmy.set ?_ _ _ _ (by omega))
  have H0:∀ {u:Value} {k:Nat},s0<=k->(∀ b,u.ownBlock=some b->k<=b)->OffHall u (.slice b0 m.rm.length q0) qs:=fun hk hu=>⟨To (k:=s0) (fun b e=>YV hk (hu b e)) (fun b e=>uh L0 b (.inl e)),fun q hq=>To (k:=s0) (fun b e=>YV hk (hu b e)) (fun b e=>uh L0 b (.inr ⟨q,hq,e⟩))⟩
  exact ⟨uh n0,uh Hmap,uh n1,uh n2,uh n3,uh n4,H0 (k:=s0) (ZY _) (fun b e=>(uh M1 b e).1),H0 (k:=s1) (by omega) (fun b e=>(uh M2 b e).1),H0 (k:=s2) (by omega) (fun b e=>(uh M3 b e).1),H0 (k:=s3) (by omega) (fun b e=>(uh M4 b e).1),
   (To (k:=s1) (fun b e=>(uh M2 b e).1) (fun b e=>(uh M1 b e).2)).symm,(To (k:=s1) (fun b e=>by have:=(uh M3 b e).1;omega) (fun b e=>(uh M1 b e).2)).symm,(To (k:=s1) (fun b e=>by have:=(uh M4 b e).1;omega) (fun b e=>(uh M1 b e).2)).symm,
   (To (k:=s2) (fun b e=>(uh M3 b e).1) (fun b e=>(uh M2 b e).2)).symm,(To (k:=s2) (fun b e=>by have:=(uh M4 b e).1;omega) (fun b e=>(uh M2 b e).2)).symm,(To (k:=s3) (fun b e=>(uh M4 b e).1) (fun b e=>(uh M3 b e).2)).symm⟩
 ·iterate 8 (refine VZ ?_ (by first | (show _<=w.heap.size+1+1;omega) | (show _<=w.heap.size+1;omega)) _)
  exact uh BB
theorem tyG:N6 97 3 (.agg #[.int .i64 0,.int .i64 0,.int .i64 0]) Vf:=⟨by kernel_rfl,rfl,XH,by omega,by omega,fun x u hu=>by
 simp only [Vf,List.mem_cons,List.not_mem_nil,or_false] at hu
 rcases hu with rfl | rfl | rfl<;>rfl⟩
theorem tyS:N6 59 11 (.agg E11) Zz:=⟨by kernel_rfl,rfl,ZV,by omega,by omega,fun x u hu=>by
 simp only [Zz,List.mem_cons,List.not_mem_nil,or_false] at hu
 rcases hu with rfl | rfl | rfl | rfl | rfl | rfl | rfl | rfl | rfl | rfl | rfl<;>rfl⟩
theorem tyD:N6 87 3 (.agg #[.bool false,.int .i64 0,.int .i64 0]) XG:=⟨by kernel_rfl,rfl,ZF,by omega,by omega,fun x u hu=>by
 simp only [XG,List.mem_cons,List.not_mem_nil,or_false] at hu
 rcases hu with rfl | rfl | rfl<;>rfl⟩
theorem tyN:N6 2 1 (.int .i64 0) VS:=⟨by kernel_rfl,rfl,Yd,by omega,by omega,fun x u hu=>by
 simp only [VS,List.mem_cons,List.not_mem_nil,or_false] at hu
 rcases hu with rfl<;>rfl⟩
structure Few (m:Z3):Prop where
 rm:m.rm.length<=1000
 pc:∀ r ∈ m.rm,r.2.length<=1000
 gd:m.gd.length<=1000
 sm:m.sm.length<=800
 dk:m.dk.length<=1000
 nums:m.pc.length<=1000
theorem Gs {n₀:Nat} {w:World} {v0 v1 v2 v3 v4:Value} {m:Z3} {qs:List (Z4 × Value)} (s0 s1 s2 s3:Nat) (hh:OwnHall n₀ w v0 qs) (hr:qs.map (·.1)=m.rm) (hg:GuildsAt n₀ w v1 m.gd) (hs:SmithsAt n₀ w v2 m.sm) (hd:DesksAt n₀ w v3 m.dk) (hp:NumsAt n₀ w v4 m.pc)
  (l0:∀ b,(v0.ownBlock=some b\/ ∃ q ∈ qs,q.2.ownBlock=some b)->b<s0) (l1:∀ b,v1.ownBlock=some b->s0<=b/\b<s1) (l2:∀ b,v2.ownBlock=some b->s1<=b/\b<s2) (l3:∀ b,v3.ownBlock=some b->s2<=b/\b<s3) (l4:∀ b,v4.ownBlock=some b->s3<=b) (h1:s0<=s1) (h2:s1<=s2) (h3:s2<=s3) :
  FullSmy n₀ w v0 v1 v2 v3 v4 m qs:=by
 refine ⟨hh,hr,hg,hs,hd,hp,⟨?_,?_⟩,⟨?_,?_⟩,⟨?_,?_⟩,⟨?_,?_⟩,?_,?_,?_,?_,?_,?_⟩
 ·intro b e e';have:=(l1 b e).1;have:=l0 b (.inl e');omega
 ·intro q hq b e e';have:=(l1 b e).1;have:=l0 b (.inr ⟨q,hq,e'⟩);omega
 ·intro b e e';have:=(l2 b e).1;have:=l0 b (.inl e');omega
 ·intro q hq b e e';have:=(l2 b e).1;have:=l0 b (.inr ⟨q,hq,e'⟩);omega
 ·intro b e e';have:=(l3 b e).1;have:=l0 b (.inl e');omega
 ·intro q hq b e e';have:=(l3 b e).1;have:=l0 b (.inr ⟨q,hq,e'⟩);omega
 ·intro b e e';have:=l4 b e;have:=l0 b (.inl e');omega
 ·intro q hq b e e';have:=l4 b e;have:=l0 b (.inr ⟨q,hq,e'⟩);omega
 ·intro b e e';have:=l1 b e;have:=l2 b e';omega
 ·intro b e e';have:=l1 b e;have:=l3 b e';omega
 ·intro b e e';have:=l1 b e;have:=l4 b e';omega
 ·intro b e e';have:=l2 b e;have:=l3 b e';omega
 ·intro b e e';have:=l2 b e;have:=l4 b e';omega
 ·intro b e e';have:=l3 b e;have:=l4 b e';omega
theorem Ip {w:World} {v:Value} {ps:List ZG} (h:Y9 w v ps) (hl:ps.length<=1000) :
  Calls prog 69 #[v] w fun e w'=> ∃ v',e= .returned v'/\GuildsAt w.heap.size w' v' ps/\Below w.heap.size w w':=by
 have Hv:=Z9 h;obtain ⟨a,cap,rfl,hc,hm,hr⟩:=h;clear hr;go_enter func69,ntmps69;go_wp2_with (at_builtin;refine ZN tyG rfl (.tmp 3) (.tmp 4) 35 underlying35 rfl w.heap.size _ _ [] ps rfl rfl (Zh rfl (ZY _)) ((uh Hv).below ((ba _ _))) (by simp;omega) (by simp) ?_;intro v' w1 hown hgrow hat)
 go_ret;refine ⟨v',rfl,by simpa using hown,((ba _ _)).trans ((Z0 _ _).grown hgrow (by simp) (fun k e=> ?_))⟩;cases e;exact ZY _
theorem U4 {w:World} {v0 v1 v2 v3 v4:Value} {m:Z3} (h:Smy w v0 v1 v2 v3 v4 m) (hF:Few m) :
  Calls prog 27 #[.agg #[v0,v1,v2,v3,v4,.int .i64 m.now]] w fun e w'=> ∃ u0 u1 u2 u3 u4 qs,e= .returned (.agg #[u0,u1,u2,u3,u4,.int .i64 m.now])/\FullSmy w.heap.size w' u0 u1 u2 u3 u4 m qs/\Below w.heap.size w w':=by
 have Hv:=Z9 h;have HF:=Z9 hF;obtain ⟨a0,p0,a1,p1,a2,p2,a3,p3,a4,p4,rfl,rfl,rfl,rfl,rfl,_,_,_,_,_,_,_,_,_,_⟩:=h.five;clear h hF;go_enter func27,ntmps27;go_wp2_with fail;obtain ⟨W,hW,kb,kr,BB⟩:=Vx w 39 (S6 a0 p0 a1 p1 a2 p2 a3 p3 a4 p4 m) 39 E6;rw [hW];clear hW;have hW:w.heap.size+2<=W.heap.size:=by have:=(uh kr).lt;omega
 refine (Io ((uh Hv).below (uh BB)).rm (uh HF).rm (uh HF).pc).mono ?_;rintro e w1 ⟨u0,qs,rfl,hmap,hp,hb⟩;have Hmap:=Z9 hmap;clear hmap;have n0:Hid (OwnHall (w.heap.size+2) w1 u0 qs):=Z9 (hp.mono hW);replace kb:=bl kb hb;replace kr:=bl kr hb;replace BB:=bt BB hb;have hW1:w.heap.size+2<=w1.heap.size:=by have:=hb.size;omega
 obtain ⟨b0,q0,rfl⟩:=hp.shape;have hql:qs.length=m.rm.length:=by rw [<-uh Hmap,List.length_map]
 rw [hql] at n0 ⊢;have L0:Hid (∀ b,((Value.slice b0 m.rm.length q0).ownBlock=some b\/ ∃ q ∈ qs,q.2.ownBlock=some b)->b<w1.heap.size):=Z9 (fun b e=>((uh n0).lt e).2);clear hp hql hb hW;have o0:=(uh kb).cell (i:=0) (v:= .slice a0 m.rm.length p0) rfl;have f0:=(uh kb).free 0;go_upto_region 2 with fail;clear o0 f0;replace kb:Hid (Blk (w1.setCell ⟨w.heap.size,0,none⟩ (.slice b0 m.rm.length q0)) w.heap.size 39 (S6 b0 q0 a1 p1 a2 p2 a3 p3 a4 p4 m)):=Z9 ((uh kb).set 0 _);replace kr:Hid (Blk (w1.setCell ⟨w.heap.size,0,none⟩ (.slice b0 m.rm.length q0)) (w.heap.size+1) 39 E6):=Z9 ((uh kr).other (a:=⟨w.heap.size,0,none⟩) (by show w.heap.size+1 ≠ w.heap.size;omega) _);replace BB:Hid (Below w.heap.size w (w1.setCell ⟨w.heap.size,0,none⟩ (.slice b0 m.rm.length q0))):=Z9 ((uh BB).setCell (p:=⟨w.heap.size,0,none⟩) (ZY _) _);replace n0:=Z9 ((uh n0).set_old w.heap.size 0 (.slice b0 m.rm.length q0) (by omega));have g0:w1.heap.size<=(w1.setCell ⟨w.heap.size,0,none⟩ (.slice b0 m.rm.length q0)).heap.size:=by simp
 generalize w1.setCell ⟨w.heap.size,0,none⟩ (.slice b0 m.rm.length q0)=X0 at *;have c1:=(uh kb).cell (i:=1) (v:= .slice a1 m.gd.length p1) rfl;go_wp2_with fail;clear c1;refine (Ip ((uh Hv).below (uh BB)).gd (uh HF).gd).mono ?_;rintro e w2 ⟨u1,rfl,hp,hb⟩;have n1:Hid (GuildsAt (w.heap.size+2) w2 u1 m.gd):=Z9 (RecAt.mono hp (by omega));have M1:Hid (∀ b,u1.ownBlock=some b->w1.heap.size<=b/\b<w2.heap.size):=Z9 (fun b e=>⟨YV g0 (RecAt.lt hp e).1,(RecAt.lt hp e).2⟩);replace kb:=bl kb hb;replace kr:=bl kr hb;replace n0:=Z9 ((uh n0).later hb);replace BB:=bt BB hb;have z1:w1.heap.size<=w2.heap.size:=YV g0 hb.size;obtain ⟨b1,q1,rfl⟩:=RecAt.shape hp;clear hp hb;have o1:=(uh kb).cell (i:=1) (v:= .slice a1 m.gd.length p1) rfl;have f1:=(uh kb).free 1;go_upto_region 3 with fail;clear o1 f1;replace kb:Hid (Blk (w2.setCell ⟨w.heap.size,1,none⟩ (.slice b1 m.gd.length q1)) w.heap.size 39 (S6 b0 q0 b1 q1 a2 p2 a3 p3 a4 p4 m)):=Z9 ((uh kb).set 1 _);replace kr:Hid (Blk (w2.setCell ⟨w.heap.size,1,none⟩ (.slice b1 m.gd.length q1)) (w.heap.size+1) 39 E6):=Z9 ((uh kr).other (a:=⟨w.heap.size,1,none⟩) (by show w.heap.size+1 ≠ w.heap.size;omega) _);replace BB:Hid (Below w.heap.size w (w2.setCell ⟨w.heap.size,1,none⟩ (.slice b1 m.gd.length q1))):=Z9 ((uh BB).setCell (p:=⟨w.heap.size,1,none⟩) (ZY _) _);replace n0:=Z9 ((uh n0).set_old w.heap.size 1 (.slice b1 m.gd.length q1) (by omega));replace n1:=Z9 (RecAt.set_old (uh n1) w.heap.size 1 (.slice b1 m.gd.length q1) (by omega));have g1:w2.heap.size<=(w2.setCell ⟨w.heap.size,1,none⟩ (.slice b1 m.gd.length q1)).heap.size:=by simp
 generalize w2.setCell ⟨w.heap.size,1,none⟩ (.slice b1 m.gd.length q1)=X1 at *;have c2:=(uh kb).cell (i:=2) (v:= .slice a2 m.sm.length p2) rfl;have HX:=Z9 (((uh Hv).below (uh BB)).sm);have hl9:=(uh HF).sm;have hlt9:=(uh kb).lt;go_upto_region 4 with (at_builtin;refine ZN tyS rfl (.tmp 11) (.tmp 13) 36 underlying36 rfl X1.heap.size _ _ [] m.sm rfl rfl (Zh rfl (ZY _)) (IsRec.below (uh HX) ((ba _ _))) (by simp;omega) (by simp) ?_;intro u2 w3 hp9 hg9 hat9;rw [List.nil_append] at hp9;have hb9:Below X1.heap.size X1 w3:=((ba _ _)).trans ((Z0 _ _).grown hg9 (by simp) (fun k e=>by cases e;exact ZY _));have k9:=(uh kb).below hb9 (uh kb).lt;have o9:=k9.cell (i:=2) (v:= .slice a2 m.sm.length p2) rfl;have f9:=k9.free 2;obtain ⟨a9,c9,hu9⟩:=RecAt.shape hp9;subst hu9;have hp:=Z9 hp9;have hb:=Z9 hb9;clear hp9 hb9 k9 hg9 hat9)
 clear c2 HX hl9 hlt9 o9 f9;replace hp:=uh hp;replace hb:=uh hb;obtain ⟨u2,hu2⟩:∃ u,u=Value.slice a9 m.sm.length c9:=⟨_,rfl⟩
 rw [<-hu2] at hp ⊢;clear hu2;have n2:Hid (SmithsAt (w.heap.size+2) w3 u2 m.sm):=Z9 (RecAt.mono hp (by omega));have M2:Hid (∀ b,u2.ownBlock=some b->w2.heap.size<=b/\b<w3.heap.size):=Z9 (fun b e=>⟨YV g1 (RecAt.lt hp e).1,(RecAt.lt hp e).2⟩);replace kb:=bl kb hb;replace kr:=bl kr hb;replace n0:=Z9 ((uh n0).later hb);replace n1:=Z9 (RecAt.later (uh n1) hb);replace BB:=bt BB hb;have z2:w2.heap.size<=w3.heap.size:=YV g1 hb.size;obtain ⟨b2,q2,rfl⟩:=RecAt.shape hp;clear hp hb;replace kb:Hid (Blk (w3.setCell ⟨w.heap.size,2,none⟩ (.slice b2 m.sm.length q2)) w.heap.size 39 (S6 b0 q0 b1 q1 b2 q2 a3 p3 a4 p4 m)):=Z9 ((uh kb).set 2 _);replace kr:Hid (Blk (w3.setCell ⟨w.heap.size,2,none⟩ (.slice b2 m.sm.length q2)) (w.heap.size+1) 39 E6):=Z9 ((uh kr).other (a:=⟨w.heap.size,2,none⟩) (by show w.heap.size+1 ≠ w.heap.size;omega) _);replace BB:Hid (Below w.heap.size w (w3.setCell ⟨w.heap.size,2,none⟩ (.slice b2 m.sm.length q2))):=Z9 ((uh BB).setCell (p:=⟨w.heap.size,2,none⟩) (ZY _) _);replace n0:=Z9 ((uh n0).set_old w.heap.size 2 (.slice b2 m.sm.length q2) (by omega));replace n1:=Z9 (RecAt.set_old (uh n1) w.heap.size 2 (.slice b2 m.sm.length q2) (by omega));replace n2:=Z9 (RecAt.set_old (uh n2) w.heap.size 2 (.slice b2 m.sm.length q2) (by omega));have g2:w3.heap.size<=(w3.setCell ⟨w.heap.size,2,none⟩ (.slice b2 m.sm.length q2)).heap.size:=by simp
 generalize w3.setCell ⟨w.heap.size,2,none⟩ (.slice b2 m.sm.length q2)=X2 at *;have c3:=(uh kb).cell (i:=3) (v:= .slice a3 m.dk.length p3) rfl;have HX:=Z9 (((uh Hv).below (uh BB)).dk);have hl9:=(uh HF).dk;have hlt9:=(uh kb).lt;go_upto_region 5 with (at_builtin;refine ZN tyD rfl (.tmp 16) (.tmp 18) 37 underlying37 rfl X2.heap.size _ _ [] m.dk rfl rfl (Zh rfl (ZY _)) (IsRec.below (uh HX) ((ba _ _))) (by simp;omega) (by simp) ?_;intro u3 w4 hp9 hg9 hat9;rw [List.nil_append] at hp9;have hb9:Below X2.heap.size X2 w4:=((ba _ _)).trans ((Z0 _ _).grown hg9 (by simp) (fun k e=>by cases e;exact ZY _));have k9:=(uh kb).below hb9 (uh kb).lt;have o9:=k9.cell (i:=3) (v:= .slice a3 m.dk.length p3) rfl;have f9:=k9.free 3;obtain ⟨a9,c9,hu9⟩:=RecAt.shape hp9;subst hu9;have hp:=Z9 hp9;have hb:=Z9 hb9;clear hp9 hb9 k9 hg9 hat9)
 clear c3 HX hl9 hlt9 o9 f9;replace hp:=uh hp;replace hb:=uh hb;obtain ⟨u3,hu3⟩:∃ u,u=Value.slice a9 m.dk.length c9:=⟨_,rfl⟩
 rw [<-hu3] at hp ⊢;clear hu3;have n3:Hid (DesksAt (w.heap.size+2) w4 u3 m.dk):=Z9 (RecAt.mono hp (by omega));have M3:Hid (∀ b,u3.ownBlock=some b->w3.heap.size<=b/\b<w4.heap.size):=Z9 (fun b e=>⟨YV g2 (RecAt.lt hp e).1,(RecAt.lt hp e).2⟩);replace kb:=bl kb hb;replace kr:=bl kr hb;replace n0:=Z9 ((uh n0).later hb);replace n1:=Z9 (RecAt.later (uh n1) hb);replace n2:=Z9 (RecAt.later (uh n2) hb);replace BB:=bt BB hb;have z3:w3.heap.size<=w4.heap.size:=YV g2 hb.size;obtain ⟨b3,q3,rfl⟩:=RecAt.shape hp;clear hp hb;replace kb:Hid (Blk (w4.setCell ⟨w.heap.size,3,none⟩ (.slice b3 m.dk.length q3)) w.heap.size 39 (S6 b0 q0 b1 q1 b2 q2 b3 q3 a4 p4 m)):=Z9 ((uh kb).set 3 _);replace kr:Hid (Blk (w4.setCell ⟨w.heap.size,3,none⟩ (.slice b3 m.dk.length q3)) (w.heap.size+1) 39 E6):=Z9 ((uh kr).other (a:=⟨w.heap.size,3,none⟩) (by show w.heap.size+1 ≠ w.heap.size;omega) _);replace BB:Hid (Below w.heap.size w (w4.setCell ⟨w.heap.size,3,none⟩ (.slice b3 m.dk.length q3))):=Z9 ((uh BB).setCell (p:=⟨w.heap.size,3,none⟩) (ZY _) _);replace n0:=Z9 ((uh n0).set_old w.heap.size 3 (.slice b3 m.dk.length q3) (by omega));replace n1:=Z9 (RecAt.set_old (uh n1) w.heap.size 3 (.slice b3 m.dk.length q3) (by omega));replace n2:=Z9 (RecAt.set_old (uh n2) w.heap.size 3 (.slice b3 m.dk.length q3) (by omega));replace n3:=Z9 (RecAt.set_old (uh n3) w.heap.size 3 (.slice b3 m.dk.length q3) (by omega));have g3:w4.heap.size<=(w4.setCell ⟨w.heap.size,3,none⟩ (.slice b3 m.dk.length q3)).heap.size:=by simp
 generalize w4.setCell ⟨w.heap.size,3,none⟩ (.slice b3 m.dk.length q3)=X3 at *;have c4:=(uh kb).cell (i:=4) (v:= .slice a4 m.pc.length p4) rfl;have HX:=Z9 (((uh Hv).below (uh BB)).pc);have hl9:=(uh HF).nums;have hlt9:=(uh kb).lt;go_upto_region 6 with (at_builtin;refine ZN tyN rfl (.tmp 21) (.tmp 23) 28 underlying28 rfl X3.heap.size _ _ [] m.pc rfl rfl (Zh rfl (ZY _)) (IsRec.below (uh HX) ((ba _ _))) (by simp;omega) (by simp) ?_;intro u4 w5 hp9 hg9 hat9;rw [List.nil_append] at hp9;have hb9:Below X3.heap.size X3 w5:=((ba _ _)).trans ((Z0 _ _).grown hg9 (by simp) (fun k e=>by cases e;exact ZY _));have k9:=(uh kb).below hb9 (uh kb).lt;have o9:=k9.cell (i:=4) (v:= .slice a4 m.pc.length p4) rfl;have f9:=k9.free 4;obtain ⟨a9,c9,hu9⟩:=RecAt.shape hp9;subst hu9;have hp:=Z9 hp9;have hb:=Z9 hb9;clear hp9 hb9 k9 hg9 hat9)
 clear c4 HX hl9 hlt9 o9 f9;replace hp:=uh hp;replace hb:=uh hb;obtain ⟨u4,hu4⟩:∃ u,u=Value.slice a9 m.pc.length c9:=⟨_,rfl⟩
 rw [<-hu4] at hp ⊢;clear hu4;have n4:Hid (NumsAt (w.heap.size+2) w5 u4 m.pc):=Z9 (RecAt.mono hp (by omega));have M4:Hid (∀ b,u4.ownBlock=some b->w4.heap.size<=b/\b<w5.heap.size):=Z9 (fun b e=>⟨YV g3 (RecAt.lt hp e).1,(RecAt.lt hp e).2⟩);replace kb:=bl kb hb;replace kr:=bl kr hb;replace n0:=Z9 ((uh n0).later hb);replace n1:=Z9 (RecAt.later (uh n1) hb);replace n2:=Z9 (RecAt.later (uh n2) hb);replace n3:=Z9 (RecAt.later (uh n3) hb);replace BB:=bt BB hb;have z4:w4.heap.size<=w5.heap.size:=YV g3 hb.size;obtain ⟨b4,q4,rfl⟩:=RecAt.shape hp;clear hp hb;replace kb:Hid (Blk (w5.setCell ⟨w.heap.size,4,none⟩ (.slice b4 m.pc.length q4)) w.heap.size 39 (S6 b0 q0 b1 q1 b2 q2 b3 q3 b4 q4 m)):=Z9 ((uh kb).set 4 _);replace kr:Hid (Blk (w5.setCell ⟨w.heap.size,4,none⟩ (.slice b4 m.pc.length q4)) (w.heap.size+1) 39 E6):=Z9 ((uh kr).other (a:=⟨w.heap.size,4,none⟩) (by show w.heap.size+1 ≠ w.heap.size;omega) _);replace BB:Hid (Below w.heap.size w (w5.setCell ⟨w.heap.size,4,none⟩ (.slice b4 m.pc.length q4))):=Z9 ((uh BB).setCell (p:=⟨w.heap.size,4,none⟩) (ZY _) _);replace n0:=Z9 ((uh n0).set_old w.heap.size 4 (.slice b4 m.pc.length q4) (by omega));replace n1:=Z9 (RecAt.set_old (uh n1) w.heap.size 4 (.slice b4 m.pc.length q4) (by omega));replace n2:=Z9 (RecAt.set_old (uh n2) w.heap.size 4 (.slice b4 m.pc.length q4) (by omega));replace n3:=Z9 (RecAt.set_old (uh n3) w.heap.size 4 (.slice b4 m.pc.length q4) (by omega));replace n4:=Z9 (RecAt.set_old (uh n4) w.heap.size 4 (.slice b4 m.pc.length q4) (by omega));have g4:w5.heap.size<=(w5.setCell ⟨w.heap.size,4,none⟩ (.slice b4 m.pc.length q4)).heap.size:=by simp
 generalize w5.setCell ⟨w.heap.size,4,none⟩ (.slice b4 m.pc.length q4)=X4 at *;obtain ⟨c0,c1,c2,c3,c4,c5⟩:=(uh kb).c6;obtain ⟨o0,o1,o2,o3,o4,o5⟩:=(uh kr).c6;obtain ⟨f0,f1,f2,f3,f4,f5⟩:=(uh kr).f6;go_wp2_with fail;refine Y7 (v:= .agg (S6 b0 q0 b1 q1 b2 q2 b3 q3 b4 q4 m)) (by simp [results,results27,go_sem, *]) rfl ⟨_,_,_,_,_,qs,rfl,?_,?_⟩
 ·refine FullSmy.mono (n₀:=w.heap.size+2) (Gs w1.heap.size w2.heap.size w3.heap.size w4.heap.size ?_ (uh Hmap) ?_ ?_ ?_ ?_ (uh L0) (uh M1) (uh M2) (uh M3) (fun b e=>(uh M4 b e).1) z1 z2 z3) (by omega)
  ·iterate 6 (refine OwnHall.set_old ?_ _ _ _ (by omega))
   exact uh n0
  ·iterate 6 (refine RecAt.set_old ?_ _ _ _ (by omega))
   exact uh n1
  ·iterate 6 (refine RecAt.set_old ?_ _ _ _ (by omega))
   exact uh n2
  ·iterate 6 (refine RecAt.set_old ?_ _ _ _ (by omega))
   exact uh n3
  ·iterate 6 (refine RecAt.set_old ?_ _ _ _ (by omega))
   exact uh n4
 ·iterate 6 (refine VZ ?_ (by show _<=w.heap.size+1;omega) _)
  exact uh BB
set_option linter.unusedSimpArgs false
set_option maxRecDepth 100000
theorem O2 {B g:Nat} {w:World} (hg:g=w.heap.size) (hB:B<=g):OwnHall B (w.alloc (.cells #[] 126)) (.slice (some ⟨g,0,none⟩) 0 0) []:=by
 subst hg;exact ⟨⟨by simp [Xb],.inr ⟨_,0,#[],rfl,hB,heap_alloc_new w _,ZY _,ZR _,by simp,by simp [Xb]⟩⟩,fun _ h=>(by cases h),fun _ h=>(by cases h),List.Pairwise.nil⟩
theorem G7 {w:World} {v:Value} {ps:List Z6} (h:IsPaces w v ps) (hl:ps.length<=1000):Calls prog 166 #[v] w fun e w'=> ∃ v',e= .returned v'/\PacesAt w.heap.size w' v' ps/\Below w.heap.size w w':=by
 have HR:=Z9 (IsPaces.rec (h.below ((Z0 _ _).alloc (ZY _) (.cells #[] 168))));obtain ⟨a,cap,rfl,hc,hm,hr⟩:=h;clear hr;go_enter func166,ntmps166;go_wp2_with (at_builtin;refine ZN E4 rfl (.tmp 3) (.tmp 4) 200 underlying200 rfl w.heap.size _ _ [] ps rfl rfl (Zh rfl (ZY _)) (uh HR) (by simp;omega) (by simp) ?_;intro u9 w9 hp9 hg9 hat9;rw [List.nil_append] at hp9;have HP9:=Z9 hp9;have HG9:=Z9 hg9;clear hp9 hg9 hat9)
 have hb9:Below w.heap.size w w9:=((ba _ _)).trans ((Z0 _ _).grown (uh HG9) (by simp) (fun i e=>by cases e;exact ZY _));go_wp2_with fail;go_ret;exact ⟨_,rfl,uh HP9,hb9⟩
theorem Oh {w:World} {v:Value} {rs:List Z4} (h:IsRooms w v rs) (hl:rs.length<=1000) (hp:∀ r ∈ rs,r.2.length<=1000) :
  Calls prog 125 #[.agg #[v]] w fun e w'=> ∃ v' qs,e= .returned (.agg #[v'])/\qs.map (·.1)=rs/\OwnHall w.heap.size w' v' qs/\Below w.heap.size w w':=by
 obtain ⟨a,cap,rfl,hc,hm,hr⟩:=h;have Hr:=Z9 hr;have HP:=Z9 hp;clear hr hp;go_enter func125,ntmps125;go_wp2_with fail
 go_loopw [3,10] (fun u i wr=> ∃ (k:Nat) (qs:List (Z4 × Value)) (ua:Option Addr) (uc:Nat),k<=rs.length/\i= .int .i64 k/\u= .slice ua k uc/\Blk wr (w.heap.size+1) 34 #[.slice none 0 0]/\OwnHall (w.heap.size+2) wr (.slice ua k uc) qs/\qs.map (·.1)=rs.take k/\Below w.heap.size w wr) (fun _ i _=>rs.length-(intOf i).toNat)
 case atStart=>
  refine ⟨0,[],_,_,ZR _,rfl,rfl,?_,O2 (by simp) (by simp),rfl,(((ba _ _)).alloc (by simp) _).alloc (by simp;omega) _⟩;have k:=Blk.new (w.alloc (.cells #[.slice a rs.length cap] 34)) 34 #[.slice none 0 0];rw [YW] at k;exact k.alloc _
 case round=>
  obtain ⟨k,qs,ua,uc,hk,rfl,rfl,kr,ho,hq,hb⟩:=hrel;have hql:qs.length=k:=by have:=congrArg List.length hq;simp at this;omega
  have Hql:=Z9 hql;clear hql;have Kr:=Z9 kr;have Ho:=Z9 ho;have Hq:=Z9 hq;have Hb:=Z9 hb;have hsz:=kr.lt;by_cases hlt:k<rs.length
  ·have hlt1:(k:Int)<(rs.length:Int):=by omega
   rcases uh Hr with e0 | ⟨b,off,rfl,hbw,hcl⟩
   ·rw [e0] at hlt;simp at hlt
   obtain ⟨c0,pv,c1,hpv⟩:=hcl k hlt;rw [<-hb.cell (p:=⟨b,off+k*2,none⟩) hbw] at c0;rw [<-hb.cell (p:=⟨b,off+k*2+1,none⟩) hbw] at c1;have Hpv:=Z9 (hpv.below (hb.mono (ZY _)));have hpl:=uh HP (ZU rs k) (by unfold ZU;simp [List.getD,hlt]);have Htk:Hid (rs.take (k+1)=rs.take k++[ZU rs k]):=Z9 (by rw [List.take_succ_eq_append_getElem hlt];unfold ZU;simp [List.getD,hlt]);generalize ZU rs k=r at *;obtain ⟨n,ps⟩:=r;simp only at c0 hpl hpv;obtain ⟨pa,pc,rfl,_,_,_⟩:=hpv;have hbw':b<wr.heap.size:=by have:=hb.size;omega
   clear hcl kr ho hq hb;go_wp2_with fail;clear c0 c1;have hba:Below wr.heap.size wr (wr.alloc (.cells #[.int .i64 n,.slice pa ps.length pc] 126)):=ba _ _;have KB:Hid (Blk (wr.alloc (.cells #[.int .i64 n,.slice pa ps.length pc] 126)) wr.heap.size 126 #[.int .i64 n,.slice pa ps.length pc]):=Z9 (Blk.new wr _ _);replace Kr:=bl Kr hba;have HLB:Hid (∀ i,(Value.slice ua k uc).ownBlock=some i->i<wr.heap.size):=Z9 (fun i e=>((uh Ho).lt (.inl e)).2);replace Ho:=Z9 ((uh Ho).later hba);replace Hb:=Z9 ((uh Hb).trans (hba.mono (uh Hb).size));replace Hpv:=Z9 ((uh Hpv).below hba);have hsz2:w.heap.size+2<=(wr.alloc (.cells #[.int .i64 n,.slice pa ps.length pc] 126)).heap.size:=by have:=(uh Kr).lt;simp at this ⊢;omega
   clear hba;generalize wr.alloc (.cells #[.int .i64 n,.slice pa ps.length pc] 126)=X at *;generalize wr.heap.size=rb at *;have s0:=(uh KB).cell (i:=0) (v:= .int .i64 n) rfl;have s1:=(uh KB).cell (i:=1) (v:= .slice pa ps.length pc) rfl;refine ZH (S:=fun w'=>w'.cell? ⟨rb,0,none⟩=some (.int .i64 n)/\w'.cell? ⟨rb,1,none⟩=some (.slice pa ps.length pc)) (by kernel_rfl) (Va _ _) (by kernel_rfl) ⟨s0,s1⟩ (fun hHeld=> ?_);simp only [Vb,Vc,XY,Xo,Nat.zero_add,Nat.reduceAdd]
   iterate 5 refine tz ?_
   refine rd 5 rfl (fun K hK=> ?_);go_simp;refine (G7 ((uh Hpv).below (Z0 _ _).drew) hpl).mono ?_;rintro e9 w4 ⟨v4,rfl,hp4,hb4⟩;obtain ⟨pa4,pc4,rfl⟩:=PacesAt.shape hp4;have X4:Below X.heap.size X w4:=(Z0 X.heap.size X).drew.trans hb4;have HO4:Hid (PacesAt X.heap.size w4 (.slice pa4 ps.length pc4) ps):=Z9 hp4;have HX4:=Z9 X4;have hz4:=X4.size;have t0:=(X4.cell (p:=⟨rb,0,none⟩) (uh KB).lt).trans s0;have t1:=(X4.cell (p:=⟨rb,1,none⟩) (uh KB).lt).trans s1;clear hp4 hb4 X4;refine hK.out _ _ ⟨t0,t1⟩ (fun hHeld=> ?_);clear hK K
   (try simp only [Act.put,sA,sZ,sS])
   refine tp 6 ?_;have KB5:=((uh KB).below (uh HX4) (uh KB).lt).alloc (.cells #[.int .i64 n,.slice pa4 ps.length pc4] 126);have u0:=KB5.cell (i:=0) (v:= .int .i64 n) rfl;have u1:=KB5.cell (i:=1) (v:= .slice pa ps.length pc) rfl;refine rd 7 rfl (fun K hK=> ?_);go_simp;refine hK.out _ _ ⟨u0,u1⟩ (fun hHeld=> ?_);clear hK K
   (try simp only [Act.put,sA,sZ,sS])
   obtain ⟨v5,w5,hrun5,hown5,hg5,hat5⟩:=TM (w:=w4.alloc (.cells #[.int .i64 n,.slice pa4 ps.length pc4] 126)) (t:=32) (ty:=32) (base:=w.heap.size+2) (v:= .slice ua k uc) (n:=k) (xs:=Xb qs) underlying32 (World.ownsRow.alloc (by have h9:=((uh Ho).later (uh HX4)).row;rw [uh Hql] at h9;exact h9) _) (g:=w4.heap.size) (c:=1) (Zv w4 (i:=0) rfl) (Zv w4 (i:=1) rfl) rfl (by omega) (by simp;omega);obtain ⟨a5,c5,rfl⟩:=M0 hown5;have hn5:∀ i,(Value.slice ua k uc).ownBlock=some i->w.heap.size+2<=i/\i<X.heap.size:=fun i e=>(uh Ho).lt (.inl e);have hrbX:=(uh KB).lt;have RB:Hid (∀ i,(Value.slice ua k uc).ownBlock=some i->i ≠ rb):=Z9 (fun i e e2=>by have:=uh HLB i e;omega);have KB6:=KB5.same (w':=w5) (hg5.block _ KB5.lt (fun e=>uh RB _ e.symm rfl));have y0:=KB6.cell (i:=0) (v:= .int .i64 n) rfl;have y1:=KB6.cell (i:=1) (v:= .slice pa ps.length pc) rfl;have HO5:=Z9 hown5;have HG5:=Z9 hg5;have HA5:=Z9 hat5;have R5:=Z9 hrun5
   have X5:Hid (Below (w.heap.size+2) X w5):=Z9 (by
    have q1:Below X.heap.size X w4:=uh HX4;have q2:Below w4.heap.size w4 (w4.alloc (.cells #[.int .i64 n,.slice pa4 ps.length pc4] 126)):=ba _ _;have q3:Below (w.heap.size+2) (w4.alloc (.cells #[.int .i64 n,.slice pa4 ps.length pc4] 126)) w5:=(Z0 _ _).grown (uh HG5) (by have:=q1.size;simp;omega) (fun i e=>((uh Ho).lt (.inl e)).1)
    exact ((q1.mono (by omega)).trans (q2.mono (by have:=q1.size;omega))).trans q3)
   have hp5:OwnHall (w.heap.size+2) w5 (.slice a5 (k+1) c5) (qs++[((n,ps),.slice pa4 ps.length pc4)]):=by
    have q1:OwnHall (w.heap.size+2) w4 (.slice ua k uc) qs:=(uh Ho).later (uh HX4);have q2:PacesAt X.heap.size w4 (.slice pa4 ps.length pc4) ps:=uh HO4;have q3:PacesAt (w.heap.size+2) w4 (.slice pa4 ps.length pc4) ps:=q2.mono (by omega);refine OwnHall.push (w:=w4) (w1:=w5) (v:= .slice ua k uc) (o:= .cells #[.int .i64 n,.slice pa4 ps.length pc4] 126) q1 q3 ?_ ?_ ?_ (uh HG5) (uh HA5)
    ·intro b' e e'
     have h8:=(q2.lt e).1;have h9:=((uh Ho).lt (.inl e')).2;omega
    ·intro q hq' b' e e'
     have h8:=(q2.lt e').1;have h9:=((uh Ho).lt (.inr ⟨q,hq',e⟩)).2;omega
    ·rw [uh Hql];exact uh HO5
   have HP5:=Z9 hp5;clear hp5 hown5 hg5 hat5 hrun5 KB5 KB6;refine rd 8 rfl (fun K hK=> ?_);refine WV rfl (.tmp 14) (.tmp 21) 32 rfl rfl rfl (uh R5) ?_;refine hK.out _ _ ⟨y0,y1⟩ (fun hHeld=> ?_);clear hK K
   (try simp only [Act.put,sA,sZ,sS])
   refine wpAnyH_done (by kernel_rfl) ?_ _;refine YQ rfl rfl ?_;go_simp;clear hHeld;go_wp2_with fail;go_roundw
   case rel=>
    exact ⟨k+1,qs++[((n,ps),.slice pa4 ps.length pc4)],a5,c5,by omega,by go_num,rfl,(uh Kr).below (uh X5) (by omega),uh HP5,by rw [List.map_append,uh Hq,uh Htk];rfl,(uh Hb).trans ((uh X5).mono (by omega))⟩
   case measure=>exact ms
  ·obtain rfl:k=rs.length:=by omega
   have r0:=kr.cell (i:=0) rfl;have r1:=kr.free 0;go_wp2_with fail;rw [List.take_length] at hq;refine Y7 (v:= .agg #[.slice ua rs.length uc]) (by simp [results,results125,go_sem, *]) rfl ⟨_,qs,rfl,hq,?_,?_⟩
   ·exact (ho.same fun i h0 hi=>heap_setCell_other _ _ _ _ (by show i ≠ w.heap.size+1;omega)).mono (by omega)
   ·exact hb.setCell (by show _<=w.heap.size+1;omega) _
open Go.ChangeShapes Go.WideShapes Go.ChangeAt Go.RowKit Go.Sort
structure Two (p q:Option Nat) (w w':World):Prop where
 os:w'.os=w.os
 tape:w'.tape=w.tape
 output:w'.output=w.output
 size:w.heap.size<=w'.heap.size
 block:∀ k,k<w.heap.size->p ≠ some k->q ≠ some k->w'.heap[k]?=w.heap[k]?
section
variable {p q : Option Nat} {w w' w'' : World}
theorem Two.refl (p q:Option Nat) (w:World):Two p q w w:=⟨rfl,rfl,rfl,ZY _,fun _ _ _ _=>rfl⟩
theorem Two.trans (h:Two p q w w') (k:Two p q w' w''):Two p q w w'':=
 ⟨k.os.trans h.os,k.tape.trans h.tape,k.output.trans h.output,YV h.size k.size,fun i hi hp hq=>(k.block i (ZD hi h.size) hp hq).trans (h.block i hi hp hq)⟩
theorem Two.of_below (h:Below w.heap.size w w'):Two p q w w':=⟨h.os,h.tape,h.output,h.size,fun i hi _ _=>h.block i hi⟩
theorem Two.of_set (w:World) {g:Nat} (hg:p=some g\/q=some g) (o:Nat) (u:Value):Two p q w (w.setCell ⟨g,o,none⟩ u):=
 ⟨rfl,rfl,rfl,by simp,fun i hi hp hq=>heap_setCell_other w _ i u (fun e=>by
  have e:i=g:=e;subst e
  rcases hg with h | h
  ·exact hp h
  ·exact hq h)⟩
theorem Two.below {B:Nat} (h:Two p q w w') (hB:B<=w.heap.size) (hp:∀ k,p=some k->B<=k) (hq:∀ k,q=some k->B<=k):Below B w w':=
 ⟨h.os,h.tape,h.output,h.size,fun i hi=>h.block i (ZD hi hB) (fun e=>by have:=hp i e;omega) (fun e=>by have:=hq i e;omega)⟩
theorem Blk.two {R:Nat} {t:TypeId} {cs:Array Value} (h:Blk w R t cs) (ht:Two p q w w') (hp:p ≠ some R) (hq:q ≠ some R):Blk w' R t cs:=h.same (ht.block R h.lt hp hq)
end
theorem OwnHall.same2 {n₀:Nat} {w w':World} {v:Value} {qs:List (Z4 × Value)} (h:OwnHall n₀ w v qs) (hs:∀ k,(v.ownBlock=some k\/ ∃ q ∈ qs,q.2.ownBlock=some k)->w'.heap[k]?=w.heap[k]?):OwnHall n₀ w' v qs:=
 ⟨YJ h.row (fun k e=>hs k (.inl e)),fun q hq=>YJ (h.pc q hq) (fun k e=>hs k (.inr ⟨q,hq,e⟩)),h.off,h.apart⟩
section
variable {n₀ n cap g : Nat} {w : World} {v0 v1 v2 v3 v4 : Value} {m : Z3} {qs : List (Z4 × Value)}
theorem FullSmy.putS (hf:FullSmy n₀ w v0 v1 (.slice (some ⟨g,0,none⟩) n cap) v3 v4 m qs) (hn:n=m.sm.length) {j i:Nat} (hj:j<m.sm.length) (hi:i<11) (u:Value) (x:ZZ) (hx:Zz x=(Zz (Z8 m.sm j)).set i u) :
  FullSmy n₀ (w.setCell ⟨g,j*11+i,none⟩ u) v0 v1 (.slice (some ⟨g,0,none⟩) n cap) v3 v4 { m with sm:=m.sm.set j x } qs:=by
 have hb:(Value.slice (some ⟨g,0,none⟩) n cap).ownBlock=some g:=rfl;have hne:∀ k,k ≠ g->(w.setCell ⟨g,j*11+i,none⟩ u).heap[k]?=w.heap[k]?:=fun k hk=>heap_setCell_other w _ k u hk;refine ⟨hf.hall.same2 fun k e=>hne k fun e'=> ?_,hf.rm,RecAt.same hf.gd fun k e=>hne k fun e'=> ?_,(RecAt.put1 ZV (by omega) hf.sm hn hj hi u x hx).1,RecAt.same hf.dk fun k e=>hne k fun e'=> ?_,RecAt.same hf.pc fun k e=>hne k fun e'=> ?_,hf.h1,hf.h2,hf.h3,hf.h4,hf.a12,hf.a13,hf.a14,hf.a23,hf.a24,hf.a34⟩
 ·subst e'
  rcases e with e | ⟨q,hq,e⟩
  ·exact hf.h2.1 _ hb e
  ·exact hf.h2.2 q hq _ hb e
 ·subst e';exact hf.a12 _ e hb
 ·subst e';exact hf.a23 _ hb e
 ·subst e';exact hf.a24 _ hb e
theorem FullSmy.putD (hf:FullSmy n₀ w v0 v1 v2 (.slice (some ⟨g,0,none⟩) n cap) v4 m qs) (hn:n=m.dk.length) {j i:Nat} (hj:j<m.dk.length) (hi:i<3) (u:Value) (x:Yt) (hx:XG x=(XG (Z8 m.dk j)).set i u) :
  FullSmy n₀ (w.setCell ⟨g,j*3+i,none⟩ u) v0 v1 v2 (.slice (some ⟨g,0,none⟩) n cap) v4 { m with dk:=m.dk.set j x } qs:=by
 have hb:(Value.slice (some ⟨g,0,none⟩) n cap).ownBlock=some g:=rfl;have hne:∀ k,k ≠ g->(w.setCell ⟨g,j*3+i,none⟩ u).heap[k]?=w.heap[k]?:=fun k hk=>heap_setCell_other w _ k u hk;refine ⟨hf.hall.same2 fun k e=>hne k fun e'=> ?_,hf.rm,RecAt.same hf.gd fun k e=>hne k fun e'=> ?_,RecAt.same hf.sm fun k e=>hne k fun e'=> ?_,(RecAt.put1 ZF (by omega) hf.dk hn hj hi u x hx).1,RecAt.same hf.pc fun k e=>hne k fun e'=> ?_,hf.h1,hf.h2,hf.h3,hf.h4,hf.a12,hf.a13,hf.a14,hf.a23,hf.a24,hf.a34⟩
 ·subst e'
  rcases e with e | ⟨q,hq,e⟩
  ·exact hf.h3.1 _ hb e
  ·exact hf.h3.2 q hq _ hb e
 ·subst e';exact hf.a13 _ e hb
 ·subst e';exact hf.a23 _ e hb
 ·subst e';exact hf.a34 _ hb e
end
end Go.Proofs.YtgdpaigcmoifbaaGreatDoor
namespace Go.Proofs.YtgdpaigcmoifbaaGreatDoor
open Go.ChangeShapes Go.WideShapes Go.ChangeAt Go.RowKit Go.Sort
set_option linter.unusedVariables false
theorem FullSmy.putW {n₀ n cap g:Nat} {w:World} {v0 v1 v3 v4:Value} {m:Z3} {qs:List (Z4 × Value)} (hf:FullSmy n₀ w v0 v1 (.slice (some ⟨g,0,none⟩) n cap) v3 v4 m qs) (hn:n=m.sm.length) {j:Nat} (hj:j<m.sm.length) (x:ZZ) :
  FullSmy n₀ (Sm w g (j*11) (Zz x)) v0 v1 (.slice (some ⟨g,0,none⟩) n cap) v3 v4 { m with sm:=m.sm.set j x } qs:=by
 have hb:(Value.slice (some ⟨g,0,none⟩) n cap).ownBlock=some g:=rfl;obtain ⟨hput,hg⟩:=RecAt.put ZV (by omega) hf.sm hn hj x;have hne:∀ k,k<w.heap.size->k ≠ g->(Sm w g (j*11) (Zz x)).heap[k]?=w.heap[k]?:=fun k hk hkg=>hg.block k hk (fun e=>hkg (by cases e;rfl));refine ⟨hf.hall.same2 fun k e=>hne k (hf.hall.lt e).2 fun e'=> ?_,hf.rm,RecAt.same hf.gd fun k e=>hne k (RecAt.lt hf.gd e).2 fun e'=> ?_,hput,RecAt.same hf.dk fun k e=>hne k (RecAt.lt hf.dk e).2 fun e'=> ?_,RecAt.same hf.pc fun k e=>hne k (RecAt.lt hf.pc e).2 fun e'=> ?_,hf.h1,hf.h2,hf.h3,hf.h4,hf.a12,hf.a13,hf.a14,hf.a23,hf.a24,hf.a34⟩
 ·subst e'
  rcases e with e | ⟨q,hq,e⟩
  ·exact hf.h2.1 _ hb e
  ·exact hf.h2.2 q hq _ hb e
 ·subst e';exact hf.a12 _ e hb
 ·subst e';exact hf.a23 _ hb e
 ·subst e';exact hf.a24 _ hb e
theorem CM (w:World) (g o:Nat) (c0 c1 c2 c3 c4 c5 c6 c7 c8 c9 c10:Value):Sm w g o [c0,c1,c2,c3,c4,c5,c6,c7,c8,c9,c10]=((((((((((w.setCell ⟨g,o,none⟩ c0).setCell ⟨g,o+1,none⟩ c1).setCell ⟨g,o+2,none⟩ c2).setCell ⟨g,o+3,none⟩ c3).setCell ⟨g,o+4,none⟩ c4).setCell ⟨g,o+5,none⟩ c5).setCell ⟨g,o+6,none⟩ c6).setCell ⟨g,o+7,none⟩ c7).setCell ⟨g,o+8,none⟩ c8).setCell ⟨g,o+9,none⟩ c9).setCell ⟨g,o+10,none⟩ c10:=rfl
theorem CN (w:World) (g o:Nat) (t0 t1 t2 t3 t4 t5 t6 t7 t8 t9 t10:Int):((((((((((w.setCell ⟨g,o,none⟩ (.int .i64 t0)).setCell ⟨g,o+1,none⟩ (.int .i64 t1)).setCell ⟨g,o+2,none⟩ (.int .i64 t2)).setCell ⟨g,o+3,none⟩ (.int .i64 t3)).setCell ⟨g,o+4,none⟩ (.int .i64 t4)).setCell ⟨g,o+5,none⟩ (.int .i64 t5)).setCell ⟨g,o+6,none⟩ (.int .i64 t6)).setCell ⟨g,o+7,none⟩ (.int .i64 t7)).setCell ⟨g,o+8,none⟩ (.int .i64 t8)).setCell ⟨g,o+9,none⟩ (.int .i64 t9)).setCell ⟨g,o+10,none⟩ (.int .i64 t10)=Sm w g o (Zz (t0,t1,t2,t3,t4,t5,t6,t7,t8,t9,t10)):=rfl
def WX (v0 v1 v2 v3 v4:Value) (qs:List (Z4 × Value)) (k:Nat):Prop:=v0.ownBlock=some k\/(∃ q ∈ qs,q.2.ownBlock=some k)\/v1.ownBlock=some k\/v2.ownBlock=some k\/v3.ownBlock=some k\/v4.ownBlock=some k
section
variable {n₀ : Nat} {w w' : World} {v0 v1 v2 v3 v4 : Value} {m : Z3} {qs : List (Z4 × Value)}
theorem FullSmy.own (h:FullSmy n₀ w v0 v1 v2 v3 v4 m qs) {k:Nat} (e:WX v0 v1 v2 v3 v4 qs k):n₀<=k/\k<w.heap.size:=by
 rcases e with e | e | e | e | e | e
 ·exact h.hall.lt (.inl e)
 ·exact h.hall.lt (.inr e)
 ·exact RecAt.lt h.gd e
 ·exact RecAt.lt h.sm e
 ·exact RecAt.lt h.dk e
 ·exact RecAt.lt h.pc e
theorem FullSmy.keep (h:FullSmy n₀ w v0 v1 v2 v3 v4 m qs) (hs:∀ k,WX v0 v1 v2 v3 v4 qs k->w'.heap[k]?=w.heap[k]?):FullSmy n₀ w' v0 v1 v2 v3 v4 m qs:=
 ⟨⟨YJ h.hall.row (fun k e=>hs k (.inl e)),fun q hq=>YJ (h.hall.pc q hq) (fun k e=>hs k (.inr (.inl ⟨q,hq,e⟩))),h.hall.off,h.hall.apart⟩,h.rm,RecAt.same h.gd fun k e=>hs k (.inr (.inr (.inl e))),RecAt.same h.sm fun k e=>hs k (.inr (.inr (.inr (.inl e)))),RecAt.same h.dk fun k e=>hs k (.inr (.inr (.inr (.inr (.inl e))))),RecAt.same h.pc fun k e=>hs k (.inr (.inr (.inr (.inr (.inr e))))),h.h1,h.h2,h.h3,h.h4,h.a12,h.a13,h.a14,h.a23,h.a24,h.a34⟩
end
end Go.Proofs.YtgdpaigcmoifbaaGreatDoor
namespace Go.Proofs.YtgdpaigcmoifbaaGreatDoor
open Go.ChangeShapes Go.WideShapes Go.ChangeAt Go.RowKit Go.Sort Go.Proofs.Tryz
set_option linter.unusedVariables false
theorem OW:∀ (qs:List (Z4 × Value)) (k:Int),(YH k qs).map (·.2)=qs.map (·.2)
 | [],_=>rfl
 | q::qs,k=>by
  have:=OW qs (k+1+2*(q.1.2.length:Int));simp only [YH,List.map_cons];rw [this]
theorem FC {qs:List (Z4 × Value)} {k:Int} {q:Z4 × Value} (h:q ∈ YH k qs):∃ q' ∈ qs,q'.2=q.2:=by
 have:q.2 ∈ (YH k qs).map (·.2):=List.mem_map.2 ⟨q,h,rfl⟩;rw [OW] at this;exact List.mem_map.1 this
theorem OffHall.marked {u v:Value} {qs:List (Z4 × Value)} (h:OffHall u v qs) (k:Int):OffHall u v (YH k qs):=
 ⟨h.1,fun q hq=>by obtain ⟨q',h1,h2⟩:=FC hq;rw [<-h2];exact h.2 q' h1⟩
structure SmyOnly (v0 v1 v2 v3 v4:Value) (qs:List (Z4 × Value)) (w w':World):Prop where
 os:w'.os=w.os
 tape:w'.tape=w.tape
 output:w'.output=w.output
 size:w.heap.size<=w'.heap.size
 block:∀ k,k<w.heap.size->v0.ownBlock ≠ some k->(∀ q ∈ qs,q.2.ownBlock ≠ some k)->v1.ownBlock ≠ some k->v2.ownBlock ≠ some k->v3.ownBlock ≠ some k->v4.ownBlock ≠ some k->w'.heap[k]?=w.heap[k]?
def U6 (k:Int) (m:Z3) (qs:List (Z4 × Value)):Z3:=
 { rm:=(YH k qs).map (·.1),gd:=WL VC 3 (Yh k qs) m.gd.length,sm:=WL VD 11 (Yh k qs+3*(m.gd.length:Int)) m.sm.length,dk:=WL Vn 3 (Yh k qs+3*(m.gd.length:Int)+11*(m.sm.length:Int)) m.dk.length,pc:=UA (Yh k qs+3*(m.gd.length:Int)+11*(m.sm.length:Int)+3*(m.dk.length:Int)) m.pc.length,now:=m.now }
def RP (k:Int) (m:Z3) (qs:List (Z4 × Value)):Int:=Yh k qs+3*(m.gd.length:Int)+11*(m.sm.length:Int)+3*(m.dk.length:Int)+(m.pc.length:Int)
theorem Pd {m:Z3} {qs:List (Z4 × Value)} (hs:Q8 m.rm) (hm:qs.map (·.1)=m.rm):qs.length<=1048576/\ ∀ q ∈ qs,q.1.2.length<=1048576:=by
 have hl:qs.length=m.rm.length:=by rw [<-hm,List.length_map]
 refine ⟨by have:=hs.1;omega,fun q hq=> ?_⟩;have hq':q.1 ∈ m.rm:=by rw [<-hm];exact List.mem_map.2 ⟨q,hq,rfl⟩
 obtain ⟨j,hj,e⟩:=List.getElem_of_mem hq';have:=hs.2 j hj;have hat:ZU m.rm j=m.rm[j]:=by unfold ZU;simp [List.getD,hj]
 rw [hat,e] at this;exact this
theorem OI {qs:List (Z4 × Value)} (hl:qs.length<=1048576) (hp:∀ q ∈ qs,q.1.2.length<=1048576) (k:Int):k<=Yh k qs/\Yh k qs<=k+2199024304128:=by
 have:=Rn hp k qs.length (ZY _);rw [List.take_length] at this;omega
theorem OwnHall.keep {n₀:Nat} {w w':World} {u v:Value} {qs:List (Z4 × Value)} (h:OwnHall n₀ w v qs) (hg:w.grownBy w' u.ownBlock) (ho:OffHall u v qs):OwnHall n₀ w' v qs:=
 ⟨YJ h.row fun k e=>hg.block k (h.lt (.inl e)).2 (fun e'=>ho.1 k e'.symm e),fun q hq=>YJ (h.pc q hq) fun k e=>hg.block k (h.lt (.inr ⟨q,hq,e⟩)).2 (fun e'=>ho.2 q hq k e'.symm e),h.off,h.apart⟩
theorem YI {n₀:Nat} {w:World} {v0 v1 v2 v3 v4:Value} {m:Z3} {qs:List (Z4 × Value)} (k:Int) (h:FullSmy n₀ w v0 v1 v2 v3 v4 m qs) (hs:Yy m) (hn:n₀<=w.heap.size) (hk0:0<=k) (hk1:k<=1000000000) :
  Calls prog 12 #[.agg #[v0,v1,v2,v3,v4,.int .i64 m.now],.int .i64 k] w fun e w'=>e= .returned (.int .i64 (RP k m qs))/\FullSmy n₀ w' v0 v1 v2 v3 v4 (U6 k m qs) (YH k qs)/\SmyOnly v0 v1 v2 v3 v4 qs w w':=by
 obtain ⟨sq,sp⟩:=Pd hs.rm h.rm;obtain ⟨e0,e1⟩:=OI sq sp k;have Sp:=Z9 sp;obtain ⟨_,s1,s2,s3,s4⟩:=hs;have hql:qs.length=m.rm.length:=by rw [<-h.rm,List.length_map]
 have Hf:=Z9 h;have Ha:=Z9 (h.below ((Z0 _ _).alloc (ZY _) (.cells #[v0,v1,v2,v3,v4,.int .i64 m.now] 39)));obtain ⟨a0,p0,rfl⟩:=h.hall.shape;obtain ⟨a1,p1,rfl⟩:=RecAt.shape h.gd;obtain ⟨a2,p2,rfl⟩:=RecAt.shape h.sm;obtain ⟨a3,p3,rfl⟩:=RecAt.shape h.dk;obtain ⟨a4,p4,rfl⟩:=RecAt.shape h.pc;rw [hql] at *;clear h sp hql;unfold RP;generalize hke:Yh k qs=ke at *;have Hke:=Z9 hke;clear hke;go_enter func12,ntmps12;go_wp2_with fail;have kb:Hid (Blk (w.alloc (.cells (S6 a0 p0 a1 p1 a2 p2 a3 p3 a4 p4 m) 39)) w.heap.size 39 (S6 a0 p0 a1 p1 a2 p2 a3 p3 a4 p4 m)):=Z9 (Blk.new w _ _);have OO:Hid (SmyOnly (.slice a0 m.rm.length p0) (.slice a1 m.gd.length p1) (.slice a2 m.sm.length p2) (.slice a3 m.dk.length p3) (.slice a4 m.pc.length p4) qs w (w.alloc (.cells (S6 a0 p0 a1 p1 a2 p2 a3 p3 a4 p4 m) 39))):=Z9 ⟨rfl,rfl,rfl,by simp,fun k hk _ _ _ _ _ _=>Below.heap_alloc w _ k hk⟩;have Ln:Hid (∀ b,((Value.slice a0 m.rm.length p0).ownBlock=some b\/ ∃ q ∈ qs,q.2.ownBlock=some b)->b<w.heap.size):=Z9 (fun b e=>((uh Hf).hall.lt e).2);have L1:Hid (∀ b,(Value.slice a1 m.gd.length p1).ownBlock=some b->b<w.heap.size):=Z9 (fun b e=>(RecAt.lt (uh Hf).gd e).2);have L2:Hid (∀ b,(Value.slice a2 m.sm.length p2).ownBlock=some b->b<w.heap.size):=Z9 (fun b e=>(RecAt.lt (uh Hf).sm e).2);have L3:Hid (∀ b,(Value.slice a3 m.dk.length p3).ownBlock=some b->b<w.heap.size):=Z9 (fun b e=>(RecAt.lt (uh Hf).dk e).2);have L4:Hid (∀ b,(Value.slice a4 m.pc.length p4).ownBlock=some b->b<w.heap.size):=Z9 (fun b e=>(RecAt.lt (uh Hf).pc e).2);have n0:=Z9 (uh Ha).hall;have n1:=Z9 (uh Ha).gd;have n2:=Z9 (uh Ha).sm;have n3:=Z9 (uh Ha).dk;have n4:=Z9 (uh Ha).pc;have hsz:w.heap.size<(w.alloc (.cells (S6 a0 p0 a1 p1 a2 p2 a3 p3 a4 p4 m) 39)).heap.size:=(uh kb).lt;clear Ha;generalize w.alloc (.cells (S6 a0 p0 a1 p1 a2 p2 a3 p3 a4 p4 m) 39)=W at *;refine (Md k (uh n0) (by omega) hk0 hk1 (by omega) (uh Sp)).mono ?_;rintro e w1 ⟨rfl,ho,hb⟩;rw [uh Hke];replace n0:=Z9 ho;replace n1:=Z9 (RecAt.same (uh n1) fun b e=>hb.block b (RecAt.lt (uh n1) e).2 ((uh Hf).h1.1 b e) (fun q hq=>(uh Hf).h1.2 q hq b e));replace n2:=Z9 (RecAt.same (uh n2) fun b e=>hb.block b (RecAt.lt (uh n2) e).2 ((uh Hf).h2.1 b e) (fun q hq=>(uh Hf).h2.2 q hq b e));replace n3:=Z9 (RecAt.same (uh n3) fun b e=>hb.block b (RecAt.lt (uh n3) e).2 ((uh Hf).h3.1 b e) (fun q hq=>(uh Hf).h3.2 q hq b e));replace n4:=Z9 (RecAt.same (uh n4) fun b e=>hb.block b (RecAt.lt (uh n4) e).2 ((uh Hf).h4.1 b e) (fun q hq=>(uh Hf).h4.2 q hq b e));replace kb:=Z9 ((uh kb).same (hb.block w.heap.size hsz (fun e=>by have:=uh Ln _ (.inl e);omega) (fun q hq e=>by have:=uh Ln _ (.inr ⟨q,hq,e⟩);omega)));replace OO:=Z9 (⟨hb.os.trans (uh OO).os,hb.tape.trans (uh OO).tape,hb.output.trans (uh OO).output,YV (uh OO).size hb.size,fun k hk h0 hq h1 h2 h3 h4=>(hb.block k (ZD hk (uh OO).size) h0 hq).trans ((uh OO).block k hk h0 hq h1 h2 h3 h4)⟩:SmyOnly _ _ _ _ _ qs w w1);replace hsz:w.heap.size<w1.heap.size:=ZD hsz hb.size;clear ho hb;have c1:=(uh kb).cell (i:=1) (v:= .slice a1 m.gd.length p1) rfl
 go_wp2_with fail;clear c1;refine (OU (ke) (uh n1) (by omega) (by omega) (by omega)).mono ?_;rintro e w2 ⟨rfl,ho,hg⟩;have hlt1:=fun b e=>uh L1 b e;replace n0:=Z9 (OwnHall.keep (uh n0) hg ((uh Hf).h1.marked k));replace n2:=Z9 (RecAt.grown (uh n2) hg (fun b e=>fun e2=>((uh Hf).a12).symm b e e2));replace n3:=Z9 (RecAt.grown (uh n3) hg (fun b e=>fun e2=>((uh Hf).a13).symm b e e2));replace n4:=Z9 (RecAt.grown (uh n4) hg (fun b e=>fun e2=>((uh Hf).a14).symm b e e2));replace n1:=Z9 ho;replace kb:=Z9 ((uh kb).same (hg.block w.heap.size hsz (fun e=>by have:=hlt1 _ e.symm;omega)));replace OO:=Z9 (⟨hg.os.trans (uh OO).os,hg.tape.trans (uh OO).tape,hg.output.trans (uh OO).output,YV (uh OO).size hg.size,fun k hk h0 hq h1 h2 h3 h4=>(hg.block k (ZD hk (uh OO).size) (fun e=>h1 e.symm)).trans ((uh OO).block k hk h0 hq h1 h2 h3 h4)⟩:SmyOnly _ _ _ _ _ qs w w2);replace hsz:w.heap.size<w2.heap.size:=ZD hsz hg.size;clear ho hg hlt1;have c2:=(uh kb).cell (i:=2) (v:= .slice a2 m.sm.length p2) rfl;go_wp2_with fail;clear c2;refine (OX (ke+3*(m.gd.length:Int)) (uh n2) (by omega) (by omega) (by omega)).mono ?_;rintro e w3 ⟨rfl,ho,hg⟩;have hlt2:=fun b e=>uh L2 b e;replace n0:=Z9 (OwnHall.keep (uh n0) hg ((uh Hf).h2.marked k));replace n1:=Z9 (RecAt.grown (uh n1) hg (fun b e=>fun e2=>(uh Hf).a12 b e e2));replace n3:=Z9 (RecAt.grown (uh n3) hg (fun b e=>fun e2=>((uh Hf).a23).symm b e e2));replace n4:=Z9 (RecAt.grown (uh n4) hg (fun b e=>fun e2=>((uh Hf).a24).symm b e e2));replace n2:=Z9 ho;replace kb:=Z9 ((uh kb).same (hg.block w.heap.size hsz (fun e=>by have:=hlt2 _ e.symm;omega)));replace OO:=Z9 (⟨hg.os.trans (uh OO).os,hg.tape.trans (uh OO).tape,hg.output.trans (uh OO).output,YV (uh OO).size hg.size,fun k hk h0 hq h1 h2 h3 h4=>(hg.block k (ZD hk (uh OO).size) (fun e=>h2 e.symm)).trans ((uh OO).block k hk h0 hq h1 h2 h3 h4)⟩:SmyOnly _ _ _ _ _ qs w w3);replace hsz:w.heap.size<w3.heap.size:=ZD hsz hg.size;clear ho hg hlt2;have c3:=(uh kb).cell (i:=3) (v:= .slice a3 m.dk.length p3) rfl;go_wp2_with fail;clear c3;refine (NM (ke+3*(m.gd.length:Int)+11*(m.sm.length:Int)) (uh n3) (by omega) (by omega) (by omega)).mono ?_;rintro e w4 ⟨rfl,ho,hg⟩;have hlt3:=fun b e=>uh L3 b e;replace n0:=Z9 (OwnHall.keep (uh n0) hg ((uh Hf).h3.marked k));replace n1:=Z9 (RecAt.grown (uh n1) hg (fun b e=>fun e2=>(uh Hf).a13 b e e2));replace n2:=Z9 (RecAt.grown (uh n2) hg (fun b e=>fun e2=>(uh Hf).a23 b e e2));replace n4:=Z9 (RecAt.grown (uh n4) hg (fun b e=>fun e2=>((uh Hf).a34).symm b e e2));replace n3:=Z9 ho;replace kb:=Z9 ((uh kb).same (hg.block w.heap.size hsz (fun e=>by have:=hlt3 _ e.symm;omega)));replace OO:=Z9 (⟨hg.os.trans (uh OO).os,hg.tape.trans (uh OO).tape,hg.output.trans (uh OO).output,YV (uh OO).size hg.size,fun k hk h0 hq h1 h2 h3 h4=>(hg.block k (ZD hk (uh OO).size) (fun e=>h3 e.symm)).trans ((uh OO).block k hk h0 hq h1 h2 h3 h4)⟩:SmyOnly _ _ _ _ _ qs w w4);replace hsz:w.heap.size<w4.heap.size:=ZD hsz hg.size;clear ho hg hlt3;have c4:=(uh kb).cell (i:=4) (v:= .slice a4 m.pc.length p4) rfl
 go_wp2_with fail;clear c4;refine (Mf (ke+3*(m.gd.length:Int)+11*(m.sm.length:Int)+3*(m.dk.length:Int)) (uh n4) (by omega) (by omega) (by omega)).mono ?_;rintro e w5 ⟨rfl,ho,hg⟩;have hlt4:=fun b e=>uh L4 b e;replace n0:=Z9 (OwnHall.keep (uh n0) hg ((uh Hf).h4.marked k));replace n1:=Z9 (RecAt.grown (uh n1) hg (fun b e=>fun e2=>(uh Hf).a14 b e e2));replace n2:=Z9 (RecAt.grown (uh n2) hg (fun b e=>fun e2=>(uh Hf).a24 b e e2));replace n3:=Z9 (RecAt.grown (uh n3) hg (fun b e=>fun e2=>(uh Hf).a34 b e e2));replace n4:=Z9 ho;replace kb:=Z9 ((uh kb).same (hg.block w.heap.size hsz (fun e=>by have:=hlt4 _ e.symm;omega)));replace OO:=Z9 (⟨hg.os.trans (uh OO).os,hg.tape.trans (uh OO).tape,hg.output.trans (uh OO).output,YV (uh OO).size hg.size,fun k hk h0 hq h1 h2 h3 h4=>(hg.block k (ZD hk (uh OO).size) (fun e=>h4 e.symm)).trans ((uh OO).block k hk h0 hq h1 h2 h3 h4)⟩:SmyOnly _ _ _ _ _ qs w w5);replace hsz:w.heap.size<w5.heap.size:=ZD hsz hg.size;clear ho hg hlt4;go_wp2_with fail;go_ret;refine ⟨rfl,⟨uh n0,rfl,?_,?_,?_,?_,(uh Hf).h1.marked k,(uh Hf).h2.marked k,(uh Hf).h3.marked k,(uh Hf).h4.marked k,(uh Hf).a12,(uh Hf).a13,(uh Hf).a14,(uh Hf).a23,(uh Hf).a24,(uh Hf).a34⟩,uh OO⟩
 ·show RecAt _ _ _ _ _ _ (U6 k m qs).gd
  unfold U6;rw [uh Hke];exact uh n1
 ·show RecAt _ _ _ _ _ _ (U6 k m qs).sm
  unfold U6;rw [uh Hke];exact uh n2
 ·show RecAt _ _ _ _ _ _ (U6 k m qs).dk
  unfold U6;rw [uh Hke];exact uh n3
 ·show RecAt _ _ _ _ _ _ (U6 k m qs).pc
  unfold U6;rw [uh Hke];exact uh n4
theorem YG {n₀:Nat} {w:World} {v0 v1 v2 v3 v4:Value} {m:Z3} {qs:List (Z4 × Value)} (k:Int) (h:FullSmy n₀ w v0 v1 v2 v3 v4 (U6 k m qs) (YH k qs)) (hr:Q8 m.rm) (hm:qs.map (·.1)=m.rm) (hs:Yy m) (hk0:0<=k) (hk1:k<=1000000000) :
  cB 13 #[.agg #[v0,v1,v2,v3,v4,.int .i64 m.now],.int .i64 k] w (.int .i64 (RP k m qs)):=by
 obtain ⟨sq,sp⟩:=Pd hr hm;obtain ⟨e0,e1⟩:=OI sq sp k;have Sp:=Z9 sp;obtain ⟨_,s1,s2,s3,s4⟩:=hs;have Hf:=Z9 h;obtain ⟨a0,p0,rfl⟩:=h.hall.shape;obtain ⟨a1,p1,rfl⟩:=RecAt.shape h.gd;obtain ⟨a2,p2,rfl⟩:=RecAt.shape h.sm;obtain ⟨a3,p3,rfl⟩:=RecAt.shape h.dk;obtain ⟨a4,p4,rfl⟩:=RecAt.shape h.pc;have l0:(YH k qs).length=m.rm.length:=by rw [Xm,<-hm,List.length_map]
 have l1:(U6 k m qs).gd.length=m.gd.length:=Yk _ _ _ _;have l2:(U6 k m qs).sm.length=m.sm.length:=Yk _ _ _ _;have l3:(U6 k m qs).dk.length=m.dk.length:=Yk _ _ _ _;have l4:(U6 k m qs).pc.length=m.pc.length:=Vu _ _;rw [l0,l1,l2,l3,l4] at Hf ⊢;clear h sp l0 l1 l2 l3 l4;unfold RP;have G1:Hid (∀ w',Below w.heap.size w w'->Y9 w' (.slice a1 m.gd.length p1) (WL VC 3 (Yh k qs) m.gd.length)):=Z9 fun w' hb=>GuildsAt.list (RecAt.later (uh Hf).gd hb);have G2:Hid (∀ w',Below w.heap.size w w'->YZ w' (.slice a2 m.sm.length p2) (WL VD 11 (Yh k qs+3*(m.gd.length:Int)) m.sm.length)):=Z9 fun w' hb=>SmithsAt.list (RecAt.later (uh Hf).sm hb);have G3:Hid (∀ w',Below w.heap.size w w'->XE w' (.slice a3 m.dk.length p3) (WL Vn 3 (Yh k qs+3*(m.gd.length:Int)+11*(m.sm.length:Int)) m.dk.length)):=Z9 fun w' hb=>DesksAt.list (RecAt.later (uh Hf).dk hb);have G4:Hid (∀ w',Below w.heap.size w w'->NumsAt n₀ w' (.slice a4 m.pc.length p4) (UA (Yh k qs+3*(m.gd.length:Int)+11*(m.sm.length:Int)+3*(m.dk.length:Int)) m.pc.length)):=Z9 fun w' hb=>RecAt.later (uh Hf).pc hb;have G0:Hid (∀ w',Below w.heap.size w w'->IsRooms w' (.slice a0 m.rm.length p0) ((YH k qs).map (·.1))):=Z9 fun w' hb=>((uh Hf).hall.later hb).rm;have HH:=Z9 (fun (w':World) (h9:IsRooms w' (.slice a0 m.rm.length p0) ((YH k qs).map (·.1)))=>LR k h9 hk0 hk1 sq (uh Sp));generalize Yh k qs=ke at *;go_enter func13,ntmps13;go_wp2_with fail;obtain ⟨W,hW,BB,kb⟩:=Kj w 39 (S6 a0 p0 a1 p1 a2 p2 a3 p3 a4 p4 m);rw [hW]
 (try rw [hW] at Hv);clear hW
 refine ck (uh HH _ (uh G0 _ (uh BB))) fun w1 hb=> ?_;replace kb:=bl kb hb;replace BB:=bt BB hb;clear hb;have c1:=(uh kb).cell (i:=1) (v:= .slice a1 m.gd.length p1) rfl;go_wp2_with fail;clear c1;refine (Ou (ke) _ (uh G1 _ (uh BB)) (by omega) (by omega) (by omega)).mono ?_;rintro e w' ⟨rfl,h9⟩;subst w';have c2:=(uh kb).cell (i:=2) (v:= .slice a2 m.sm.length p2) rfl;go_wp2_with fail;clear c2;refine (Ov (ke+3*(m.gd.length:Int)) _ (uh G2 _ (uh BB)) (by omega) (by omega) (by omega)).mono ?_;rintro e w' ⟨rfl,h9⟩;subst w';have c3:=(uh kb).cell (i:=3) (v:= .slice a3 m.dk.length p3) rfl;go_wp2_with fail;clear c3;refine (ND (ke+3*(m.gd.length:Int)+11*(m.sm.length:Int)) _ (uh G3 _ (uh BB)) (by omega) (by omega) (by omega)).mono ?_;rintro e w' ⟨rfl,h9⟩;subst w';have c4:=(uh kb).cell (i:=4) (v:= .slice a4 m.pc.length p4) rfl;go_wp2_with fail;clear c4;refine (LV (ke+3*(m.gd.length:Int)+11*(m.sm.length:Int)+3*(m.dk.length:Int)) _ (uh G4 _ (uh BB)) (by omega) (by omega) (by omega)).mono ?_;rintro e w' ⟨rfl,h9⟩;subst w';go_wp2_with fail;go_ret;exact ⟨rfl,uh BB⟩
open Go.ChangeShapes Go.WideShapes Go.ChangeAt Go.RowKit Go.Sort
section
variable {w w' : World}
theorem SmyOnly.at {u0 u1 u2 u3 u4:Value} {rs:List (Z4 × Value)} (h:SmyOnly u0 u1 u2 u3 u4 rs w w') {k:Nat} (hk:k<w.heap.size) (hn:¬ WX u0 u1 u2 u3 u4 rs k):w'.heap[k]?=w.heap[k]?:=
 h.block k hk (fun e=>hn (.inl e)) (fun q hq e=>hn (.inr (.inl ⟨q,hq,e⟩))) (fun e=>hn (.inr (.inr (.inl e)))) (fun e=>hn (.inr (.inr (.inr (.inl e))))) (fun e=>hn (.inr (.inr (.inr (.inr (.inl e)))))) (fun e=>hn (.inr (.inr (.inr (.inr (.inr e))))))
theorem SmyOnly.below {u0 u1 u2 u3 u4:Value} {rs:List (Z4 × Value)} {B:Nat} (h:SmyOnly u0 u1 u2 u3 u4 rs w w') (hB:B<=w.heap.size) (ho:∀ k,WX u0 u1 u2 u3 u4 rs k->B<=k):Below B w w':=
 ⟨h.os,h.tape,h.output,h.size,fun k hk=>h.at (by omega) (fun e=>by have:=ho k e;omega)⟩
end
theorem U1 {m:Z3} {qs:List (Z4 × Value)} (hs:Yy m) (hm:qs.map (·.1)=m.rm):1<=RP 1 m qs/\RP 1 m qs<=10000000000000:=by
 obtain ⟨sq,sp⟩:=Pd hs.rm hm;obtain ⟨e0,e1⟩:=OI sq sp 1;obtain ⟨_,s1,s2,s3,s4⟩:=hs;unfold RP;omega
end Go.Proofs.YtgdpaigcmoifbaaGreatDoor
