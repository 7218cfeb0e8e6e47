/- Part 18 of what the proof rests on. No condition but those that a theorem names. -/
import Derived.Test.YtlcpgkakdieeaaaGreatXk12
import Derived.Test.YtlcpgkakdieeaaaGreatXk13
import Derived.Test.YtlcpgkakdieeaaaGreatXk15
import Derived.Deep.DeepCutAuto
set_option maxHeartbeats 8000000
set_option maxRecDepth 100000
namespace Go.Proofs.YtlcpgkakdieeaaaGreat
open Go.ChangeShapes Go.WideShapes Go.ChangeAt Go.RowKit Go.Sort
set_option linter.unusedVariables false
def M7 (u v:Value):Prop:= ∀ b,u.ownBlock=some b->v.ownBlock ≠ some b
def OV (u v:Value) (qs:List (ZW × Value)):Prop:=M7 u v/\ ∀ q ∈ qs,M7 u q.2
structure FullSmy (n₀:Nat) (w:World) (v0 v1 v2 v3 v4:Value) (m:Z6) (qs:List (ZW × Value)):Prop where
 hall:OwnHall n₀ w v0 qs
 rm:qs.map (·.1)=m.rm
 gd:GuildsAt n₀ w v1 m.gd
 sm:SmithsAt n₀ w v2 m.sm
 dk:DesksAt n₀ w v3 m.dk
 pc:NumsAt n₀ w v4 m.pc
 h1:OV v1 v0 qs
 h2:OV v2 v0 qs
 h3:OV v3 v0 qs
 h4:OV v4 v0 qs
 a12:M7 v1 v2
 a13:M7 v1 v3
 a14:M7 v1 v4
 a23:M7 v2 v3
 a24:M7 v2 v4
 a34:M7 v3 v4
theorem FullSmy.smy {n₀:Nat} {w:World} {v0 v1 v2 v3 v4:Value} {m:Z6} {qs:List (ZW × Value)} (h:FullSmy n₀ w v0 v1 v2 v3 v4 m qs):Smy w v0 v1 v2 v3 v4 m:=
 ⟨by rw [<-h.rm];exact h.hall.rm,h.gd.list,h.sm.list,h.dk.list,h.pc.list⟩
theorem OwnHall.set_old {n₀:Nat} {w:World} {v:Value} {qs:List (ZW × Value)} (h:OwnHall n₀ w v qs) (g o:Nat) (u:Value) (hg:g<n₀):OwnHall n₀ (w.setCell ⟨g,o,none⟩ u) v qs:=
 h.same fun k h0 hk=>heap_setCell_other w _ k u (by show k ≠ g;omega)
theorem FullSmy.below {n₀:Nat} {w w':World} {v0 v1 v2 v3 v4:Value} {m:Z6} {qs:List (ZW × Value)} (h:FullSmy n₀ w v0 v1 v2 v3 v4 m qs) (hb:Below w.heap.size w w'):FullSmy n₀ w' v0 v1 v2 v3 v4 m qs:=
 ⟨h.hall.later hb,h.rm,RecAt.later h.gd hb,RecAt.later h.sm hb,RecAt.later h.dk hb,RecAt.later h.pc hb,h.h1,h.h2,h.h3,h.h4,h.a12,h.a13,h.a14,h.a23,h.a24,h.a34⟩
theorem FullSmy.set {n₀:Nat} {w:World} {v0 v1 v2 v3 v4:Value} {m:Z6} {qs:List (ZW × Value)} (h:FullSmy n₀ w v0 v1 v2 v3 v4 m qs) (g o:Nat) (u:Value) (hg:g<n₀):FullSmy n₀ (w.setCell ⟨g,o,none⟩ u) v0 v1 v2 v3 v4 m qs:=
 ⟨h.hall.set_old g o u hg,h.rm,RecAt.set_old h.gd g o u hg,RecAt.set_old h.sm g o u hg,RecAt.set_old h.dk g o u hg,RecAt.set_old h.pc g o u hg,h.h1,h.h2,h.h3,h.h4,h.a12,h.a13,h.a14,h.a23,h.a24,h.a34⟩
theorem FullSmy.mono {n₀ n₁:Nat} {w:World} {v0 v1 v2 v3 v4:Value} {m:Z6} {qs:List (ZW × Value)} (h:FullSmy n₀ w v0 v1 v2 v3 v4 m qs) (hn:n₁<=n₀):FullSmy n₁ w v0 v1 v2 v3 v4 m qs:=
 ⟨h.hall.mono hn,h.rm,RecAt.mono h.gd hn,RecAt.mono h.sm hn,RecAt.mono h.dk hn,RecAt.mono h.pc hn,h.h1,h.h2,h.h3,h.h4,h.a12,h.a13,h.a14,h.a23,h.a24,h.a34⟩
open Go.ChangeShapes Go.WideShapes Go.ChangeAt Go.RowKit Go.Sort Go.Proofs.Tryz
theorem tyG:Po 70 3 (.agg #[.int .i64 0,.int .i64 0,.int .i64 0]) WU:=⟨by kernel_rfl,rfl,XP,by omega,by omega,fun x u hu=>by
 simp only [WU,List.mem_cons,List.not_mem_nil,or_false] at hu
 rcases hu with rfl | rfl | rfl<;>rfl⟩
theorem tyS:Po 42 11 (.agg E11) ZS:=⟨by kernel_rfl,rfl,ZT,by omega,by omega,fun x u hu=>by
 simp only [ZS,List.mem_cons,List.not_mem_nil,or_false] at hu
 rcases hu with rfl | rfl | rfl | rfl | rfl | rfl | rfl | rfl | rfl | rfl | rfl<;>rfl⟩
theorem tyD:Po 54 3 (.agg #[.bool false,.int .i64 0,.int .i64 0]) Xb:=⟨by kernel_rfl,rfl,Zy,by omega,by omega,fun x u hu=>by
 simp only [Xb,List.mem_cons,List.not_mem_nil,or_false] at hu
 rcases hu with rfl | rfl | rfl<;>rfl⟩
theorem tyN:Po 2 1 (.int .i64 0) Ta:=⟨by kernel_rfl,rfl,YP,by omega,by omega,fun x u hu=>by
 simp only [Ta,List.mem_cons,List.not_mem_nil,or_false] at hu
 rcases hu with rfl<;>rfl⟩
structure Few (m:Z6):Prop where
 rm:m.rm.length<=1000
 pc:∀ r ∈ m.rm,r.2.length<=1000
 gd:m.gd.length<=1000
 sm:m.sm.length<=800
 dk:m.dk.length<=1000
 nums:m.pc.length<=1000
theorem Fh {n₀:Nat} {w:World} {v0 v1 v2 v3 v4:Value} {m:Z6} {qs:List (ZW × Value)} (s0 s1 s2 s3:Nat) (hh:OwnHall n₀ w v0 qs) (hr:qs.map (·.1)=m.rm) (hg:GuildsAt n₀ w v1 m.gd) (hs:SmithsAt n₀ w v2 m.sm) (hd:DesksAt n₀ w v3 m.dk) (hp:NumsAt n₀ w v4 m.pc)
  (l0:∀ b,(v0.ownBlock=some b\/ ∃ q ∈ qs,q.2.ownBlock=some b)->b<s0) (l1:∀ b,v1.ownBlock=some b->s0<=b/\b<s1) (l2:∀ b,v2.ownBlock=some b->s1<=b/\b<s2) (l3:∀ b,v3.ownBlock=some b->s2<=b/\b<s3) (l4:∀ b,v4.ownBlock=some b->s3<=b) (h1:s0<=s1) (h2:s1<=s2) (h3:s2<=s3) :
  FullSmy n₀ w v0 v1 v2 v3 v4 m qs:=by
 refine ⟨hh,hr,hg,hs,hd,hp,⟨?_,?_⟩,⟨?_,?_⟩,⟨?_,?_⟩,⟨?_,?_⟩,?_,?_,?_,?_,?_,?_⟩
 ·intro b e e';have:=(l1 b e).1;have:=l0 b (.inl e');omega
 ·intro q hq b e e';have:=(l1 b e).1;have:=l0 b (.inr ⟨q,hq,e'⟩);omega
 ·intro b e e';have:=(l2 b e).1;have:=l0 b (.inl e');omega
 ·intro q hq b e e';have:=(l2 b e).1;have:=l0 b (.inr ⟨q,hq,e'⟩);omega
 ·intro b e e';have:=(l3 b e).1;have:=l0 b (.inl e');omega
 ·intro q hq b e e';have:=(l3 b e).1;have:=l0 b (.inr ⟨q,hq,e'⟩);omega
 ·intro b e e';have:=l4 b e;have:=l0 b (.inl e');omega
 ·intro q hq b e e';have:=l4 b e;have:=l0 b (.inr ⟨q,hq,e'⟩);omega
 ·intro b e e';have:=l1 b e;have:=l2 b e';omega
 ·intro b e e';have:=l1 b e;have:=l3 b e';omega
 ·intro b e e';have:=l1 b e;have:=l4 b e';omega
 ·intro b e e';have:=l2 b e;have:=l3 b e';omega
 ·intro b e e';have:=l2 b e;have:=l4 b e';omega
 ·intro b e e';have:=l3 b e;have:=l4 b e';omega
theorem Gs {w:World} {v:Value} {ps:List Zv} (h:X8 w v ps) (hl:ps.length<=1000) :
  Calls prog 82 #[v] w fun e w'=> ∃ v',e= .returned v'/\GuildsAt w.heap.size w' v' ps/\Below w.heap.size w w':=by
 have Hv:=Z9 h;obtain ⟨a,cap,rfl,hc,hm,hr⟩:=h;clear hr;go_enter func82,ntmps82;go_wp2_with (at_builtin;refine ZH tyG rfl (.tmp 3) (.tmp 4) 27 underlying27 rfl w.heap.size _ _ [] ps rfl rfl (YW rfl (Z0 _)) ((uh Hv).below ((ba _ _))) (by simp;omega) (by simp) ?_;intro v' w1 hown hgrow hat)
 go_ret;refine ⟨v',rfl,by simpa using hown,((ba _ _)).trans ((ZZ _ _).grown hgrow (by simp) (fun k e=> ?_))⟩;cases e;exact Z0 _
theorem Xu {w:World} {v0 v1 v2 v3 v4:Value} {m:Z6} (h:Smy w v0 v1 v2 v3 v4 m) (hF:Few m) :
  Calls prog 41 #[.agg #[v0,v1,v2,v3,v4,.int .i64 m.now]] w fun e w'=> ∃ u0 u1 u2 u3 u4 qs,e= .returned (.agg #[u0,u1,u2,u3,u4,.int .i64 m.now])/\FullSmy w.heap.size w' u0 u1 u2 u3 u4 m qs/\Below w.heap.size w w':=by
 have Hv:=Z9 h;have HF:=Z9 hF;obtain ⟨a0,p0,a1,p1,a2,p2,a3,p3,a4,p4,rfl,rfl,rfl,rfl,rfl,_,_,_,_,_,_,_,_,_,_⟩:=h.five;clear h hF;go_enter func41,ntmps41;go_wp2_with fail;obtain ⟨W,hW,kb,kr,BB⟩:=TZ w 32 (S6 a0 p0 a1 p1 a2 p2 a3 p3 a4 p4 m) 32 E6;rw [hW];clear hW;have hW:w.heap.size+2<=W.heap.size:=by have:=(uh kr).lt;omega
 refine (NV ((uh Hv).below (uh BB)).rm (uh HF).rm (uh HF).pc).mono ?_;rintro e w1 ⟨u0,qs,rfl,hmap,hp,hb⟩;have Hmap:=Z9 hmap;clear hmap;have n0:Hid (OwnHall (w.heap.size+2) w1 u0 qs):=Z9 (hp.mono hW);replace kb:=bl kb hb;replace kr:=bl kr hb;replace BB:=bt BB hb;have hW1:w.heap.size+2<=w1.heap.size:=by have:=hb.size;omega
 obtain ⟨b0,q0,rfl⟩:=hp.shape;have hql:qs.length=m.rm.length:=by rw [<-uh Hmap,List.length_map]
 rw [hql] at n0 ⊢;have L0:Hid (∀ b,((Value.slice b0 m.rm.length q0).ownBlock=some b\/ ∃ q ∈ qs,q.2.ownBlock=some b)->b<w1.heap.size):=Z9 (fun b e=>((uh n0).lt e).2);clear hp hql hb hW;have o0:=(uh kb).cell (i:=0) (v:= .slice a0 m.rm.length p0) rfl;have f0:=(uh kb).free 0;go_upto_region 2 with fail;clear o0 f0;replace kb:Hid (Blk (w1.setCell ⟨w.heap.size,0,none⟩ (.slice b0 m.rm.length q0)) w.heap.size 32 (S6 b0 q0 a1 p1 a2 p2 a3 p3 a4 p4 m)):=Z9 ((uh kb).set 0 _);replace kr:Hid (Blk (w1.setCell ⟨w.heap.size,0,none⟩ (.slice b0 m.rm.length q0)) (w.heap.size+1) 32 E6):=Z9 ((uh kr).other (a:=⟨w.heap.size,0,none⟩) (by show w.heap.size+1 ≠ w.heap.size;omega) _);replace BB:Hid (Below w.heap.size w (w1.setCell ⟨w.heap.size,0,none⟩ (.slice b0 m.rm.length q0))):=Z9 ((uh BB).setCell (p:=⟨w.heap.size,0,none⟩) (Z0 _) _);replace n0:=Z9 ((uh n0).set_old w.heap.size 0 (.slice b0 m.rm.length q0) (by omega));have g0:w1.heap.size<=(w1.setCell ⟨w.heap.size,0,none⟩ (.slice b0 m.rm.length q0)).heap.size:=by simp
 generalize w1.setCell ⟨w.heap.size,0,none⟩ (.slice b0 m.rm.length q0)=X0 at *;have c1:=(uh kb).cell (i:=1) (v:= .slice a1 m.gd.length p1) rfl;go_wp2_with fail;clear c1;refine (Gs ((uh Hv).below (uh BB)).gd (uh HF).gd).mono ?_;rintro e w2 ⟨u1,rfl,hp,hb⟩;have n1:Hid (GuildsAt (w.heap.size+2) w2 u1 m.gd):=Z9 (RecAt.mono hp (by omega));have M1:Hid (∀ b,u1.ownBlock=some b->w1.heap.size<=b/\b<w2.heap.size):=Z9 (fun b e=>⟨XN g0 (RecAt.lt hp e).1,(RecAt.lt hp e).2⟩);replace kb:=bl kb hb;replace kr:=bl kr hb;replace n0:=Z9 ((uh n0).later hb);replace BB:=bt BB hb;have z1:w1.heap.size<=w2.heap.size:=XN g0 hb.size;obtain ⟨b1,q1,rfl⟩:=RecAt.shape hp;clear hp hb;have o1:=(uh kb).cell (i:=1) (v:= .slice a1 m.gd.length p1) rfl;have f1:=(uh kb).free 1;go_upto_region 3 with fail;clear o1 f1;replace kb:Hid (Blk (w2.setCell ⟨w.heap.size,1,none⟩ (.slice b1 m.gd.length q1)) w.heap.size 32 (S6 b0 q0 b1 q1 a2 p2 a3 p3 a4 p4 m)):=Z9 ((uh kb).set 1 _);replace kr:Hid (Blk (w2.setCell ⟨w.heap.size,1,none⟩ (.slice b1 m.gd.length q1)) (w.heap.size+1) 32 E6):=Z9 ((uh kr).other (a:=⟨w.heap.size,1,none⟩) (by show w.heap.size+1 ≠ w.heap.size;omega) _);replace BB:Hid (Below w.heap.size w (w2.setCell ⟨w.heap.size,1,none⟩ (.slice b1 m.gd.length q1))):=Z9 ((uh BB).setCell (p:=⟨w.heap.size,1,none⟩) (Z0 _) _);replace n0:=Z9 ((uh n0).set_old w.heap.size 1 (.slice b1 m.gd.length q1) (by omega));replace n1:=Z9 (RecAt.set_old (uh n1) w.heap.size 1 (.slice b1 m.gd.length q1) (by omega));have g1:w2.heap.size<=(w2.setCell ⟨w.heap.size,1,none⟩ (.slice b1 m.gd.length q1)).heap.size:=by simp
 generalize w2.setCell ⟨w.heap.size,1,none⟩ (.slice b1 m.gd.length q1)=X1 at *;have c2:=(uh kb).cell (i:=2) (v:= .slice a2 m.sm.length p2) rfl;have HX:=Z9 (((uh Hv).below (uh BB)).sm);have hl9:=(uh HF).sm;have hlt9:=(uh kb).lt;go_upto_region 4 with (at_builtin;refine ZH tyS rfl (.tmp 11) (.tmp 13) 28 underlying28 rfl X1.heap.size _ _ [] m.sm rfl rfl (YW rfl (Z0 _)) (IsRec.below (uh HX) ((ba _ _))) (by simp;omega) (by simp) ?_;intro u2 w3 hp9 hg9 hat9;rw [List.nil_append] at hp9;have hb9:Below X1.heap.size X1 w3:=((ba _ _)).trans ((ZZ _ _).grown hg9 (by simp) (fun k e=>by cases e;exact Z0 _));have k9:=(uh kb).below hb9 (uh kb).lt;have o9:=k9.cell (i:=2) (v:= .slice a2 m.sm.length p2) rfl;have f9:=k9.free 2;obtain ⟨a9,c9,hu9⟩:=RecAt.shape hp9;subst hu9;have hp:=Z9 hp9;have hb:=Z9 hb9;clear hp9 hb9 k9 hg9 hat9)
 clear c2 HX hl9 hlt9 o9 f9;replace hp:=uh hp;replace hb:=uh hb;obtain ⟨u2,hu2⟩:∃ u,u=Value.slice a9 m.sm.length c9:=⟨_,rfl⟩
 rw [<-hu2] at hp ⊢;clear hu2;have n2:Hid (SmithsAt (w.heap.size+2) w3 u2 m.sm):=Z9 (RecAt.mono hp (by omega));have M2:Hid (∀ b,u2.ownBlock=some b->w2.heap.size<=b/\b<w3.heap.size):=Z9 (fun b e=>⟨XN g1 (RecAt.lt hp e).1,(RecAt.lt hp e).2⟩);replace kb:=bl kb hb;replace kr:=bl kr hb;replace n0:=Z9 ((uh n0).later hb);replace n1:=Z9 (RecAt.later (uh n1) hb);replace BB:=bt BB hb;have z2:w2.heap.size<=w3.heap.size:=XN g1 hb.size;obtain ⟨b2,q2,rfl⟩:=RecAt.shape hp;clear hp hb;replace kb:Hid (Blk (w3.setCell ⟨w.heap.size,2,none⟩ (.slice b2 m.sm.length q2)) w.heap.size 32 (S6 b0 q0 b1 q1 b2 q2 a3 p3 a4 p4 m)):=Z9 ((uh kb).set 2 _);replace kr:Hid (Blk (w3.setCell ⟨w.heap.size,2,none⟩ (.slice b2 m.sm.length q2)) (w.heap.size+1) 32 E6):=Z9 ((uh kr).other (a:=⟨w.heap.size,2,none⟩) (by show w.heap.size+1 ≠ w.heap.size;omega) _);replace BB:Hid (Below w.heap.size w (w3.setCell ⟨w.heap.size,2,none⟩ (.slice b2 m.sm.length q2))):=Z9 ((uh BB).setCell (p:=⟨w.heap.size,2,none⟩) (Z0 _) _);replace n0:=Z9 ((uh n0).set_old w.heap.size 2 (.slice b2 m.sm.length q2) (by omega));replace n1:=Z9 (RecAt.set_old (uh n1) w.heap.size 2 (.slice b2 m.sm.length q2) (by omega));replace n2:=Z9 (RecAt.set_old (uh n2) w.heap.size 2 (.slice b2 m.sm.length q2) (by omega));have g2:w3.heap.size<=(w3.setCell ⟨w.heap.size,2,none⟩ (.slice b2 m.sm.length q2)).heap.size:=by simp
 generalize w3.setCell ⟨w.heap.size,2,none⟩ (.slice b2 m.sm.length q2)=X2 at *;have c3:=(uh kb).cell (i:=3) (v:= .slice a3 m.dk.length p3) rfl;have HX:=Z9 (((uh Hv).below (uh BB)).dk);have hl9:=(uh HF).dk;have hlt9:=(uh kb).lt;go_upto_region 5 with (at_builtin;refine ZH tyD rfl (.tmp 16) (.tmp 18) 29 underlying29 rfl X2.heap.size _ _ [] m.dk rfl rfl (YW rfl (Z0 _)) (IsRec.below (uh HX) ((ba _ _))) (by simp;omega) (by simp) ?_;intro u3 w4 hp9 hg9 hat9;rw [List.nil_append] at hp9;have hb9:Below X2.heap.size X2 w4:=((ba _ _)).trans ((ZZ _ _).grown hg9 (by simp) (fun k e=>by cases e;exact Z0 _));have k9:=(uh kb).below hb9 (uh kb).lt;have o9:=k9.cell (i:=3) (v:= .slice a3 m.dk.length p3) rfl;have f9:=k9.free 3;obtain ⟨a9,c9,hu9⟩:=RecAt.shape hp9;subst hu9;have hp:=Z9 hp9;have hb:=Z9 hb9;clear hp9 hb9 k9 hg9 hat9)
 clear c3 HX hl9 hlt9 o9 f9;replace hp:=uh hp;replace hb:=uh hb;obtain ⟨u3,hu3⟩:∃ u,u=Value.slice a9 m.dk.length c9:=⟨_,rfl⟩
 rw [<-hu3] at hp ⊢;clear hu3;have n3:Hid (DesksAt (w.heap.size+2) w4 u3 m.dk):=Z9 (RecAt.mono hp (by omega));have M3:Hid (∀ b,u3.ownBlock=some b->w3.heap.size<=b/\b<w4.heap.size):=Z9 (fun b e=>⟨XN g2 (RecAt.lt hp e).1,(RecAt.lt hp e).2⟩);replace kb:=bl kb hb;replace kr:=bl kr hb;replace n0:=Z9 ((uh n0).later hb);replace n1:=Z9 (RecAt.later (uh n1) hb);replace n2:=Z9 (RecAt.later (uh n2) hb);replace BB:=bt BB hb;have z3:w3.heap.size<=w4.heap.size:=XN g2 hb.size;obtain ⟨b3,q3,rfl⟩:=RecAt.shape hp;clear hp hb;replace kb:Hid (Blk (w4.setCell ⟨w.heap.size,3,none⟩ (.slice b3 m.dk.length q3)) w.heap.size 32 (S6 b0 q0 b1 q1 b2 q2 b3 q3 a4 p4 m)):=Z9 ((uh kb).set 3 _);replace kr:Hid (Blk (w4.setCell ⟨w.heap.size,3,none⟩ (.slice b3 m.dk.length q3)) (w.heap.size+1) 32 E6):=Z9 ((uh kr).other (a:=⟨w.heap.size,3,none⟩) (by show w.heap.size+1 ≠ w.heap.size;omega) _);replace BB:Hid (Below w.heap.size w (w4.setCell ⟨w.heap.size,3,none⟩ (.slice b3 m.dk.length q3))):=Z9 ((uh BB).setCell (p:=⟨w.heap.size,3,none⟩) (Z0 _) _);replace n0:=Z9 ((uh n0).set_old w.heap.size 3 (.slice b3 m.dk.length q3) (by omega));replace n1:=Z9 (RecAt.set_old (uh n1) w.heap.size 3 (.slice b3 m.dk.length q3) (by omega));replace n2:=Z9 (RecAt.set_old (uh n2) w.heap.size 3 (.slice b3 m.dk.length q3) (by omega));replace n3:=Z9 (RecAt.set_old (uh n3) w.heap.size 3 (.slice b3 m.dk.length q3) (by omega));have g3:w4.heap.size<=(w4.setCell ⟨w.heap.size,3,none⟩ (.slice b3 m.dk.length q3)).heap.size:=by simp
 generalize w4.setCell ⟨w.heap.size,3,none⟩ (.slice b3 m.dk.length q3)=X3 at *;have c4:=(uh kb).cell (i:=4) (v:= .slice a4 m.pc.length p4) rfl;have HX:=Z9 (((uh Hv).below (uh BB)).pc);have hl9:=(uh HF).nums;have hlt9:=(uh kb).lt;go_upto_region 6 with (at_builtin;refine ZH tyN rfl (.tmp 21) (.tmp 23) 30 underlying30 rfl X3.heap.size _ _ [] m.pc rfl rfl (YW rfl (Z0 _)) (IsRec.below (uh HX) ((ba _ _))) (by simp;omega) (by simp) ?_;intro u4 w5 hp9 hg9 hat9;rw [List.nil_append] at hp9;have hb9:Below X3.heap.size X3 w5:=((ba _ _)).trans ((ZZ _ _).grown hg9 (by simp) (fun k e=>by cases e;exact Z0 _));have k9:=(uh kb).below hb9 (uh kb).lt;have o9:=k9.cell (i:=4) (v:= .slice a4 m.pc.length p4) rfl;have f9:=k9.free 4;obtain ⟨a9,c9,hu9⟩:=RecAt.shape hp9;subst hu9;have hp:=Z9 hp9;have hb:=Z9 hb9;clear hp9 hb9 k9 hg9 hat9)
 clear c4 HX hl9 hlt9 o9 f9;replace hp:=uh hp;replace hb:=uh hb;obtain ⟨u4,hu4⟩:∃ u,u=Value.slice a9 m.pc.length c9:=⟨_,rfl⟩
 rw [<-hu4] at hp ⊢;clear hu4;have n4:Hid (NumsAt (w.heap.size+2) w5 u4 m.pc):=Z9 (RecAt.mono hp (by omega));have M4:Hid (∀ b,u4.ownBlock=some b->w4.heap.size<=b/\b<w5.heap.size):=Z9 (fun b e=>⟨XN g3 (RecAt.lt hp e).1,(RecAt.lt hp e).2⟩);replace kb:=bl kb hb;replace kr:=bl kr hb;replace n0:=Z9 ((uh n0).later hb);replace n1:=Z9 (RecAt.later (uh n1) hb);replace n2:=Z9 (RecAt.later (uh n2) hb);replace n3:=Z9 (RecAt.later (uh n3) hb);replace BB:=bt BB hb;have z4:w4.heap.size<=w5.heap.size:=XN g3 hb.size;obtain ⟨b4,q4,rfl⟩:=RecAt.shape hp;clear hp hb;replace kb:Hid (Blk (w5.setCell ⟨w.heap.size,4,none⟩ (.slice b4 m.pc.length q4)) w.heap.size 32 (S6 b0 q0 b1 q1 b2 q2 b3 q3 b4 q4 m)):=Z9 ((uh kb).set 4 _);replace kr:Hid (Blk (w5.setCell ⟨w.heap.size,4,none⟩ (.slice b4 m.pc.length q4)) (w.heap.size+1) 32 E6):=Z9 ((uh kr).other (a:=⟨w.heap.size,4,none⟩) (by show w.heap.size+1 ≠ w.heap.size;omega) _);replace BB:Hid (Below w.heap.size w (w5.setCell ⟨w.heap.size,4,none⟩ (.slice b4 m.pc.length q4))):=Z9 ((uh BB).setCell (p:=⟨w.heap.size,4,none⟩) (Z0 _) _);replace n0:=Z9 ((uh n0).set_old w.heap.size 4 (.slice b4 m.pc.length q4) (by omega));replace n1:=Z9 (RecAt.set_old (uh n1) w.heap.size 4 (.slice b4 m.pc.length q4) (by omega));replace n2:=Z9 (RecAt.set_old (uh n2) w.heap.size 4 (.slice b4 m.pc.length q4) (by omega));replace n3:=Z9 (RecAt.set_old (uh n3) w.heap.size 4 (.slice b4 m.pc.length q4) (by omega));replace n4:=Z9 (RecAt.set_old (uh n4) w.heap.size 4 (.slice b4 m.pc.length q4) (by omega));have g4:w5.heap.size<=(w5.setCell ⟨w.heap.size,4,none⟩ (.slice b4 m.pc.length q4)).heap.size:=by simp
 generalize w5.setCell ⟨w.heap.size,4,none⟩ (.slice b4 m.pc.length q4)=X4 at *;obtain ⟨c0,c1,c2,c3,c4,c5⟩:=(uh kb).c6;obtain ⟨o0,o1,o2,o3,o4,o5⟩:=(uh kr).c6;obtain ⟨f0,f1,f2,f3,f4,f5⟩:=(uh kr).f6;go_wp2_with fail;refine ZE (v:= .agg (S6 b0 q0 b1 q1 b2 q2 b3 q3 b4 q4 m)) (by simp [results,results41,go_sem, *]) rfl ⟨_,_,_,_,_,qs,rfl,?_,?_⟩
 ·refine FullSmy.mono (n₀:=w.heap.size+2) (Fh w1.heap.size w2.heap.size w3.heap.size w4.heap.size ?_ (uh Hmap) ?_ ?_ ?_ ?_ (uh L0) (uh M1) (uh M2) (uh M3) (fun b e=>(uh M4 b e).1) z1 z2 z3) (by omega)
  ·iterate 6 (refine OwnHall.set_old ?_ _ _ _ (by omega))
   exact uh n0
  ·iterate 6 (refine RecAt.set_old ?_ _ _ _ (by omega))
   exact uh n1
  ·iterate 6 (refine RecAt.set_old ?_ _ _ _ (by omega))
   exact uh n2
  ·iterate 6 (refine RecAt.set_old ?_ _ _ _ (by omega))
   exact uh n3
  ·iterate 6 (refine RecAt.set_old ?_ _ _ _ (by omega))
   exact uh n4
 ·iterate 6 (refine XI ?_ (by show _<=w.heap.size+1;omega) _)
  exact uh BB
structure Two (p q:Option Nat) (w w':World):Prop where
 os:w'.os=w.os
 tape:w'.tape=w.tape
 output:w'.output=w.output
 size:w.heap.size<=w'.heap.size
 block:∀ k,k<w.heap.size->p ≠ some k->q ≠ some k->w'.heap[k]?=w.heap[k]?
section
variable {p q : Option Nat} {w w' w'' : World}
theorem Two.refl (p q:Option Nat) (w:World):Two p q w w:=⟨rfl,rfl,rfl,Z0 _,fun _ _ _ _=>rfl⟩
theorem Two.trans (h:Two p q w w') (k:Two p q w' w''):Two p q w w'':=
 ⟨k.os.trans h.os,k.tape.trans h.tape,k.output.trans h.output,XN h.size k.size,fun i hi hp hq=>(k.block i (Zf hi h.size) hp hq).trans (h.block i hi hp hq)⟩
theorem Two.of_below (h:Below w.heap.size w w'):Two p q w w':=⟨h.os,h.tape,h.output,h.size,fun i hi _ _=>h.block i hi⟩
theorem Two.of_set (w:World) {g:Nat} (hg:p=some g\/q=some g) (o:Nat) (u:Value):Two p q w (w.setCell ⟨g,o,none⟩ u):=
 ⟨rfl,rfl,rfl,by simp,fun i hi hp hq=>heap_setCell_other w _ i u (fun e=>by
  have e:i=g:=e;subst e
  rcases hg with h | h
  ·exact hp h
  ·exact hq h)⟩
theorem Two.below {B:Nat} (h:Two p q w w') (hB:B<=w.heap.size) (hp:∀ k,p=some k->B<=k) (hq:∀ k,q=some k->B<=k):Below B w w':=
 ⟨h.os,h.tape,h.output,h.size,fun i hi=>h.block i (Zf hi hB) (fun e=>by have:=hp i e;omega) (fun e=>by have:=hq i e;omega)⟩
theorem Blk.two {R:Nat} {t:TypeId} {cs:Array Value} (h:Blk w R t cs) (ht:Two p q w w') (hp:p ≠ some R) (hq:q ≠ some R):Blk w' R t cs:=h.same (ht.block R h.lt hp hq)
end
theorem OwnHall.same2 {n₀:Nat} {w w':World} {v:Value} {qs:List (ZW × Value)} (h:OwnHall n₀ w v qs) (hs:∀ k,(v.ownBlock=some k\/ ∃ q ∈ qs,q.2.ownBlock=some k)->w'.heap[k]?=w.heap[k]?):OwnHall n₀ w' v qs:=
 ⟨XE h.row (fun k e=>hs k (.inl e)),fun q hq=>XE (h.pc q hq) (fun k e=>hs k (.inr ⟨q,hq,e⟩)),h.off,h.apart⟩
section
variable {n₀ n cap g : Nat} {w : World} {v0 v1 v2 v3 v4 : Value} {m : Z6} {qs : List (ZW × Value)}
theorem FullSmy.putS (hf:FullSmy n₀ w v0 v1 (.slice (some ⟨g,0,none⟩) n cap) v3 v4 m qs) (hn:n=m.sm.length) {j i:Nat} (hj:j<m.sm.length) (hi:i<11) (u:Value) (x:Z2) (hx:ZS x=(ZS (Z8 m.sm j)).set i u) :
  FullSmy n₀ (w.setCell ⟨g,j*11+i,none⟩ u) v0 v1 (.slice (some ⟨g,0,none⟩) n cap) v3 v4 { m with sm:=m.sm.set j x } qs:=by
 have hb:(Value.slice (some ⟨g,0,none⟩) n cap).ownBlock=some g:=rfl;have hne:∀ k,k ≠ g->(w.setCell ⟨g,j*11+i,none⟩ u).heap[k]?=w.heap[k]?:=fun k hk=>heap_setCell_other w _ k u hk;refine ⟨hf.hall.same2 fun k e=>hne k fun e'=> ?_,hf.rm,RecAt.same hf.gd fun k e=>hne k fun e'=> ?_,(RecAt.put1 ZT (by omega) hf.sm hn hj hi u x hx).1,RecAt.same hf.dk fun k e=>hne k fun e'=> ?_,RecAt.same hf.pc fun k e=>hne k fun e'=> ?_,hf.h1,hf.h2,hf.h3,hf.h4,hf.a12,hf.a13,hf.a14,hf.a23,hf.a24,hf.a34⟩
 ·subst e'
  rcases e with e | ⟨q,hq,e⟩
  ·exact hf.h2.1 _ hb e
  ·exact hf.h2.2 q hq _ hb e
 ·subst e';exact hf.a12 _ e hb
 ·subst e';exact hf.a23 _ hb e
 ·subst e';exact hf.a24 _ hb e
theorem FullSmy.putD (hf:FullSmy n₀ w v0 v1 v2 (.slice (some ⟨g,0,none⟩) n cap) v4 m qs) (hn:n=m.dk.length) {j i:Nat} (hj:j<m.dk.length) (hi:i<3) (u:Value) (x:Yd) (hx:Xb x=(Xb (Z8 m.dk j)).set i u) :
  FullSmy n₀ (w.setCell ⟨g,j*3+i,none⟩ u) v0 v1 v2 (.slice (some ⟨g,0,none⟩) n cap) v4 { m with dk:=m.dk.set j x } qs:=by
 have hb:(Value.slice (some ⟨g,0,none⟩) n cap).ownBlock=some g:=rfl;have hne:∀ k,k ≠ g->(w.setCell ⟨g,j*3+i,none⟩ u).heap[k]?=w.heap[k]?:=fun k hk=>heap_setCell_other w _ k u hk;refine ⟨hf.hall.same2 fun k e=>hne k fun e'=> ?_,hf.rm,RecAt.same hf.gd fun k e=>hne k fun e'=> ?_,RecAt.same hf.sm fun k e=>hne k fun e'=> ?_,(RecAt.put1 Zy (by omega) hf.dk hn hj hi u x hx).1,RecAt.same hf.pc fun k e=>hne k fun e'=> ?_,hf.h1,hf.h2,hf.h3,hf.h4,hf.a12,hf.a13,hf.a14,hf.a23,hf.a24,hf.a34⟩
 ·subst e'
  rcases e with e | ⟨q,hq,e⟩
  ·exact hf.h3.1 _ hb e
  ·exact hf.h3.2 q hq _ hb e
 ·subst e';exact hf.a13 _ e hb
 ·subst e';exact hf.a23 _ e hb
 ·subst e';exact hf.a34 _ hb e
theorem FullSmy.putP (hf:FullSmy n₀ w v0 v1 v2 v3 (.slice (some ⟨g,0,none⟩) n cap) m qs) (hn:n=m.pc.length) {j:Nat} (hj:j<m.pc.length) (x:Int) :
  FullSmy n₀ (w.setCell ⟨g,j,none⟩ (.int .i64 x)) v0 v1 v2 v3 (.slice (some ⟨g,0,none⟩) n cap) { m with pc:=m.pc.set j x } qs:=by
 have hb:(Value.slice (some ⟨g,0,none⟩) n cap).ownBlock=some g:=rfl;have hne:∀ k,k ≠ g->(w.setCell ⟨g,j,none⟩ (.int .i64 x)).heap[k]?=w.heap[k]?:=fun k hk=>heap_setCell_other w _ k _ hk;have hput:=(RecAt.put1 (i:=0) YP (by omega) hf.pc hn hj (by omega) (.int .i64 x) x (by simp [Ta])).1;simp only [Nat.mul_one,Nat.add_zero] at hput;refine ⟨hf.hall.same2 fun k e=>hne k fun e'=> ?_,hf.rm,RecAt.same hf.gd fun k e=>hne k fun e'=> ?_,RecAt.same hf.sm fun k e=>hne k fun e'=> ?_,RecAt.same hf.dk fun k e=>hne k fun e'=> ?_,hput,hf.h1,hf.h2,hf.h3,hf.h4,hf.a12,hf.a13,hf.a14,hf.a23,hf.a24,hf.a34⟩
 ·subst e'
  rcases e with e | ⟨q,hq,e⟩
  ·exact hf.h4.1 _ hb e
  ·exact hf.h4.2 q hq _ hb e
 ·subst e';exact hf.a14 _ e hb
 ·subst e';exact hf.a24 _ e hb
 ·subst e';exact hf.a34 _ e hb
end
end Go.Proofs.YtlcpgkakdieeaaaGreat
namespace Go.Proofs.YtlcpgkakdieeaaaGreat
open Go.ChangeShapes Go.WideShapes Go.ChangeAt Go.RowKit Go.Sort
set_option linter.unusedVariables false
def XH:Z6:=⟨[],[],[],[],[],0⟩
def Wr (m:Z6) (who:Int):Bool:=inB who 0 ((m.sm.length:Int)-1) && !((Z8 m.sm who.toNat).1 ==0)
theorem Xr {m:Z6} {who:Int} (h:Wr m who=true):∃ k:Nat,who=(k:Int)/\k<m.sm.length/\(Z8 m.sm k).1 ≠ 0:=by
 unfold Wr at h;simp only [ZP,Bool.not_eq_true',beq_eq_false_iff_ne] at h;have h1:=ZN h.1;exact ⟨who.toNat,by omega,by omega,h.2⟩
theorem Rl {m:Z6} (h:Loose m):Few m:=by
 have hd:=h.head;unfold YO at hd;simp only [ZP,Zc] at hd;obtain ⟨h1,h2,h3,h4,h5,_⟩:=hd;obtain ⟨r1,r2,r3,r4⟩:=Zi h1;have hg:=(Vy h2).2;refine ⟨by omega,fun r hr=> ?_,by omega,by omega,by omega,by omega⟩;have hrb:=List.all_eq_true.1 r3 r hr;unfold Ze at hrb;simp only [ZP] at hrb;have:=ZN hrb.2.1;omega
def SI (m:Z6) (who:Int):Z6 × Int:=
 if ZI m then (if Wr m who then (if ZQ (Z8 m.sm who.toNat) then (ZJ (setS m who.toNat (stS (Z8 m.sm who.toNat) 1)),0) else (m,2)) else (m,1)) else (XH,3)
def Uh (m:Z6) (who:Int):Z6 × Int:=
 if ZI m then (if Wr m who then (ZJ (setS m who.toNat Ub),0) else (m,1)) else (XH,3)
def UM (m:Z6) (who lo hi:Int):Z6 × Int:=
 if ZI m then (if Wr m who then (if Ys lo hi then (ZJ (setS m who.toNat (CL (Z8 m.sm who.toNat) lo hi)),0) else (m,3)) else (m,1)) else (XH,3)
def UP (m:Z6) (who rank:Int):Z6 × Int:=
 if ZI m then (if Wr m who then (if (Yb (Z8 m.sm who.toNat) rank).2 then (ZJ (setS m who.toNat (Yb (Z8 m.sm who.toNat) rank).1),0) else (m,3)) else (m,1)) else (XH,3)
theorem GQ {m:Z6} (h:ZI m=true) (who:Int):ZI (SI m who).1=true:=by
 unfold SI;rw [h];simp only [if_true]
 split
 ·rename_i hw
  obtain ⟨k,rfl,hk,hs⟩:=Xr hw;rw [show ((k:Int)).toNat=k by simp]
  split
  ·rename_i hp
   exact YR (Eh (ZM h) hk hp)
  ·exact h
 ·exact h
theorem Jg {m:Z6} (h:ZI m=true) (who:Int):ZI (Uh m who).1=true:=by
 unfold Uh;rw [h];simp only [if_true]
 split
 ·rename_i hw
  obtain ⟨k,rfl,hk,hs⟩:=Xr hw;rw [show ((k:Int)).toNat=k by simp];exact YR (Gj (ZM h) hk)
 ·exact h
theorem Jk {m:Z6} (h:ZI m=true) (who lo hi:Int):ZI (UM m who lo hi).1=true:=by
 unfold UM;rw [h];simp only [if_true]
 split
 ·rename_i hw
  obtain ⟨k,rfl,hk,hs⟩:=Xr hw;rw [show ((k:Int)).toNat=k by simp]
  split
  ·rename_i hp
   exact YR (CF (ZM h) hk hs hp)
  ·exact h
 ·exact h
theorem GO {m:Z6} (h:ZI m=true) (who rank:Int):ZI (UP m who rank).1=true:=by
 unfold UP;rw [h];simp only [if_true]
 split
 ·rename_i hw
  obtain ⟨k,rfl,hk,hs⟩:=Xr hw;rw [show ((k:Int)).toNat=k by simp]
  split
  ·rename_i hp
   exact YR (Eg (ZM h) hk (Prod.ext rfl hp))
  ·exact h
 ·exact h
theorem FullSmy.putW {n₀ n cap g:Nat} {w:World} {v0 v1 v3 v4:Value} {m:Z6} {qs:List (ZW × Value)} (hf:FullSmy n₀ w v0 v1 (.slice (some ⟨g,0,none⟩) n cap) v3 v4 m qs) (hn:n=m.sm.length) {j:Nat} (hj:j<m.sm.length) (x:Z2) :
  FullSmy n₀ (Qm w g (j*11) (ZS x)) v0 v1 (.slice (some ⟨g,0,none⟩) n cap) v3 v4 { m with sm:=m.sm.set j x } qs:=by
 have hb:(Value.slice (some ⟨g,0,none⟩) n cap).ownBlock=some g:=rfl;obtain ⟨hput,hg⟩:=RecAt.put ZT (by omega) hf.sm hn hj x;have hne:∀ k,k<w.heap.size->k ≠ g->(Qm w g (j*11) (ZS x)).heap[k]?=w.heap[k]?:=fun k hk hkg=>hg.block k hk (fun e=>hkg (by cases e;rfl));refine ⟨hf.hall.same2 fun k e=>hne k (hf.hall.lt e).2 fun e'=> ?_,hf.rm,RecAt.same hf.gd fun k e=>hne k (RecAt.lt hf.gd e).2 fun e'=> ?_,hput,RecAt.same hf.dk fun k e=>hne k (RecAt.lt hf.dk e).2 fun e'=> ?_,RecAt.same hf.pc fun k e=>hne k (RecAt.lt hf.pc e).2 fun e'=> ?_,hf.h1,hf.h2,hf.h3,hf.h4,hf.a12,hf.a13,hf.a14,hf.a23,hf.a24,hf.a34⟩
 ·subst e'
  rcases e with e | ⟨q,hq,e⟩
  ·exact hf.h2.1 _ hb e
  ·exact hf.h2.2 q hq _ hb e
 ·subst e';exact hf.a12 _ e hb
 ·subst e';exact hf.a23 _ hb e
 ·subst e';exact hf.a24 _ hb e
theorem Lc (w:World) (g o:Nat) (c0 c1 c2 c3 c4 c5 c6 c7 c8 c9 c10:Value):Qm w g o [c0,c1,c2,c3,c4,c5,c6,c7,c8,c9,c10]=((((((((((w.setCell ⟨g,o,none⟩ c0).setCell ⟨g,o+1,none⟩ c1).setCell ⟨g,o+2,none⟩ c2).setCell ⟨g,o+3,none⟩ c3).setCell ⟨g,o+4,none⟩ c4).setCell ⟨g,o+5,none⟩ c5).setCell ⟨g,o+6,none⟩ c6).setCell ⟨g,o+7,none⟩ c7).setCell ⟨g,o+8,none⟩ c8).setCell ⟨g,o+9,none⟩ c9).setCell ⟨g,o+10,none⟩ c10:=rfl
theorem Dm (w:World) (g o:Nat) (t0 t1 t2 t3 t4 t5 t6 t7 t8 t9 t10:Int):((((((((((w.setCell ⟨g,o,none⟩ (.int .i64 t0)).setCell ⟨g,o+1,none⟩ (.int .i64 t1)).setCell ⟨g,o+2,none⟩ (.int .i64 t2)).setCell ⟨g,o+3,none⟩ (.int .i64 t3)).setCell ⟨g,o+4,none⟩ (.int .i64 t4)).setCell ⟨g,o+5,none⟩ (.int .i64 t5)).setCell ⟨g,o+6,none⟩ (.int .i64 t6)).setCell ⟨g,o+7,none⟩ (.int .i64 t7)).setCell ⟨g,o+8,none⟩ (.int .i64 t8)).setCell ⟨g,o+9,none⟩ (.int .i64 t9)).setCell ⟨g,o+10,none⟩ (.int .i64 t10)=Qm w g o (ZS (t0,t1,t2,t3,t4,t5,t6,t7,t8,t9,t10)):=rfl
def WM (v0 v1 v2 v3 v4:Value) (qs:List (ZW × Value)) (k:Nat):Prop:=v0.ownBlock=some k\/(∃ q ∈ qs,q.2.ownBlock=some k)\/v1.ownBlock=some k\/v2.ownBlock=some k\/v3.ownBlock=some k\/v4.ownBlock=some k
section
variable {n₀ : Nat} {w w' : World} {v0 v1 v2 v3 v4 : Value} {m : Z6} {qs : List (ZW × Value)}
theorem FullSmy.own (h:FullSmy n₀ w v0 v1 v2 v3 v4 m qs) {k:Nat} (e:WM v0 v1 v2 v3 v4 qs k):n₀<=k/\k<w.heap.size:=by
 rcases e with e | e | e | e | e | e
 ·exact h.hall.lt (.inl e)
 ·exact h.hall.lt (.inr e)
 ·exact RecAt.lt h.gd e
 ·exact RecAt.lt h.sm e
 ·exact RecAt.lt h.dk e
 ·exact RecAt.lt h.pc e
theorem FullSmy.keep (h:FullSmy n₀ w v0 v1 v2 v3 v4 m qs) (hs:∀ k,WM v0 v1 v2 v3 v4 qs k->w'.heap[k]?=w.heap[k]?):FullSmy n₀ w' v0 v1 v2 v3 v4 m qs:=
 ⟨⟨XE h.hall.row (fun k e=>hs k (.inl e)),fun q hq=>XE (h.hall.pc q hq) (fun k e=>hs k (.inr (.inl ⟨q,hq,e⟩))),h.hall.off,h.hall.apart⟩,h.rm,RecAt.same h.gd fun k e=>hs k (.inr (.inr (.inl e))),RecAt.same h.sm fun k e=>hs k (.inr (.inr (.inr (.inl e)))),RecAt.same h.dk fun k e=>hs k (.inr (.inr (.inr (.inr (.inl e))))),RecAt.same h.pc fun k e=>hs k (.inr (.inr (.inr (.inr (.inr e))))),h.h1,h.h2,h.h3,h.h4,h.a12,h.a13,h.a14,h.a23,h.a24,h.a34⟩
end
end Go.Proofs.YtlcpgkakdieeaaaGreat
namespace Go.Proofs.YtlcpgkakdieeaaaGreat
open Go.ChangeShapes Go.WideShapes Go.ChangeAt Go.RowKit Go.Sort
set_option linter.unusedVariables false
theorem FullSmy.set_off {n₀:Nat} {w:World} {v0 v1 v2 v3 v4:Value} {m:Z6} {qs:List (ZW × Value)} (h:FullSmy n₀ w v0 v1 v2 v3 v4 m qs) {g:Nat} (ho:∀ k,(v0.ownBlock=some k\/(∃ q ∈ qs,q.2.ownBlock=some k)\/v1.ownBlock=some k\/v2.ownBlock=some k\/v3.ownBlock=some k\/v4.ownBlock=some k)->k ≠ g) (o:Nat) (u:Value):FullSmy n₀ (w.setCell ⟨g,o,none⟩ u) v0 v1 v2 v3 v4 m qs:=by
 have hne:∀ k,k ≠ g->(w.setCell ⟨g,o,none⟩ u).heap[k]?=w.heap[k]?:=fun k hk=>heap_setCell_other w _ k u hk;exact ⟨h.hall.same2 fun k e=>hne k (ho k (by rcases e with e | e;exact .inl e;exact .inr (.inl e))),h.rm,RecAt.same h.gd fun k e=>hne k (ho k (.inr (.inr (.inl e)))),RecAt.same h.sm fun k e=>hne k (ho k (.inr (.inr (.inr (.inl e))))),RecAt.same h.dk fun k e=>hne k (ho k (.inr (.inr (.inr (.inr (.inl e)))))),RecAt.same h.pc fun k e=>hne k (ho k (.inr (.inr (.inr (.inr (.inr e)))))),h.h1,h.h2,h.h3,h.h4,h.a12,h.a13,h.a14,h.a23,h.a24,h.a34⟩
theorem Vx (n₀:Nat) (w:World):FullSmy n₀ w (.slice none 0 0) (.slice none 0 0) (.slice none 0 0) (.slice none 0 0) (.slice none 0 0) XH []:=by
 have hz:M7 (.slice none 0 0) (.slice none 0 0):=fun b e=>by cases e
 exact ⟨OwnHall.nil _ _,rfl,World.ownsRow_nil _ _ _ _,World.ownsRow_nil _ _ _ _,World.ownsRow_nil _ _ _ _,World.ownsRow_nil _ _ _ _,⟨hz,fun q hq=>by cases hq⟩,⟨hz,fun q hq=>by cases hq⟩,⟨hz,fun q hq=>by cases hq⟩,⟨hz,fun q hq=>by cases hq⟩,hz,hz,hz,hz,hz,hz⟩
def Nn (m:Z6) (s:Z2):Int:=Ym (pushS m s) (m.sm.length:Int)
def TG (m:Z6) (rank may guild:Int):Z6 × Int:=
 if ZI m then (if Zt (Yk rank may guild) && decide (guild<m.gd.length) then (if m.sm.length=12 then (m,4) else (if Nn m (Yk rank may guild)<0 then (m,2) else
  (ZJ (setS (pushS m (Yk rank may guild)) m.sm.length (Qn (Yk rank may guild) (Nn m (Yk rank may guild)) (XR m (Nn m (Yk rank may guild))))),0))) else (m,3)) else (XH,3)
theorem Jt {rank may guild:Int} (h:Zt (Yk rank may guild)=true):YY (Yk rank may guild)=true:=by
 unfold Zt at h;rw [Sj (by show (1:Int) ≠ 0;omega),Bool.false_or] at h;exact h
theorem Js {m:Z6} (h:Loose m) {rank may guild:Int} (hs:Zt (Yk rank may guild)=true) (hg:guild<m.gd.length):Loose (pushS m (Yk rank may guild))\/m.sm.length>=12:=by
 by_cases hl:m.sm.length<12
 ·left
  obtain ⟨j,hj,_⟩:=h.openD;exact h.pushS hl (XB.2 (.inr ⟨Jt hs,hg,by show (0:Int)<_;omega⟩)) (UX rfl)
 ·right;omega
theorem Eo {m:Z6} (h:Loose m) {b:Nat} (hb:b<m.dk.length):Xa (XR m (b:Int)) (Z8 m.dk b).2.2=true:=by
 have hmk:XR m (b:Int)=(Z8 m.dk b).2.2:=by unfold XR;simp
 obtain ⟨k0,k1⟩:=Sg (h.desk b hb);rw [hmk];exact OX (by omega) (by omega) (by omega) (by omega) (by omega) (by omega)
theorem Zj {m:Z6} (h:Loose m):m.sm.length<=12:=by
 have hd:=h.head;unfold YO at hd;simp only [ZP,Zc] at hd;exact hd.2.2.1
theorem F4 {m:Z6} (h:ZI m=true) (rank may guild:Int):ZI (TG m rank may guild).1=true:=by
 unfold TG;rw [h];simp only [if_true]
 split
 ·rename_i hs
  simp only [ZP,Zc] at hs
  split
  ·exact h
  ·rename_i hl
   split
   ·exact h
   ·rename_i hb
    have hlo:=ZM h;have h12:=Zj hlo
    have hx:Loose (pushS m (Yk rank may guild)):=by
     rcases Js hlo hs.1 hs.2 with e | e
     ·exact e
     ·omega
    rcases UU (pushS m (Yk rank may guild)) (m.sm.length:Int) with ⟨e,_⟩ | ⟨b,hbl,e,hm⟩
    ·exact absurd (show Nn m (Yk rank may guild)<0 by unfold Nn;rw [e];omega) hb
    ·have ec:Nn m (Yk rank may guild)=(b:Int):=e
     rw [ec];unfold YA at hm;simp only [ZP,Zr] at hm
     have hat:Z8 (pushS m (Yk rank may guild)).sm m.sm.length=Yk rank may guild:=by
      show Z8 (m.sm++[Yk rank may guild]) m.sm.length=_;rw [VG,if_pos rfl]
     rw [hat] at hm;obtain ⟨k1,k2⟩:=I9 (m:=pushS m (Yk rank may guild)) (s:=Yk rank may guild) (b:=b) (had:=XR m (b:Int)) hx (Jt hs.1) hs.2 hbl hm.1 hm.2 (Eo hlo hbl);exact YR (hx.setS (by unfold pushS;simp) k1 k2)
 ·exact h
def FP (m:Z6) (s:Z2) (b:Int):Int:=YS (Zs (XK s) (XR m s.2.1) (XR m b)) (XR m b)
def PO (m:Z6) (k:Nat) (b:Int):Z6:=setS m k (Qn (Z8 m.sm k) b (FP m (Z8 m.sm k) b))
def T6 (m:Z6) (who:Int):Z6 × Int:=
 if ZI m then (if Wr m who then (if (Z8 m.sm who.toNat).1=1 then (if Ym m who<0 then (m,2) else (if YL (PO m who.toNat (Ym m who)) then (ZJ (PO m who.toNat (Ym m who)),0) else (m,4))) else (m,2)) else (m,1)) else (XH,3)
theorem Ii {m:Z6} (h:ZI m=true) (who:Int):ZI (T6 m who).1=true:=by
 unfold T6;rw [h];simp only [if_true]
 split
 ·split
  ·split
   ·exact h
   ·split
    ·rename_i hl
     exact YR (QO hl)
    ·exact h
  ·exact h
 ·exact h
theorem Mg (m:Z6) (k:Nat) (s t:Z2):setS (setS m k s) k t=setS m k t:=by unfold setS;simp
def Wm (m:Z6) (k:Nat) (may:Int):Z6:=setS m k (SE (Z8 m.sm k) may)
def VN (m:Z6) (who may:Int):Z6 × Int:=
 if ZI m then (if Wr m who then (if inB may 1 255 then (if ZQ (Z8 m.sm who.toNat) && !Wc may (Z8 m.sm who.toNat).2.1 then
  (if Ym (Wm m who.toNat may) who<0 then (m,2) else (ZJ (setS (Wm m who.toNat may) who.toNat (putS (Wm m who.toNat may) (SE (Z8 m.sm who.toNat) may) (Ym (Wm m who.toNat may) who))),0))
  else (ZJ (Wm m who.toNat may),0)) else (m,3)) else (m,1)) else (XH,3)
theorem L9 {s:Z2} {may:Int} (h:YY s=true) (m0:1<=may) (m1:may<=255):YY (SE s may)=true:=by
 obtain ⟨st,be,rk,my,gu,lo',hi',hd,ca,ut,wk⟩:=s;obtain ⟨x0,x1,x2,x3,x4,x5,x6,x7,x8,x9⟩:=Zd h;exact TS x0 x1 x2 ⟨m0,m1⟩ x4 x5 x6 x7 x8 x9
theorem Is {m:Z6} (h:ZI m=true) (who may:Int):ZI (VN m who may).1=true:=by
 unfold VN;rw [h];simp only [if_true]
 split
 ·rename_i hw
  obtain ⟨k,rfl,hk,hs⟩:=Xr hw;rw [show ((k:Int)).toNat=k by simp];have hlo:=ZM h
  split
  ·rename_i hm
   obtain ⟨m0,m1⟩:=ZN hm
   split
   ·rename_i hp
    simp only [ZP,Bool.not_eq_true'] at hp
    split
    ·exact h
    ·rename_i hb
     rcases UU (Wm m k may) (k:Int) with ⟨e,_⟩ | ⟨b,hbl,e,hma⟩
     ·exact absurd (show Ym (Wm m k may) (k:Int)<0 by rw [e];omega) hb
     ·rw [e]
      obtain ⟨p,g1,b1⟩:=hlo.limits hk hs;obtain ⟨a0,a1,a2,a3,a4⟩:=hlo.at hk hp.1;unfold YA at hma;simp only [ZP,Zr] at hma
      have hat:Z8 (Wm m k may).sm k=SE (Z8 m.sm k) may:=by
       show Z8 (m.sm.set k _) k=_;rw [ZD hk,if_pos rfl]
      rw [hat] at hma;have:=NQ (m:=m) hlo (s:=SE (Z8 m.sm k) may) (b:=b) (L9 p m0 m1) hp.1 g1 a0 a1 a4 hbl hma.1 hma.2;unfold Wm;rw [Mg];exact YR (hlo.setS hk this.1 this.2)
   ·rename_i hp
    refine YR (CG hlo hk hs m0 m1 ?_);cases h1:ZQ (Z8 m.sm k)
    ·exact .inl rfl
    ·right
     cases h2:Wc may (Z8 m.sm k).2.1
     ·rw [h1,h2] at hp;exact absurd rfl hp
     ·rfl
  ·exact h
 ·exact h
def RE (m:Z6) (who g:Int):Z6 × Int:=
 if Wr m who then (if inB g (-1) ((m.gd.length:Int)-1) then (ZJ (setS m who.toNat (KI (Z8 m.sm who.toNat) g)),0) else (m,3)) else (m,1)
theorem Gi {m:Z6} (h:ZI m=true) (who g:Int):ZI (RE m who g).1=true:=by
 unfold RE
 split
 ·rename_i hw
  obtain ⟨k,rfl,hk,hs⟩:=Xr hw;rw [show ((k:Int)).toNat=k by simp]
  split
  ·rename_i hg
   have:=ZN hg;exact YR (Ee (ZM h) hk hs this.1 (by omega))
  ·exact h
 ·exact h
def TB (m:Z6) (r:Nat):Int:=Xl (ZR m.rm r) (YU m r m.dk.length).1
theorem EZ {m:Z6} (h:Loose m) {r:Nat} (hr:r<m.rm.length):0<=TB m r/\TB m r<(ZR m.rm r).2.length:=by
 have hd:=h.head;unfold YO at hd;simp only [ZP,Zc] at hd;obtain ⟨r1,r2,r3,r4⟩:=Zi hd.1;have hmem:ZR m.rm r ∈ m.rm:=by unfold ZR;simp [List.getD,hr]
 have hrb:=List.all_eq_true.1 r3 _ hmem;have hu:=Qt m r (Zj h) m.dk.length
 have hlen:1<=(ZR m.rm r).2.length:=by
  have hx:=hrb;unfold Ze at hx;simp only [ZP] at hx;have:=ZN hx.2.1;omega
 have hn:=JE (YU m r m.dk.length).1 (ZR m.rm r).2 hlen;unfold TB Xl;rw [hrb,Zo (by omega) (by omega)];simp only [Bool.and_self,if_true];omega
def Qu (m:Z6):Nat->Z6
 | 0=>m
 | k+1=>JY (Qu m k) k (TB m k)
theorem RJ (m:Z6):∀ k,(Qu m k).rm=m.rm/\(Qu m k).gd=m.gd/\(Qu m k).sm=m.sm/\(Qu m k).dk=m.dk/\(Qu m k).now=m.now/\(Qu m k).pc.length=m.pc.length
 | 0=>⟨rfl,rfl,rfl,rfl,rfl,rfl⟩
 | k+1=>by
  obtain ⟨a,b,c,d,e,f⟩:=RJ m k;refine ⟨a,b,c,d,e,?_⟩;show ((Qu m k).pc.set k _).length=_;rw [Wz,f]
theorem Ls {m:Z6} (h:Loose m):∀ k,k<=m.pc.length->Loose (Qu m k)
 | 0,_=>h
 | k+1,hk=>by
  have ih:=Ls h k (by omega);have hd:=h.head;unfold YO at hd;simp only [ZP,Zc] at hd;have hr:k<m.rm.length:=by have:=hd.2.2.2.2.1;omega
  have hw:=EZ h hr;have hs:=(RJ m k).1;exact LL ih (by rw [hs];exact hr) hw.1 (by rw [hs];exact hw.2)
def FU (m:Z6):Z6:=ZJ (Qu m m.pc.length)
theorem DO {m:Z6} (h:ZI m=true):ZI (FU m)=true:=YR (Ls (ZM h) _ (Z0 _))
def TJ (m:Z6) (b:Int):Int:=(Z7 (ZR m.rm (Xc m.rm b)).2 (Z8 m.pc (Xc m.rm b)).toNat).1
def Bu (s:Z2) (u:Int):Z2:=(s.1,s.2.1,s.2.2.1,s.2.2.2.1,s.2.2.2.2.1,s.2.2.2.2.2.1,s.2.2.2.2.2.2.1,s.2.2.2.2.2.2.2.1,s.2.2.2.2.2.2.2.2.1,u,s.2.2.2.2.2.2.2.2.2.2)
def DI (s:Z2):Int:=s.2.2.2.2.2.2.2.2.2.1
def Q8 (m:Z6) (n:Int) (s:Z2):Option Z2:=
 if s.1=0 then some s else if s.1=3 then (if (Xj s (n*TJ m s.2.1)).2 then some (Bu (Xj s (n*TJ m s.2.1)).1 (ZG (DI (Xj s (n*TJ m s.2.1)).1) (TJ m s.2.1) n)) else none) else some (Bu s (ZG (DI s) 0 n))
def XM (m:Z6) (n:Int):Nat->Option (List Z2)
 | 0=>some m.sm
 | k+1=>match XM m n k with
  | none=>none
  | some ss=>match Q8 m n (Z8 m.sm k) with
   | none=>none
   | some t=>some (ss.set k t)
theorem PM {m:Z6} {n:Int} : ∀ {k:Nat} {ss:List Z2},XM m n k=some ss->ss.length=m.sm.length/\ ∀ j,k<=j->Z8 ss j=Z8 m.sm j
 | 0,ss,h=>by cases h;exact ⟨rfl,fun _ _=>rfl⟩
 | k+1,ss,h=>by
  unfold XM at h;cases ht:XM m n k with
  | none=>rw [ht] at h;cases h
  | some s0=>
   rw [ht] at h;simp only at h;cases h1:Q8 m n (Z8 m.sm k) with
   | none=>rw [h1] at h;cases h
   | some t=>
    rw [h1] at h;cases h;obtain ⟨e1,e2⟩:=PM ht;refine ⟨by simpa using e1,fun j hj=> ?_⟩;rw [<-e2 j (by omega)];unfold Z8;simp [List.getD,List.getElem?_set_ne (show k ≠ j by omega)]
theorem PL {m:Z6} {n:Int} {k:Nat} : ∀ d,XM m n k=none->XM m n (k+d)=none
 | 0,h=>h
 | d+1,h=>by
  have:=PL d h;show XM m n (k+d+1)=none;unfold XM;rw [this]
def S5 (m:Z6) (n:Int) (ss:List Z2):Z6:={ m with sm:=ss,now:=m.now+n }
def S0 (m:Z6) (n:Int):Z6 × Int:=
 if ZI m then (if inB n 1 20 then (match XM m n m.sm.length with
  | none=>(m,4)
  | some ss=>if YL (S5 m n ss) then (ZJ (S5 m n ss),0) else (m,4)) else (m,3)) else (XH,3)
theorem G8 {m:Z6} (h:ZI m=true) (n:Int):ZI (S0 m n).1=true:=by
 unfold S0;rw [h];simp only [if_true]
 split
 ·split
  ·exact h
  ·split
   ·rename_i hl
    exact YR (QO hl)
   ·exact h
 ·exact h
open Go.ChangeShapes Go.WideShapes Go.ChangeAt Go.RowKit Go.Sort Go.Proofs.Tryz
set_option maxRecDepth 100000
def Tn (d:Yd):Bool:=d.1
theorem Sn (a:Option Addr) (n cap:Nat) (i:Int) (w:World):cE 132 #[.slice a n cap,.int .i64 i] w (.bool (WA n i)):=by
 by_cases h0:0<=i
 ·by_cases h1:i<(n:Int)
  all_goals
   go_enter func132,ntmps132;go_wp2_with fail;go_ret;exact ⟨Z5 (by unfold WA;simp [h0,h1]),rfl⟩
 ·go_enter func132,ntmps132
  go_wp2_with fail;go_ret;exact ⟨Z5 (by unfold WA;simp;omega),rfl⟩
theorem KN (a:Option Addr) (n cap:Nat) (i:Int) (w:World):cE 186 #[.slice a n cap,.int .i64 i] w (.bool (WA n i)):=by
 by_cases h0:0<=i
 ·by_cases h1:i<(n:Int)
  all_goals
   go_enter func186,ntmps186;go_wp2_with fail;go_ret;exact ⟨Z5 (by unfold WA;simp [h0,h1]),rfl⟩
 ·go_enter func186,ntmps186
  go_wp2_with fail;go_ret;exact ⟨Z5 (by unfold WA;simp;omega),rfl⟩
theorem I0 (a:Option Addr) (n cap:Nat) (i:Int) (w:World):cE 162 #[.slice a n cap,.int .i64 i] w (.bool (WA n i)):=by
 by_cases h0:0<=i
 ·by_cases h1:i<(n:Int)
  all_goals
   go_enter func162,ntmps162;go_wp2_with fail;go_ret;exact ⟨Z5 (by unfold WA;simp [h0,h1]),rfl⟩
 ·go_enter func162,ntmps162
  go_wp2_with fail;go_ret;exact ⟨Z5 (by unfold WA;simp;omega),rfl⟩
theorem VB (st be rk my gu lo hi hd ca ut wk:Int) (w:World):cB 131 #[.agg (I11 st be rk my gu lo hi hd ca ut wk)] w (.bool (st ==0)):=by
 go_enter func131,ntmps131;go_wp2_with fail;go_ret;exact ⟨rfl,(ba _ _)⟩
theorem Gg (st be rk my gu lo hi hd ca ut wk:Int) (w:World):cB 133 #[.agg (I11 st be rk my gu lo hi hd ca ut wk)] w (.bool (st ==1)):=by
 go_enter func133,ntmps133;go_wp2_with fail;go_ret;exact ⟨rfl,(ba _ _)⟩
theorem Rn (op:Bool) (who mk:Int) (w:World):cB 134 #[.agg #[.bool op,.int .i64 who,.int .i64 mk]] w (.bool op):=by
 go_enter func134,ntmps134;go_wp2_with fail;go_ret;exact ⟨rfl,(ba _ _)⟩
theorem IY (op:Bool) (who mk:Int) (w:World):cB 160 #[.agg #[.bool op,.int .i64 who,.int .i64 mk]] w (.bool (VK (op,who,mk))):=by
 go_enter func160,ntmps160;go_wp2_with fail;refine (Zq _ _ _ _).mono ?_;rintro e w' ⟨rfl,h9⟩;subst w';go_wp2_with fail;go_ret;exact ⟨rfl,(ba _ _)⟩
theorem I7 (st be rk my gu lo hi hd ca ut wk b:Int) (w:World):cB 78 #[.agg (I11 st be rk my gu lo hi hd ca ut wk),.int .i64 b] w (.bool (atB b (st,be,rk,my,gu,lo,hi,hd,ca,ut,wk))):=by
 by_cases h2:st=2
 ·subst h2
  go_enter func78,ntmps78;go_wp2_with fail;go_ret;exact ⟨Z5 (by unfold atB;simp),(ba _ _)⟩
 have n2:(st ==2)=false:=by simpa using h2
 by_cases h3:st=3
 ·subst h3
  go_enter func78,ntmps78;go_wp2_with fail;go_ret;exact ⟨Z5 (by unfold atB;simp),(ba _ _)⟩
 have n3:(st ==3)=false:=by simpa using h3
 go_enter func78,ntmps78;go_wp2_with fail;go_ret;exact ⟨Z5 (by unfold atB;simp [n2,n3]),(ba _ _)⟩
theorem Kl (st be rk my gu lo hi hd ca ut wk b:Int) (w:World):cB 167 #[.agg (I11 st be rk my gu lo hi hd ca ut wk),.int .i64 b] w (.bool (YM b (st,be,rk,my,gu,lo,hi,hd,ca,ut,wk))):=by
 by_cases h3:st=3
 ·subst h3
  go_enter func167,ntmps167;go_wp2_with fail;go_ret;exact ⟨Z5 (by unfold YM;simp),(ba _ _)⟩
 have n3:(st ==3)=false:=by simpa using h3
 go_enter func167,ntmps167;go_wp2_with fail;go_ret;exact ⟨Z5 (by unfold YM;simp [n3]),(ba _ _)⟩
theorem Lq (st be rk my gu lo hi hd ca ut wk b:Int) (R:Nat) (w:World) (hc:w.cell? ⟨R,0,none⟩=some (.int .i64 b)) (hR:R<w.heap.size):cB 165 #[.agg (I11 st be rk my gu lo hi hd ca ut wk),.pointer (some ⟨R,0,none⟩)] w (.bool (atB b (st,be,rk,my,gu,lo,hi,hd,ca,ut,wk))):=by
 have hne:R ≠ w.heap.size:=Vj hR;go_enter func165,ntmps165;go_wp2_with fail;refine ck (I7 st be rk my gu lo hi hd ca ut wk b _) fun w1 hb=> ?_;have Hb:=Z9 (((ZZ w.heap.size w).alloc (Z0 _) _).trans (hb.mono (by simp)));clear hb;go_wp2_with fail;go_ret;exact ⟨rfl,uh Hb⟩
theorem Pn (st be rk my gu lo hi hd ca ut wk b:Int) (R:Nat) (w:World) (hc:w.cell? ⟨R,0,none⟩=some (.int .i64 b)) (hR:R<w.heap.size):cB 166 #[.agg (I11 st be rk my gu lo hi hd ca ut wk),.pointer (some ⟨R,0,none⟩)] w (.bool (YM b (st,be,rk,my,gu,lo,hi,hd,ca,ut,wk))):=by
 have hne:R ≠ w.heap.size:=Vj hR;go_enter func166,ntmps166;go_wp2_with fail;refine ck (Kl st be rk my gu lo hi hd ca ut wk b _) fun w1 hb=> ?_;have Hb:=Z9 (((ZZ w.heap.size w).alloc (Z0 _) _).trans (hb.mono (by simp)));clear hb;go_wp2_with fail;go_ret;exact ⟨rfl,uh Hb⟩
theorem P5 (st be rk my gu lo hi hd ca ut wk:Int) (a:Option Addr) (n cap:Nat) (w:World):cB 158 #[.agg (I11 st be rk my gu lo hi hd ca ut wk),.slice a n cap] w (.bool (V8 n (st,be,rk,my,gu,lo,hi,hd,ca,ut,wk))):=by
 have hx:∀ q:Bool,Calls prog 158 #[.agg (I11 st be rk my gu lo hi hd ca ut wk),.slice a n cap] w (fun e w'=>e= .returned (.bool q)/\Below w.heap.size w w')->q=V8 n (st,be,rk,my,gu,lo,hi,hd,ca,ut,wk)->cB 158 #[.agg (I11 st be rk my gu lo hi hd ca ut wk),.slice a n cap] w (.bool (V8 n (st,be,rk,my,gu,lo,hi,hd,ca,ut,wk))):=fun q h e=>by rw [<-e];exact h
 by_cases h0:st=0
 ·subst h0
  refine hx true ?_ (by unfold V8;simp);go_enter func158,ntmps158;go_wp2_with fail;refine ck (VB 0 be rk my gu lo hi hd ca ut wk _) fun w1 hb=> ?_;have Hb:=Z9 (((ZZ w.heap.size w).alloc (Z0 _) _).trans (hb.mono (by simp)));clear hb;go_wp2_with fail;go_ret;exact ⟨rfl,uh Hb⟩
 have n0:(st ==0)=false:=by simpa using h0
 by_cases h1:gu= -1
 ·subst h1
  refine hx true ?_ (by unfold V8;simp);go_enter func158,ntmps158;go_wp2_with fail;refine (VB st be rk my (-1) lo hi hd ca ut wk _).mono ?_;rw [n0];rintro e w1 ⟨rfl,hb⟩;have c4:w1.cell? ⟨w.heap.size,4,none⟩=some (.int .i64 (-1)):=(hb.cell (p:=⟨w.heap.size,4,none⟩) (by simp)).trans (Zh _ rfl);have Hb:=Z9 (((ZZ w.heap.size w).alloc (Z0 _) _).trans (hb.mono (by simp)));clear hb;go_wp2_with fail;go_ret;exact ⟨rfl,uh Hb⟩
 have n1:(gu == -1)=false:=by simpa using h1
 refine hx (WA n gu) ?_ (by unfold V8;simp [n0,n1]);go_enter func158,ntmps158;go_wp2_with fail;refine (VB st be rk my gu lo hi hd ca ut wk _).mono ?_;rw [n0];rintro e w1 ⟨rfl,hb⟩;have c4:w1.cell? ⟨w.heap.size,4,none⟩=some (.int .i64 gu):=(hb.cell (p:=⟨w.heap.size,4,none⟩) (by simp)).trans (Zh _ rfl);have Hb:=Z9 (((ZZ w.heap.size w).alloc (Z0 _) _).trans (hb.mono (by simp)));clear hb;go_wp2_with fail;refine ck (KN a n cap gu _) fun w2 h9=> ?_;subst w2;go_wp2_with fail;go_ret;exact ⟨rfl,uh Hb⟩
theorem MU (st be rk my gu lo hi hd ca ut wk:Int) (R:Nat) (a:Option Addr) (n cap:Nat) (w:World) (hc:w.cell? ⟨R,0,none⟩=some (.slice a n cap)) (hR:R<w.heap.size):cB 157 #[.agg (I11 st be rk my gu lo hi hd ca ut wk),.pointer (some ⟨R,0,none⟩)] w (.bool (V8 n (st,be,rk,my,gu,lo,hi,hd,ca,ut,wk))):=by
 have hne:R ≠ w.heap.size:=Vj hR;go_enter func157,ntmps157;go_wp2_with fail;refine ck (P5 st be rk my gu lo hi hd ca ut wk a n cap _) fun w1 hb=> ?_;have Hb:=Z9 (((ZZ w.heap.size w).alloc (Z0 _) _).trans (hb.mono (by simp)));clear hb;go_wp2_with fail;go_ret;exact ⟨rfl,uh Hb⟩
theorem Calls.bool_of {P:Program} {f:FuncId} {args:Array Value} {w:World} {q q':Bool} (h:Calls P f args w fun e w'=>e= .returned (.bool q)/\Below w.heap.size w w') (e:q=q'):Calls P f args w fun e w'=>e= .returned (.bool q')/\Below w.heap.size w w':=by rw [<-e];exact h
theorem MD (st be rk my gu lo hi hd ca ut wk:Int) {v:Value} {ds:List Yd} {w:World} (h:UY w v ds):cB 95 #[.agg (I11 st be rk my gu lo hi hd ca ut wk),v] w (.bool (VF ds (st,be,rk,my,gu,lo,hi,hd,ca,ut,wk))):=by
 obtain ⟨a,cap,rfl,hc,hm,hr⟩:=h;have Hr:=Z9 hr;clear hr;by_cases h0:st=0
 ·subst h0
  refine Calls.bool_of (q:=true) ?_ (by unfold VF;simp);go_enter func95,ntmps95;go_wp2_with fail;refine ck (VB 0 be rk my gu lo hi hd ca ut wk _) fun w1 hb=> ?_;have Hb:=Z9 (((ZZ w.heap.size w).alloc (Z0 _) _).trans (hb.mono (by simp)));clear hb;go_wp2_with fail;go_ret;exact ⟨rfl,uh Hb⟩
 have n0:(st ==0)=false:=by simpa using h0
 cases hh:WA ds.length be
 ·refine Calls.bool_of (q:=false) ?_ (by unfold VF;simp only [n0,hh];rfl)
  have Hh:=Z9 hh;clear hh;go_enter func95,ntmps95;go_wp2_with fail;refine (VB st be rk my gu lo hi hd ca ut wk _).mono ?_;rw [n0];rintro e w1 ⟨rfl,hb⟩;have c1:w1.cell? ⟨w.heap.size,1,none⟩=some (.int .i64 be):=(hb.cell (p:=⟨w.heap.size,1,none⟩) (by simp)).trans (Zh _ rfl);have Hb:=Z9 (((ZZ w.heap.size w).alloc (Z0 _) _).trans (hb.mono (by simp)));clear hb;go_wp2_with fail;refine (Sn a ds.length cap be _).mono ?_;rw [uh Hh];rintro e w2 ⟨rfl,h9⟩;subst w2;go_wp2_with fail;go_ret;exact ⟨rfl,uh Hb⟩
 have hbe:0<=be/\be<(ds.length:Int):=by unfold WA at hh;simpa using hh
 obtain ⟨j,rfl⟩:∃ j:Nat,be=j:=⟨be.toNat,by omega⟩
 have hj:j<ds.length:=by omega
 have hj1:(j:Int)<(ds.length:Int):=by omega
 rcases uh Hr with e0 | ⟨b,off,rfl,hbw,hcl⟩
 ·rw [e0] at hj;simp at hj
 obtain ⟨t0,t1,t2⟩:=Zg hcl hj
 have hD:VF ds (st,(j:Int),rk,my,gu,lo,hi,hd,ca,ut,wk)=(st ==1 || ((Z8 ds j).1 && (Vo my j && Vt hd (Z8 ds j).2.2))):=by
  unfold VF;simp only [n0,hh,Zr,Bool.false_or,Bool.true_and]
 have HD:=Z9 hD;have Hh:=Z9 hh;clear hD hh hcl Hr;generalize Z8 ds j=d at *;obtain ⟨op,who,mk⟩:=d;simp only at t0 t1 t2;obtain ⟨qm,hqm⟩:=ZL (Vo my j);have Hm:=Z9 hqm;obtain ⟨qb,Hbd⟩:=Yt (Vt hd mk);clear hqm;refine Calls.bool_of (q:=(st ==1 || (op && (qm && qb)))) ?_ (by rw [uh HD,uh Hm,uh Hbd]);clear HD;go_enter func95,ntmps95;go_wp2_with fail;refine (VB st (j:Int) rk my gu lo hi hd ca ut wk _).mono ?_;rw [n0];rintro e w1 ⟨rfl,hb⟩;have SB:Hid (Blk w1 w.heap.size 42 (I11 st j rk my gu lo hi hd ca ut wk)):=Z9 ((Blk.new w _ _).below hb (by simp));have Hb:=Z9 (((ZZ w.heap.size w).alloc (Z0 _) _).trans (hb.mono (by simp)));rw [<-(uh Hb).cell (p:=⟨b,off+j*3,none⟩) hbw] at t0;rw [<-(uh Hb).cell (p:=⟨b,off+j*3+1,none⟩) hbw] at t1;rw [<-(uh Hb).cell (p:=⟨b,off+j*3+2,none⟩) hbw] at t2;clear hb;have s1:=(uh SB).cell (i:=1) (v:= .int .i64 j) rfl;go_wp2_with fail;refine (Sn _ ds.length cap (j:Int) _).mono ?_;rw [uh Hh];rintro e w2 ⟨rfl,h9⟩;subst w2;clear s1;have s1:=(uh SB).cell (i:=1) (v:= .int .i64 j) rfl;have hbw1:b<w1.heap.size:=Zf hbw (uh Hb).size;have hl0:=(uh SB).lt;go_upto_region 6 with fail;clear t0 t1 t2 s1;replace SB:Hid (Blk (w1.alloc (.cells #[.bool op,.int .i64 who,.int .i64 mk] 54)) w.heap.size 42 (I11 st j rk my gu lo hi hd ca ut wk)):=Z9 ((uh SB).alloc _);have DB:Hid (Blk (w1.alloc (.cells #[.bool op,.int .i64 who,.int .i64 mk] 54)) w1.heap.size 54 #[.bool op,.int .i64 who,.int .i64 mk]):=Z9 (Blk.new w1 _ _);replace Hb:Hid (Below w.heap.size w (w1.alloc (.cells #[.bool op,.int .i64 who,.int .i64 mk] 54))):=Z9 ((uh Hb).alloc (uh Hb).size _);generalize w1.alloc (.cells #[.bool op,.int .i64 who,.int .i64 mk] 54)=W at *;generalize w1.heap.size=db at *;obtain ⟨s0,s1,s2,s3,s4,s5,s6,s7,s8,s9,s10⟩:=(uh SB).c11;go_wp2_with fail;refine ck (Gg st (j:Int) rk my gu lo hi hd ca ut wk _) fun w3 hb=> ?_;replace SB:=bl SB hb;replace DB:=bl DB hb;replace Hb:=Z9 ((uh Hb).trans (hb.mono (uh Hb).size));clear hb s0 s1 s2 s3 s4 s5 s6 s7 s8 s9 s10;by_cases h1:st=1
 ·subst h1
  go_wp2_with fail;go_ret;exact ⟨Z5 (by simp),uh Hb⟩
 have n1:(st ==1)=false:=by simpa using h1
 rw [n1];have g0:=(uh DB).cell (i:=0) (v:= .bool op) rfl;have g1:=(uh DB).cell (i:=1) (v:= .int .i64 who) rfl;have g2:=(uh DB).cell (i:=2) (v:= .int .i64 mk) rfl;go_wp2_with fail;refine ck (Rn op who mk _) fun w4 hb=> ?_;replace SB:=bl SB hb;replace DB:=bl DB hb;replace Hb:=Z9 ((uh Hb).trans (hb.mono (uh Hb).size));clear hb g0 g1 g2;cases op
 ·go_wp2_with fail
  go_ret;exact ⟨Z5 (by simp [h1]),uh Hb⟩
 have s1:=(uh SB).cell (i:=1) (v:= .int .i64 j) rfl;have s3:=(uh SB).cell (i:=3) (v:= .int .i64 my) rfl;have s7:=(uh SB).cell (i:=7) (v:= .int .i64 hd) rfl;have g2:=(uh DB).cell (i:=2) (v:= .int .i64 mk) rfl;go_wp2_with fail;refine (WB my (j:Int) _).mono ?_;rw [uh Hm];rintro e w5 ⟨rfl,h9⟩;subst w5;cases qm
 ·go_wp2_with fail
  go_ret;exact ⟨Z5 (by simp [h1]),uh Hb⟩
 go_wp2_with fail;refine (NH hd mk _).mono ?_;rw [uh Hbd];rintro e w6 ⟨rfl,hb⟩;replace Hb:=Z9 ((uh Hb).trans (hb.mono (uh Hb).size));clear hb;go_wp2_with fail;go_ret;exact ⟨Z5 (by simp [h1]),uh Hb⟩
theorem Cf {w:World} {v:Value} {ss:List Z2} (h:Xy w v ss) {f:FuncId} {cap:Array Value} {av:Int->Int->Int->Int->Int->Int->Int->Int->Int->Int->Int->Array Value} {p:Z2->Bool} (hp:∀ (st be rk my gu lo hi hd ca ut wk:Int) {W:World},Below w.heap.size w W->Calls prog f (av st be rk my gu lo hi hd ca ut wk) W fun e w'=>e= .returned (.bool (p (st,be,rk,my,gu,lo,hi,hd,ca,ut,wk)))/\Below W.heap.size W w')
  (s:∀ (p:Z2->Bool),Xy w v ss->Hid (∀ (st be rk my gu lo hi hd ca ut wk:Int) {W:World},Below w.heap.size w W->Calls prog f (av st be rk my gu lo hi hd ca ut wk) W fun e w'=>e= .returned (.bool (p (st,be,rk,my,gu,lo,hi,hd,ca,ut,wk)))/\Below W.heap.size W w')->cB 93 #[v,.func (Fn.func f) #[] cap] w (.bool (Yl p ss ss.length)):=by
  intro p h Hp;obtain ⟨a,cap,rfl,hc,hm,hr⟩:=h;have Hr:=Z9 hr;clear hr;go_enter func93,ntmps93;go_wp2_with fail
  go_loopw [9] (fun i wr=> ∃ k:Nat,k<=ss.length/\i= .int .i64 k/\Yl p ss k=true/\Below w.heap.size w wr) (fun i _=>ss.length-(intOf i).toNat)
  case atStart=>exact ⟨0,ZC _,rfl,rfl,ZZ _ _⟩
  case round=>
   obtain ⟨k,hk,rfl,hst,hb0⟩:=hrel;have Hst:=Z9 hst;have BB:=Z9 hb0;by_cases hlt:k<ss.length
   ·have hlt1:(k:Int)<(ss.length:Int):=by omega
    rcases uh Hr with e0 | ⟨b,off,rfl,hbw,hcl⟩
    ·rw [e0] at hlt;simp at hlt
    obtain ⟨d0,d1,d2,d3,d4,d5,d6,d7,d8,d9,d10⟩:=ZB hcl hlt;rw [<-hb0.cell (p:=⟨b,off+k*11,none⟩) hbw] at d0;rw [<-hb0.cell (p:=⟨b,off+k*11+1,none⟩) hbw] at d1;rw [<-hb0.cell (p:=⟨b,off+k*11+2,none⟩) hbw] at d2;rw [<-hb0.cell (p:=⟨b,off+k*11+3,none⟩) hbw] at d3;rw [<-hb0.cell (p:=⟨b,off+k*11+4,none⟩) hbw] at d4;rw [<-hb0.cell (p:=⟨b,off+k*11+5,none⟩) hbw] at d5;rw [<-hb0.cell (p:=⟨b,off+k*11+6,none⟩) hbw] at d6;rw [<-hb0.cell (p:=⟨b,off+k*11+7,none⟩) hbw] at d7;rw [<-hb0.cell (p:=⟨b,off+k*11+8,none⟩) hbw] at d8;rw [<-hb0.cell (p:=⟨b,off+k*11+9,none⟩) hbw] at d9;rw [<-hb0.cell (p:=⟨b,off+k*11+10,none⟩) hbw] at d10;have HU:=Z9 (fun hh=>Iq (p:=p) (xs:=ss) (k:=k) hst hh);have HN:=Z9 (fun hh=>Ip (p:=p) (xs:=ss) hlt hh);clear hcl hst hb0;generalize Z8 ss k=s at *;obtain ⟨st,be,rk,my,gu,lo,hi,hd,ca,ut,wk⟩:=s;simp only at d0 d1 d2 d3 d4 d5 d6 d7 d8 d9 d10;have hbr:b<wr.heap.size:=Zf hbw (uh BB).size;go_wp2_with fail;clear d0 d1 d2 d3 d4 d5 d6 d7 d8 d9 d10;obtain ⟨q,Hq⟩:=Yt (p (st,be,rk,my,gu,lo,hi,hd,ca,ut,wk));have hba:Below wr.heap.size wr (wr.alloc (.cells (I11 st be rk my gu lo hi hd ca ut wk) 42)):=ba _ _;replace BB:=bt BB hba;clear hba;refine (uh Hp st be rk my gu lo hi hd ca ut wk (uh BB)).mono ?_;rw [uh Hq];rintro e w1 ⟨rfl,hb⟩;replace BB:=bt BB hb;clear hb;cases q
    ·go_wp2_with fail
     go_ret;exact ⟨Z5 (uh HN (uh Hq)).symm,uh BB⟩
    ·go_wp2_with fail
     go_roundw
     case rel=>exact ⟨k+1,by omega,by go_num,uh HU (uh Hq),uh BB⟩
     case measure=>exact ms
   ·obtain rfl:k=ss.length:=by omega
    go_wp2_with fail;go_ret
    exact ⟨Z5 (uh Hst).symm,uh BB⟩):cB 93 #[v,.func (Fn.func f) #[] cap] w (.bool (Yl p ss ss.length)):=s p h (Z9 hp)
theorem DN {w:World} {v:Value} {ss:List Z2} (h:Xy w v ss):cB 93 #[v,.func (Fn.func 156) #[] #[]] w (.bool (Yl Zt ss ss.length)):=Cf h (fun st be rk my gu lo hi hd ca ut wk _ hb=>Pa st be rk my gu lo hi hd ca ut wk _)
theorem Kx {w:World} {v:Value} {ss:List Z2} {R n gc:Nat} {ga:Option Addr} (h:Xy w v ss) (hc0:w.cell? ⟨R,0,none⟩=some (.slice ga n gc)) (hR:R<w.heap.size):cB 93 #[v,.func (Fn.func 157) #[] #[.pointer (some ⟨R,0,none⟩)]] w (.bool (Yl (V8 n) ss ss.length)):=Cf h (fun st be rk my gu lo hi hd ca ut wk _ hb=>MU st be rk my gu lo hi hd ca ut wk R ga n gc _ (((hb.cell (p:=⟨R,0,none⟩) hR).trans hc0)) (Zf hR hb.size))
theorem In {w:World} {v:Value} {ss:List Yd} (h:UY w v ss):cB 159 #[v,.func (Fn.func 160) #[] #[]] w (.bool (Yl VK ss ss.length)):=by
 obtain ⟨a,cap,rfl,hc,hm,hr⟩:=h;have Hr:=Z9 hr;clear hr;go_enter func159,ntmps159;go_wp2_with fail
 go_loopw [9] (fun i wr=> ∃ k:Nat,k<=ss.length/\i= .int .i64 k/\Yl VK ss k=true/\Below w.heap.size w wr) (fun i _=>ss.length-(intOf i).toNat)
 case atStart=>exact ⟨0,ZC _,rfl,rfl,ZZ _ _⟩
 case round=>
  obtain ⟨k,hk,rfl,hst,hb0⟩:=hrel;have Hst:=Z9 hst;have BB:=Z9 hb0;by_cases hlt:k<ss.length
  ·have hlt1:(k:Int)<(ss.length:Int):=by omega
   rcases uh Hr with e0 | ⟨b,off,rfl,hbw,hcl⟩
   ·rw [e0] at hlt;simp at hlt
   obtain ⟨d0,d1,d2⟩:=Zg hcl hlt;rw [<-hb0.cell (p:=⟨b,off+k*3,none⟩) hbw] at d0;rw [<-hb0.cell (p:=⟨b,off+k*3+1,none⟩) hbw] at d1;rw [<-hb0.cell (p:=⟨b,off+k*3+2,none⟩) hbw] at d2;have HU:=Z9 (fun hh=>Iq (p:=VK) (xs:=ss) (k:=k) hst hh);have HN:=Z9 (fun hh=>Ip (p:=VK) (xs:=ss) hlt hh);clear hcl hst hb0;generalize Z8 ss k=s at *;obtain ⟨op,who,mk⟩:=s;simp only at d0 d1 d2;have hbr:b<wr.heap.size:=Zf hbw (uh BB).size;go_wp2_with fail;clear d0 d1 d2;obtain ⟨q,Hq⟩:=Yt (VK (op,who,mk));have hba:Below wr.heap.size wr (wr.alloc (.cells #[.bool op,.int .i64 who,.int .i64 mk] 54)):=ba _ _;replace BB:=bt BB hba;clear hba;refine (IY op who mk _).mono ?_;rw [uh Hq];rintro e w1 ⟨rfl,hb⟩;replace BB:=bt BB hb;clear hb;cases q
   ·go_wp2_with fail
    go_ret;exact ⟨Z5 (uh HN (uh Hq)).symm,uh BB⟩
   ·go_wp2_with fail
    go_roundw
    case rel=>exact ⟨k+1,by omega,by go_num,uh HU (uh Hq),uh BB⟩
    case measure=>exact ms
  ·obtain rfl:k=ss.length:=by omega
   go_wp2_with fail;go_ret;exact ⟨Z5 (uh Hst).symm,uh BB⟩
theorem FQ {w:World} {v:Value} {ss:List Z2} (h:Xy w v ss) (hl:ss.length<=1000) {f:FuncId} {cap:Array Value} {av:Int->Int->Int->Int->Int->Int->Int->Int->Int->Int->Int->Array Value} {p:Z2->Bool} (hp:∀ (st be rk my gu lo hi hd ca ut wk:Int) {W:World},Below w.heap.size w W->Calls prog f (av st be rk my gu lo hi hd ca ut wk) W fun e w'=>e= .returned (.bool (p (st,be,rk,my,gu,lo,hi,hd,ca,ut,wk)))/\Below W.heap.size W w')
  (s:∀ (p:Z2->Bool),Xy w v ss->ss.length<=1000->Hid (∀ (st be rk my gu lo hi hd ca ut wk:Int) {W:World},Below w.heap.size w W->Calls prog f (av st be rk my gu lo hi hd ca ut wk) W fun e w'=>e= .returned (.bool (p (st,be,rk,my,gu,lo,hi,hd,ca,ut,wk)))/\Below W.heap.size W w')->Calls prog 164 #[v,.func (Fn.func f) #[] cap] w fun e w'=> ∃ v',e= .returned v'/\NumsAt w.heap.size w' v' (ZO p ss ss.length)/\Below w.heap.size w w':=by
  intro p h hl Hp;obtain ⟨a,cap,rfl,hc,hm,hr⟩:=h;have Hr:=Z9 hr;clear hr;go_enter func164,ntmps164;go_wp2_with fail
  go_loopw [5,11] (fun l i wr=> ∃ k:Nat,k<=ss.length/\i= .int .i64 k/\NumsAt w.heap.size wr l (ZO p ss k)/\Below w.heap.size w wr) (fun _ i _=>ss.length-(intOf i).toNat)
  case atStart=>exact ⟨0,ZC _,rfl,YW rfl (Z0 _),(ba _ _)⟩
  case round=>
   obtain ⟨k,hk,rfl,hln,hb0⟩:=hrel;obtain ⟨la,lc,rfl⟩:=RecAt.shape hln;have HL:=Z9 hln;have BB:=Z9 hb0;have hfl:=Uy p ss k;clear hln;by_cases hlt:k<ss.length
   ·have hlt1:(k:Int)<(ss.length:Int):=by omega
    rcases uh Hr with e0 | ⟨b,off,rfl,hbw,hcl⟩
    ·rw [e0] at hlt;simp at hlt
    obtain ⟨d0,d1,d2,d3,d4,d5,d6,d7,d8,d9,d10⟩:=ZB hcl hlt;rw [<-hb0.cell (p:=⟨b,off+k*11,none⟩) hbw] at d0;rw [<-hb0.cell (p:=⟨b,off+k*11+1,none⟩) hbw] at d1;rw [<-hb0.cell (p:=⟨b,off+k*11+2,none⟩) hbw] at d2;rw [<-hb0.cell (p:=⟨b,off+k*11+3,none⟩) hbw] at d3;rw [<-hb0.cell (p:=⟨b,off+k*11+4,none⟩) hbw] at d4;rw [<-hb0.cell (p:=⟨b,off+k*11+5,none⟩) hbw] at d5;rw [<-hb0.cell (p:=⟨b,off+k*11+6,none⟩) hbw] at d6;rw [<-hb0.cell (p:=⟨b,off+k*11+7,none⟩) hbw] at d7;rw [<-hb0.cell (p:=⟨b,off+k*11+8,none⟩) hbw] at d8;rw [<-hb0.cell (p:=⟨b,off+k*11+9,none⟩) hbw] at d9;rw [<-hb0.cell (p:=⟨b,off+k*11+10,none⟩) hbw] at d10;have HY:=Z9 (fun hh=>Yg (p:=p) (xs:=ss) (k:=k) hh);have HN:=Z9 (fun hh=>Xq (p:=p) (xs:=ss) (k:=k) hh);clear hcl hb0;generalize Z8 ss k=s at *;obtain ⟨st,be,rk,my,gu,lo,hi,hd,ca,ut,wk⟩:=s;simp only at d0 d1 d2 d3 d4 d5 d6 d7 d8 d9 d10;have hbr:b<wr.heap.size:=Zf hbw (uh BB).size;go_wp2_with fail;clear d0 d1 d2 d3 d4 d5 d6 d7 d8 d9 d10;obtain ⟨q,Hq⟩:=Yt (p (st,be,rk,my,gu,lo,hi,hd,ca,ut,wk));have hba:Below wr.heap.size wr (wr.alloc (.cells (I11 st be rk my gu lo hi hd ca ut wk) 42)):=ba _ _;replace BB:=bt BB hba;replace HL:=Z9 (RecAt.later (uh HL) hba);clear hba;refine (uh Hp st be rk my gu lo hi hd ca ut wk (uh BB)).mono ?_;rw [uh Hq];rintro e w1 ⟨rfl,hb⟩;replace BB:=bt BB hb;replace HL:=Z9 (RecAt.later (uh HL) hb);clear hb;cases q
    ·go_wp2_with fail
     go_roundw
     case rel=>exact ⟨k+1,by omega,by go_num,by rw [uh HN (uh Hq)];exact uh HL,uh BB⟩
     case measure=>exact ms
    ·have hsx:=(uh BB).size
     go_wp2_with (at_builtin;refine ZH tyN rfl (.tmp 19) (.tmp 21) 87 underlying87 rfl w.heap.size _ _ (ZO p ss k) [(k:Int)] rfl rfl (RecAt.later (uh HL) ((ba _ _))) (Vs (k:Int) rfl (Z0 _) (by omega)) (by simp;omega) (by simp;omega) ?_;intro u9 w9 hp9 hg9 hat9;have HP9:=Z9 hp9;have HG9:=Z9 hg9;clear hp9 hg9 hat9)
     have hgo:∀ i,(Value.slice la (ZO p ss k).length lc).ownBlock=some i->w.heap.size<=i:=fun i e=>(RecAt.lt (uh HL) e).1;have hb9:Below w.heap.size w1 w9:=((ZZ _ _).alloc hsx _).trans ((ZZ _ _).grown (uh HG9) (by simp;omega) hgo);have hb8:=(uh BB).trans hb9;go_wp2_with fail;go_roundw
     case rel=>exact ⟨k+1,by omega,by go_num,by rw [uh HY (uh Hq)];exact uh HP9,hb8⟩
     case measure=>exact ms
   ·obtain rfl:k=ss.length:=by omega
    go_wp2_with fail;go_ret
    exact ⟨_,rfl,uh HL,uh BB⟩):Calls prog 164 #[v,.func (Fn.func f) #[] cap] w fun e w'=> ∃ v',e= .returned v'/\NumsAt w.heap.size w' v' (ZO p ss ss.length)/\Below w.heap.size w w':=s p h hl (Z9 hp)
theorem Kk {w:World} {v:Value} {ss:List Z2} {R:Nat} {bn:Int} (h:Xy w v ss) (hl:ss.length<=1000) (hc0:w.cell? ⟨R,0,none⟩=some (.int .i64 bn)) (hR:R<w.heap.size):Calls prog 164 #[v,.func (Fn.func 165) #[] #[.pointer (some ⟨R,0,none⟩)]] w fun e w'=> ∃ v',e= .returned v'/\NumsAt w.heap.size w' v' (ZO (atB bn) ss ss.length)/\Below w.heap.size w w':=FQ h hl (fun st be rk my gu lo hi hd ca ut wk _ hb=>Lq st be rk my gu lo hi hd ca ut wk bn R _ (((hb.cell (p:=⟨R,0,none⟩) hR).trans hc0)) (Zf hR hb.size))
theorem OS {w:World} {v:Value} {ss:List Z2} {R:Nat} {bn:Int} (h:Xy w v ss) (hl:ss.length<=1000) (hc0:w.cell? ⟨R,0,none⟩=some (.int .i64 bn)) (hR:R<w.heap.size):Calls prog 164 #[v,.func (Fn.func 166) #[] #[.pointer (some ⟨R,0,none⟩)]] w fun e w'=> ∃ v',e= .returned v'/\NumsAt w.heap.size w' v' (ZO (YM bn) ss ss.length)/\Below w.heap.size w w':=FQ h hl (fun st be rk my gu lo hi hd ca ut wk _ hb=>Pn st be rk my gu lo hi hd ca ut wk bn R _ (((hb.cell (p:=⟨R,0,none⟩) hR).trans hc0)) (Zf hR hb.size))
theorem M6 {w:World} {v:Value} {ss:List Yd} (h:UY w v ss) (hl:ss.length<=1000):Calls prog 161 #[v,.func (Fn.func 134) #[] #[]] w fun e w'=> ∃ v',e= .returned v'/\NumsAt w.heap.size w' v' (ZO Tn ss ss.length)/\Below w.heap.size w w':=by
 obtain ⟨a,cap,rfl,hc,hm,hr⟩:=h;have Hr:=Z9 hr;clear hr;go_enter func161,ntmps161;go_wp2_with fail
 go_loopw [5,11] (fun l i wr=> ∃ k:Nat,k<=ss.length/\i= .int .i64 k/\NumsAt w.heap.size wr l (ZO Tn ss k)/\Below w.heap.size w wr) (fun _ i _=>ss.length-(intOf i).toNat)
 case atStart=>exact ⟨0,ZC _,rfl,YW rfl (Z0 _),(ba _ _)⟩
 case round=>
  obtain ⟨k,hk,rfl,hln,hb0⟩:=hrel;obtain ⟨la,lc,rfl⟩:=RecAt.shape hln;have HL:=Z9 hln;have BB:=Z9 hb0;have hfl:=Uy Tn ss k;clear hln;by_cases hlt:k<ss.length
  ·have hlt1:(k:Int)<(ss.length:Int):=by omega
   rcases uh Hr with e0 | ⟨b,off,rfl,hbw,hcl⟩
   ·rw [e0] at hlt;simp at hlt
   obtain ⟨d0,d1,d2⟩:=Zg hcl hlt;rw [<-hb0.cell (p:=⟨b,off+k*3,none⟩) hbw] at d0;rw [<-hb0.cell (p:=⟨b,off+k*3+1,none⟩) hbw] at d1;rw [<-hb0.cell (p:=⟨b,off+k*3+2,none⟩) hbw] at d2;have HY:=Z9 (fun hh=>Yg (p:=Tn) (xs:=ss) (k:=k) hh);have HN:=Z9 (fun hh=>Xq (p:=Tn) (xs:=ss) (k:=k) hh);clear hcl hb0;generalize Z8 ss k=s at *;obtain ⟨op,who,mk⟩:=s;simp only at d0 d1 d2;have hbr:b<wr.heap.size:=Zf hbw (uh BB).size;go_wp2_with fail;clear d0 d1 d2;obtain ⟨q,Hq⟩:=Yt (Tn (op,who,mk));have hba:Below wr.heap.size wr (wr.alloc (.cells #[.bool op,.int .i64 who,.int .i64 mk] 54)):=ba _ _;replace BB:=bt BB hba;replace HL:=Z9 (RecAt.later (uh HL) hba);clear hba;refine ck (Calls.bool_of (Rn op who mk _) (uh Hq)) fun w1 hb=> ?_;replace BB:=bt BB hb;replace HL:=Z9 (RecAt.later (uh HL) hb);clear hb;cases q
   ·go_wp2_with fail
    go_roundw
    case rel=>exact ⟨k+1,by omega,by go_num,by rw [uh HN (uh Hq)];exact uh HL,uh BB⟩
    case measure=>exact ms
   ·have hsx:=(uh BB).size
    go_wp2_with (at_builtin;refine ZH tyN rfl (.tmp 19) (.tmp 21) 87 underlying87 rfl w.heap.size _ _ (ZO Tn ss k) [(k:Int)] rfl rfl (RecAt.later (uh HL) ((ba _ _))) (Vs (k:Int) rfl (Z0 _) (by omega)) (by simp;omega) (by simp;omega) ?_;intro u9 w9 hp9 hg9 hat9;have HP9:=Z9 hp9;have HG9:=Z9 hg9;clear hp9 hg9 hat9)
    have hgo:∀ i,(Value.slice la (ZO Tn ss k).length lc).ownBlock=some i->w.heap.size<=i:=fun i e=>(RecAt.lt (uh HL) e).1;have hb9:Below w.heap.size w1 w9:=((ZZ _ _).alloc hsx _).trans ((ZZ _ _).grown (uh HG9) (by simp;omega) hgo);have hb8:=(uh BB).trans hb9;go_wp2_with fail;go_roundw
    case rel=>exact ⟨k+1,by omega,by go_num,by rw [uh HY (uh Hq)];exact uh HP9,hb8⟩
    case measure=>exact ms
  ·obtain rfl:k=ss.length:=by omega
   go_wp2_with fail;go_ret;exact ⟨_,rfl,uh HL,uh BB⟩
set_option linter.unusedSimpArgs false
set_option maxRecDepth 100000
theorem Ob {B g:Nat} {w:World} (hg:g=w.heap.size) (hB:B<=g):OwnHall B (w.alloc (.cells #[] 78)) (.slice (some ⟨g,0,none⟩) 0 0) []:=by
 subst hg;exact ⟨⟨by simp [SH],.inr ⟨_,0,#[],rfl,hB,heap_alloc_new w _,Z0 _,ZC _,by simp,by simp [SH]⟩⟩,fun _ h=>(by cases h),fun _ h=>(by cases h),List.Pairwise.nil⟩
theorem F5 {w:World} {v:Value} {ps:List Z4} (h:IsPaces w v ps) (hl:ps.length<=1000):Calls prog 102 #[v] w fun e w'=> ∃ v',e= .returned v'/\PacesAt w.heap.size w' v' ps/\Below w.heap.size w w':=by
 have HR:=Z9 (IsPaces.rec (h.below ((ZZ _ _).alloc (Z0 _) (.cells #[] 102))));obtain ⟨a,cap,rfl,hc,hm,hr⟩:=h;clear hr;go_enter func102,ntmps102;go_wp2_with (at_builtin;refine ZH DG rfl (.tmp 3) (.tmp 4) 116 underlying116 rfl w.heap.size _ _ [] ps rfl rfl (YW rfl (Z0 _)) (uh HR) (by simp;omega) (by simp) ?_;intro u9 w9 hp9 hg9 hat9;rw [List.nil_append] at hp9;have HP9:=Z9 hp9;have HG9:=Z9 hg9;clear hp9 hg9 hat9)
 have hb9:Below w.heap.size w w9:=((ba _ _)).trans ((ZZ _ _).grown (uh HG9) (by simp) (fun i e=>by cases e;exact Z0 _));go_wp2_with fail;go_ret;exact ⟨_,rfl,uh HP9,hb9⟩
theorem Nq {w:World} {v:Value} {rs:List ZW} (h:IsRooms w v rs) (hl:rs.length<=1000) (hp:∀ r ∈ rs,r.2.length<=1000) :
  Calls prog 59 #[.agg #[v]] w fun e w'=> ∃ v' qs,e= .returned (.agg #[v'])/\qs.map (·.1)=rs/\OwnHall w.heap.size w' v' qs/\Below w.heap.size w w':=by
 obtain ⟨a,cap,rfl,hc,hm,hr⟩:=h;have Hr:=Z9 hr;have HP:=Z9 hp;clear hr hp;go_enter func59,ntmps59;go_wp2_with fail
 go_loopw [3,10] (fun u i wr=> ∃ (k:Nat) (qs:List (ZW × Value)) (ua:Option Addr) (uc:Nat),k<=rs.length/\i= .int .i64 k/\u= .slice ua k uc/\Blk wr (w.heap.size+1) 26 #[.slice none 0 0]/\OwnHall (w.heap.size+2) wr (.slice ua k uc) qs/\qs.map (·.1)=rs.take k/\Below w.heap.size w wr) (fun _ i _=>rs.length-(intOf i).toNat)
 case atStart=>
  refine ⟨0,[],_,_,ZC _,rfl,rfl,?_,Ob (by simp) (by simp),rfl,(((ba _ _)).alloc (by simp) _).alloc (by simp;omega) _⟩;have k:=Blk.new (w.alloc (.cells #[.slice a rs.length cap] 26)) 26 #[.slice none 0 0];rw [Yy] at k;exact k.alloc _
 case round=>
  obtain ⟨k,qs,ua,uc,hk,rfl,rfl,kr,ho,hq,hb⟩:=hrel;have hql:qs.length=k:=by have:=congrArg List.length hq;simp at this;omega
  have Hql:=Z9 hql;clear hql;have Kr:=Z9 kr;have Ho:=Z9 ho;have Hq:=Z9 hq;have Hb:=Z9 hb;have hsz:=kr.lt;by_cases hlt:k<rs.length
  ·have hlt1:(k:Int)<(rs.length:Int):=by omega
   rcases uh Hr with e0 | ⟨b,off,rfl,hbw,hcl⟩
   ·rw [e0] at hlt;simp at hlt
   obtain ⟨c0,pv,c1,hpv⟩:=hcl k hlt;rw [<-hb.cell (p:=⟨b,off+k*2,none⟩) hbw] at c0;rw [<-hb.cell (p:=⟨b,off+k*2+1,none⟩) hbw] at c1;have Hpv:=Z9 (hpv.below (hb.mono (Z0 _)));have hpl:=uh HP (ZR rs k) (by unfold ZR;simp [List.getD,hlt]);have Htk:Hid (rs.take (k+1)=rs.take k++[ZR rs k]):=Z9 (by rw [List.take_succ_eq_append_getElem hlt];unfold ZR;simp [List.getD,hlt]);generalize ZR rs k=r at *;obtain ⟨n,ps⟩:=r;simp only at c0 hpl hpv;obtain ⟨pa,pc,rfl,_,_,_⟩:=hpv;have hbw':b<wr.heap.size:=by have:=hb.size;omega
   clear hcl kr ho hq hb;go_wp2_with fail;clear c0 c1;have hba:Below wr.heap.size wr (wr.alloc (.cells #[.int .i64 n,.slice pa ps.length pc] 78)):=ba _ _;have KB:Hid (Blk (wr.alloc (.cells #[.int .i64 n,.slice pa ps.length pc] 78)) wr.heap.size 78 #[.int .i64 n,.slice pa ps.length pc]):=Z9 (Blk.new wr _ _);replace Kr:=bl Kr hba;have HLB:Hid (∀ i,(Value.slice ua k uc).ownBlock=some i->i<wr.heap.size):=Z9 (fun i e=>((uh Ho).lt (.inl e)).2);replace Ho:=Z9 ((uh Ho).later hba);replace Hb:=Z9 ((uh Hb).trans (hba.mono (uh Hb).size));replace Hpv:=Z9 ((uh Hpv).below hba);have hsz2:w.heap.size+2<=(wr.alloc (.cells #[.int .i64 n,.slice pa ps.length pc] 78)).heap.size:=by have:=(uh Kr).lt;simp at this ⊢;omega
   clear hba;generalize wr.alloc (.cells #[.int .i64 n,.slice pa ps.length pc] 78)=X at *;generalize wr.heap.size=rb at *;have s0:=(uh KB).cell (i:=0) (v:= .int .i64 n) rfl;have s1:=(uh KB).cell (i:=1) (v:= .slice pa ps.length pc) rfl;refine ZK (S:=fun w'=>w'.cell? ⟨rb,0,none⟩=some (.int .i64 n)/\w'.cell? ⟨rb,1,none⟩=some (.slice pa ps.length pc)) (by kernel_rfl) (WN _ _) (by kernel_rfl) ⟨s0,s1⟩ (fun hHeld=> ?_);simp only [WO,WR,YN,Yx,Nat.zero_add,Nat.reduceAdd]
   iterate 5 refine tz ?_
   refine rd 5 rfl (fun K hK=> ?_);go_simp;refine (F5 ((uh Hpv).below (ZZ _ _).drew) hpl).mono ?_;rintro e9 w4 ⟨v4,rfl,hp4,hb4⟩;obtain ⟨pa4,pc4,rfl⟩:=PacesAt.shape hp4;have X4:Below X.heap.size X w4:=(ZZ X.heap.size X).drew.trans hb4;have HO4:Hid (PacesAt X.heap.size w4 (.slice pa4 ps.length pc4) ps):=Z9 hp4;have HX4:=Z9 X4;have hz4:=X4.size;have t0:=(X4.cell (p:=⟨rb,0,none⟩) (uh KB).lt).trans s0;have t1:=(X4.cell (p:=⟨rb,1,none⟩) (uh KB).lt).trans s1;clear hp4 hb4 X4;refine hK.out _ _ ⟨t0,t1⟩ (fun hHeld=> ?_);clear hK K
   (try simp only [Act.put,sA,sZ,sS])
   refine tp 6 ?_;have KB5:=((uh KB).below (uh HX4) (uh KB).lt).alloc (.cells #[.int .i64 n,.slice pa4 ps.length pc4] 78);have u0:=KB5.cell (i:=0) (v:= .int .i64 n) rfl;have u1:=KB5.cell (i:=1) (v:= .slice pa ps.length pc) rfl;refine rd 7 rfl (fun K hK=> ?_);go_simp;refine hK.out _ _ ⟨u0,u1⟩ (fun hHeld=> ?_);clear hK K
   (try simp only [Act.put,sA,sZ,sS])
   obtain ⟨v5,w5,hrun5,hown5,hg5,hat5⟩:=SW (w:=w4.alloc (.cells #[.int .i64 n,.slice pa4 ps.length pc4] 78)) (t:=24) (ty:=24) (base:=w.heap.size+2) (v:= .slice ua k uc) (n:=k) (xs:=SH qs) underlying24 (World.ownsRow.alloc (by have h9:=((uh Ho).later (uh HX4)).row;rw [uh Hql] at h9;exact h9) _) (g:=w4.heap.size) (c:=1) (Zh w4 (i:=0) rfl) (Zh w4 (i:=1) rfl) rfl (by omega) (by simp;omega);obtain ⟨a5,c5,rfl⟩:=LW hown5;have hn5:∀ i,(Value.slice ua k uc).ownBlock=some i->w.heap.size+2<=i/\i<X.heap.size:=fun i e=>(uh Ho).lt (.inl e);have hrbX:=(uh KB).lt;have RB:Hid (∀ i,(Value.slice ua k uc).ownBlock=some i->i ≠ rb):=Z9 (fun i e e2=>by have:=uh HLB i e;omega);have KB6:=KB5.same (w':=w5) (hg5.block _ KB5.lt (fun e=>uh RB _ e.symm rfl));have y0:=KB6.cell (i:=0) (v:= .int .i64 n) rfl;have y1:=KB6.cell (i:=1) (v:= .slice pa ps.length pc) rfl;have HO5:=Z9 hown5;have HG5:=Z9 hg5;have HA5:=Z9 hat5;have R5:=Z9 hrun5
   have X5:Hid (Below (w.heap.size+2) X w5):=Z9 (by
    have q1:Below X.heap.size X w4:=uh HX4;have q2:Below w4.heap.size w4 (w4.alloc (.cells #[.int .i64 n,.slice pa4 ps.length pc4] 78)):=ba _ _;have q3:Below (w.heap.size+2) (w4.alloc (.cells #[.int .i64 n,.slice pa4 ps.length pc4] 78)) w5:=(ZZ _ _).grown (uh HG5) (by have:=q1.size;simp;omega) (fun i e=>((uh Ho).lt (.inl e)).1)
    exact ((q1.mono (by omega)).trans (q2.mono (by have:=q1.size;omega))).trans q3)
   have hp5:OwnHall (w.heap.size+2) w5 (.slice a5 (k+1) c5) (qs++[((n,ps),.slice pa4 ps.length pc4)]):=by
    have q1:OwnHall (w.heap.size+2) w4 (.slice ua k uc) qs:=(uh Ho).later (uh HX4);have q2:PacesAt X.heap.size w4 (.slice pa4 ps.length pc4) ps:=uh HO4;have q3:PacesAt (w.heap.size+2) w4 (.slice pa4 ps.length pc4) ps:=q2.mono (by omega);refine OwnHall.push (w:=w4) (w1:=w5) (v:= .slice ua k uc) (o:= .cells #[.int .i64 n,.slice pa4 ps.length pc4] 78) q1 q3 ?_ ?_ ?_ (uh HG5) (uh HA5)
    ·intro b' e e'
     have h8:=(q2.lt e).1;have h9:=((uh Ho).lt (.inl e')).2;omega
    ·intro q hq' b' e e'
     have h8:=(q2.lt e').1;have h9:=((uh Ho).lt (.inr ⟨q,hq',e⟩)).2;omega
    ·rw [uh Hql];exact uh HO5
   have HP5:=Z9 hp5;clear hp5 hown5 hg5 hat5 hrun5 KB5 KB6;refine rd 8 rfl (fun K hK=> ?_);refine Wx rfl (.tmp 14) (.tmp 21) 24 rfl rfl rfl (uh R5) ?_;refine hK.out _ _ ⟨y0,y1⟩ (fun hHeld=> ?_);clear hK K
   (try simp only [Act.put,sA,sZ,sS])
   refine wpAnyH_done (by kernel_rfl) ?_ _;refine Zu rfl rfl ?_;go_simp;clear hHeld;go_wp2_with fail;go_roundw
   case rel=>
    exact ⟨k+1,qs++[((n,ps),.slice pa4 ps.length pc4)],a5,c5,by omega,by go_num,rfl,(uh Kr).below (uh X5) (by omega),uh HP5,by rw [List.map_append,uh Hq,uh Htk];rfl,(uh Hb).trans ((uh X5).mono (by omega))⟩
   case measure=>exact ms
  ·obtain rfl:k=rs.length:=by omega
   have r0:=kr.cell (i:=0) rfl;have r1:=kr.free 0;go_wp2_with fail;rw [List.take_length] at hq;refine ZE (v:= .agg #[.slice ua rs.length uc]) (by simp [results,results59,go_sem, *]) rfl ⟨_,qs,rfl,hq,?_,?_⟩
   ·exact (ho.same fun i h0 hi=>heap_setCell_other _ _ _ _ (by show i ≠ w.heap.size+1;omega)).mono (by omega)
   ·exact hb.setCell (by show _<=w.heap.size+1;omega) _
def Uz (rs:List ZW):Z6:=⟨rs,[],[],List.replicate (ZU rs).toNat (true,-1,0),List.replicate rs.length 0,0⟩
open Draw (St Off Row Cur)
theorem FullSmy.away {n₀ bc:Nat} {w w':World} {v0 v1 v2 v3 v4:Value} {m:Z6} {qs:List (ZW × Value)} (h:FullSmy n₀ w v0 v1 v2 v3 v4 m qs) (ho:Off bc w w') (hb:bc<n₀):FullSmy n₀ w' v0 v1 v2 v3 v4 m qs:=
 h.keep fun k e=>ho.block k (h.own e).2 (by have:=(h.own e).1;omega)
theorem Blk.away {bc R:Nat} {w w':World} {t:TypeId} {cs:Array Value} (h:Blk w R t cs) (ho:Off bc w w') (hb:R ≠ bc):Blk w' R t cs:=h.same (ho.block R h.lt hb)
theorem TF {bc:Nat} {w w':World} (h:Below w.heap.size w w'):Off bc w w':=⟨h.os,h.tape,h.output,h.size,fun k hk _=>h.block k hk⟩
theorem Off.newer {bc tb:Nat} {w0 w:World} (h:Off bc w0 w) (ht:w0.heap.size<=tb) (o:Nat) (v:Value):Off bc w0 (w.setCell ⟨tb,o,none⟩ v):=
 ⟨h.os,h.tape,h.output,by simpa using h.size,fun k hk hn=>(heap_setCell_other _ _ _ _ (by show k ≠ tb;omega)).trans (h.block k hk hn)⟩
theorem St.newer {a:Option Addr} {len cap bc tb:Nat} {w:World} (h:St a len cap bc w) (ht:bc<tb) (o:Nat) (v:Value):St a len cap bc (w.setCell ⟨tb,o,none⟩ v):=
 XU h ((ZZ _ _).setCell (p:=⟨tb,o,none⟩) (by show bc+1<=tb;omega) _)
def R8 (m:Z6) (who:Int):Int:=if ZI m && Wr m who then Y8 m who else -1
end Go.Proofs.YtlcpgkakdieeaaaGreat
