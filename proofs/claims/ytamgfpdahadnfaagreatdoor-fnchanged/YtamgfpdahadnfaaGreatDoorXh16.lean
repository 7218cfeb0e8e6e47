/- Part 16 of what the proof rests on. No condition but those that a theorem names. -/
import Derived.Test.YtamgfpdahadnfaaGreatDoorXh15
set_option maxHeartbeats 8000000
set_option maxRecDepth 100000
namespace Go.Proofs.YtamgfpdahadnfaaGreatDoor
open Go.ChangeShapes Go.WideShapes Go.ChangeAt Go.RowKit Go.Sort
set_option linter.unusedVariables false
set_option linter.unusedSimpArgs false
variable {w w' w0 w1 w2 w3 w₀ wr W W' X A B C : World} {v v0 v1 v2 v3 v4 u u0 u1 u2 u3 u4 : Value} {m : Z6}
theorem RQ  (who:Int) (rank:Int) (h:Smy w v0 v1 v2 v3 v4 m) :
  Calls Tryz.prog 26 #[.agg #[v0,v1,v2,v3,v4,.int .i64 m.now],.int .i64 who,.int .i64 rank] w fun e w'=>TX w.heap.size (XE m who rank).1 (XE m who rank).2 e w'/\Below w.heap.size w w':=by
 obtain ⟨X,hX⟩:∃ x,XE m who rank=x:=⟨_,rfl⟩
 rw [hX];have HX:=Z9 hX;clear hX;have Hv0:=Z9 h;obtain ⟨a0,p0,a1,p1,a2,p2,a3,p3,a4,p4,rfl,rfl,rfl,rfl,rfl,_,_,_,_,_,_,_,_,_,_⟩:=h.five;clear h;obtain ⟨ok,hok⟩:∃ q,ZI m=q:=⟨_,rfl⟩
 have Hok:=Z9 hok;clear hok;go_enter Tryz.func26,Tryz.ntmps26;go_wp2_with fail;obtain ⟨W,hW,kb,kr,BB⟩:=YG w 32 (S6 a0 p0 a1 p1 a2 p2 a3 p3 a4 p4 m) 32 E6;have Hv:=Z9 ((uh Hv0).below (uh BB));clear Hv0;rw [hW];clear hW;refine ck (XN (uh Hok) (uh Hv)) fun w1 hb=> ?_;replace kb:=bl kb hb;replace kr:=bl kr hb;replace Hv:=Z9 ((uh Hv).below hb);replace BB:=bt BB hb;clear hb;cases ok
 ·
  obtain ⟨c0,c1,c2,c3,c4,c5⟩:=(uh kb).c6;go_wp2_with fail;clear c0 c1 c2 c3 c4 c5;refine ck (XY (uh Hv)) fun w2 hb=> ?_;replace kb:=bl kb hb;replace kr:=bl kr hb;replace Hv:=Z9 ((uh Hv).below hb);replace BB:=bt BB hb;clear hb;obtain ⟨o0,o1,o2,o3,o4,o5⟩:=(uh kr).c6;obtain ⟨f0,f1,f2,f3,f4,f5⟩:=(uh kr).f6;go_wp2_with fail;have hX0:X=(Yj,3):=by rw [<-uh HX];unfold XE;rw [uh Hok];rfl
  exact ZS (v:= .tuple #[.agg E6,.int .i64 3]) (by simp [results,Tryz.results26,go_sem, *]) rfl (Zb hX0 rfl (Yr _ _) (uh BB))
 have hlo:=ZK (uh Hok);have HLo:=Z9 hlo;have HFew:=Z9 (WK hlo);clear hlo;obtain ⟨c0,c1,c2,c3,c4,c5⟩:=(uh kb).c6;go_wp2_with fail;clear c0 c1 c2 c3 c4 c5;refine (T6 (uh Hv) (uh HFew) (uh kb) (uh kr) (uh BB)).mono ?_;clear kb kr Hv BB;rintro e w2 ⟨b0,q0,b1,q1,b2,q2,b3,q3,b4,q4,oq,rfl,W2,ob,hW2,hob2,kb,kr,Hv,HO,ko,LO,hob,BB⟩;go_upto_region 4 with fail
 (try rw [hW2])
 (try rw [hob2])
 clear hW2 hob2;obtain ⟨qw,hqw⟩:∃ q,WU m who=q:=⟨_,rfl⟩
 have Hqw:=Z9 hqw;clear hqw;obtain ⟨c0,c1,c2,c3,c4,c5⟩:=(uh kb).c6;go_wp2_with fail;clear c0 c1 c2 c3 c4 c5;refine ck (Ul (uh Hqw) (uh Hv)) fun w3 hb=> ?_;replace kb:=bl kb hb;replace kr:=bl kr hb;replace Hv:=Z9 ((uh Hv).below hb);replace HO:=Z9 ((uh HO).below hb);replace ko:=bl ko hb;replace BB:=bt BB hb;clear hb;cases qw
 ·
  obtain ⟨x0,x1,x2,x3,x4,x5⟩:=(uh ko).c6;obtain ⟨o0,o1,o2,o3,o4,o5⟩:=(uh kr).c6;obtain ⟨f0,f1,f2,f3,f4,f5⟩:=(uh kr).f6;go_wp2_with fail;have hX0:X=(m,1):=by rw [<-uh HX];unfold XE;rw [uh Hok,uh Hqw];rfl
  exact ZS (v:= .tuple #[.agg (S6 b0 q0 b1 q1 b2 q2 b3 q3 b4 q4 m),.int .i64 1]) (by simp [results,Tryz.results26,go_sem, *]) rfl (Zb hX0 rfl (uh HO) (uh BB))
 obtain ⟨k,rfl,hk,hs0⟩:=Yl (uh Hqw);have hk1:(k:Int)<(m.sm.length:Int):=by omega
 obtain ⟨_,_,hse,_,_,r2⟩:=(uh Hv).sm;cases hse
 rcases r2 with e0 | ⟨sb,off,rfl,hbw,hcl⟩
 ·rw [e0] at hk;simp at hk
 obtain ⟨d0,d1,d2,d3,d4,d5,d6,d7,d8,d9,d10⟩:=Zw hcl hk;clear hcl;obtain ⟨⟨⟨t0,t1,t2,t3,t4,t5,t6,t7,t8,t9,t10⟩,iq⟩,hre⟩:∃ q,Zr (Z8 m.sm k) rank=q:=⟨_,rfl⟩
 have Hre:=Z9 hre;obtain ⟨⟨st,be,rk,my,gu,lo,hi,hd,ca,ut,wk⟩,hrk⟩:∃ d,Z8 m.sm k=d:=⟨_,rfl⟩
 rw [hrk] at d0 d1 d2 d3 d4 d5 d6 d7 d8 d9 d10 hre;simp only at d0 d1 d2 d3 d4 d5 d6 d7 d8 d9 d10;have c2:=(uh kb).cell (i:=2) (v:= .slice (some ⟨sb,off,none⟩) m.sm.length p2) rfl;have Hr2:=Z9 hre;clear hre;go_wp2_with fail;refine ck (MO (uh Hr2) _) fun w4 hb=> ?_;replace kb:=bl kb hb;replace kr:=bl kr hb;replace Hv:=Z9 ((uh Hv).below hb);replace HO:=Z9 ((uh HO).below hb);replace ko:=bl ko hb;replace BB:=bt BB hb;clear hb d0 d1 d2 d3 d4 d5 d6 d7 d8 d9 d10 c2;simp only [ZU];go_upto_region 7 with fail;obtain ⟨W5,hW5,hba,ks⟩:=YF w4 40 (I11 t0 t1 t2 t3 t4 t5 t6 t7 t8 t9 t10);replace kb:=bl kb hba;replace kr:=bl kr hba;replace Hv:=Z9 ((uh Hv).below hba);replace HO:=Z9 ((uh HO).below hba);replace ko:=bl ko hba;replace BB:=bt BB hba;clear hba;rw [hW5];clear hW5;generalize w4.heap.size=sb5 at *;cases iq
 ·
  obtain ⟨x0,x1,x2,x3,x4,x5⟩:=(uh ko).c6;obtain ⟨o0,o1,o2,o3,o4,o5⟩:=(uh kr).c6;obtain ⟨f0,f1,f2,f3,f4,f5⟩:=(uh kr).f6;go_wp2_with fail;have hX0:X=(m,3):=by rw [<-uh HX];unfold XE;rw [uh Hok,uh Hqw];simp only [if_true,Zz];rw [uh Hre];rfl
  exact ZS (v:= .tuple #[.agg (S6 b0 q0 b1 q1 b2 q2 b3 q3 b4 q4 m),.int .i64 3]) (by simp [results,Tryz.results26,go_sem, *]) rfl (Zb hX0 rfl (uh HO) (uh BB))
 obtain ⟨z0,z1,z2,z3,z4,z5,z6,z7,z8,z9,z10⟩:=(uh ks).c11;obtain ⟨g2,hga,_,_,hc2,hz2⟩:=RecAt.view ZX (by omega) (uh HO).sm rfl (by omega);cases hga;have hg2o:=(uh LO g2 (.inr (.inr (.inr (.inl rfl)))))
 have x2:=(uh ko).cell (i:=2) (v:= .slice (some ⟨g2,0,none⟩) m.sm.length q2) rfl;obtain ⟨s0,s1,s2,s3,s4,s5,s6,s7,s8,s9,s10⟩:=ET (hc2 k hk);obtain ⟨g0,g1,g2,g3,g4,g5,g6,g7,g8,g9,g10⟩:=BL hz2 (k*11);simp only [Nat.add_zero] at s0 g0;have HP:=Z9 ((uh HO).putW rfl hk (t0,t1,t2,t3,t4,t5,t6,t7,t8,t9,t10));clear hc2 hz2 HO;go_upto_region 10 with fail;clear x2 s0 g0 s1 g1 s2 g2 s3 g3 s4 g4 s5 g5 s6 g6 s7 g7 s8 g8 s9 g9 s10 g10;rw [AX];replace ko:=MC (g:=g2) (by omega) (ZU (t0,t1,t2,t3,t4,t5,t6,t7,t8,t9,t10)) (o:=k*11) ko;replace kr:=MC (g:=g2) (by omega) (ZU (t0,t1,t2,t3,t4,t5,t6,t7,t8,t9,t10)) (o:=k*11) kr;replace BB:=EV (g:=g2) (by omega) (ZU (t0,t1,t2,t3,t4,t5,t6,t7,t8,t9,t10)) (o:=k*11) BB;clear kb Hv;generalize QG W5 g2 (k*11) (ZU (t0,t1,t2,t3,t4,t5,t6,t7,t8,t9,t10))=W3 at *;have hfw:=uh HFew;go_wp2_with fail;refine (UZ (m:=setS m k (t0,t1,t2,t3,t4,t5,t6,t7,t8,t9,t10)) (uh ko) (uh HP) (fun k e=>by have:=(uh LO k e).2;omega) (uh kr) (uh BB) (by show (m.sm.set k _).length<=800;have:=hfw.sm;simp;omega) hfw.dk).mono ?_;clear kr BB;rintro e w5 ⟨rfl,HF9,kr,BB⟩;obtain ⟨o0,o1,o2,o3,o4,o5⟩:=(uh kr).c6;obtain ⟨f0,f1,f2,f3,f4,f5⟩:=(uh kr).f6;go_wp2_with fail;have hX0:X=(ZN (setS m k (t0,t1,t2,t3,t4,t5,t6,t7,t8,t9,t10)),0):=by rw [<-uh HX];unfold XE;rw [uh Hok,uh Hqw];simp only [if_true,Zz];rw [uh Hre];rfl
 have hnow:(ZN (setS m k (t0,t1,t2,t3,t4,t5,t6,t7,t8,t9,t10))).now=m.now:=(ZG _ _).2.2.2.1;exact ZS (v:= .tuple #[.agg (S6 b0 q0 b1 q1 (some ⟨g2,0,none⟩) q2 b3 q3 b4 q4 m),.int .i64 0]) (by simp [results,Tryz.results26,go_sem,setS,TI,Yc,pushS, *]) rfl (Zb hX0 hnow (uh HF9) (uh BB))
theorem Sane.setS (h:Sane m) {k:Nat} (hk:k<m.sm.length) (s:Z3) (h0:s.1 ≠ 0-> -1<=s.2.2.2.2.1/\s.2.2.2.2.1<m.gd.length):Sane (setS m k s):=by
 have hset:∀ i,Z8 (Proofs.YtamgfpdahadnfaaGreatDoor.setS m k s).sm i=if i=k then s else Z8 m.sm i:=fun i=>ZJ hk i
 refine ⟨h.hall,h.dk,⟨h.guilded.gd,fun i hi hne=> ?_,fun i hi hne=> ?_⟩,by show (m.sm.set k s).length<=12;simpa using h.few⟩
 ·have hi':i<m.sm.length:=by simpa [Proofs.YtamgfpdahadnfaaGreatDoor.setS] using hi
  rw [hset] at hne ⊢;by_cases e:i=k
  ·rw [if_pos e] at hne ⊢;exact (h0 hne).1
  ·rw [if_neg e] at hne ⊢;exact h.guilded.lo i hi' hne
 ·have hi':i<m.sm.length:=by simpa [Proofs.YtamgfpdahadnfaaGreatDoor.setS] using hi
  rw [hset] at hne ⊢;by_cases e:i=k
  ·rw [if_pos e] at hne ⊢;exact (h0 hne).2
  ·rw [if_neg e] at hne ⊢;exact h.guilded.hi i hi' hne
theorem Sb  (who:Int) (may:Int) (h:Smy w v0 v1 v2 v3 v4 m) :
  Calls Tryz.prog 27 #[.agg #[v0,v1,v2,v3,v4,.int .i64 m.now],.int .i64 who,.int .i64 may] w fun e w'=>TX w.heap.size (XW m who may).1 (XW m who may).2 e w'/\Below w.heap.size w w':=by
 obtain ⟨X,hX⟩:∃ x,XW m who may=x:=⟨_,rfl⟩
 rw [hX];have HX:=Z9 hX;clear hX;have Hv0:=Z9 h;obtain ⟨a0,p0,a1,p1,a2,p2,a3,p3,a4,p4,rfl,rfl,rfl,rfl,rfl,_,_,_,_,_,_,_,_,_,_⟩:=h.five;clear h;obtain ⟨ok,hok⟩:∃ q,ZI m=q:=⟨_,rfl⟩
 have Hok:=Z9 hok;clear hok;go_enter Tryz.func27,Tryz.ntmps27;go_wp2_with fail;obtain ⟨W,hW,kb,kr,BB⟩:=YG w 32 (S6 a0 p0 a1 p1 a2 p2 a3 p3 a4 p4 m) 32 E6;have Hv:=Z9 ((uh Hv0).below (uh BB));clear Hv0;rw [hW];clear hW;refine ck (XN (uh Hok) (uh Hv)) fun w1 hb=> ?_;replace kb:=bl kb hb;replace kr:=bl kr hb;replace Hv:=Z9 ((uh Hv).below hb);replace BB:=bt BB hb;clear hb;cases ok
 ·
  obtain ⟨c0,c1,c2,c3,c4,c5⟩:=(uh kb).c6;go_wp2_with fail;clear c0 c1 c2 c3 c4 c5;refine ck (XY (uh Hv)) fun w2 hb=> ?_;replace kb:=bl kb hb;replace kr:=bl kr hb;replace Hv:=Z9 ((uh Hv).below hb);replace BB:=bt BB hb;clear hb;obtain ⟨o0,o1,o2,o3,o4,o5⟩:=(uh kr).c6;obtain ⟨f0,f1,f2,f3,f4,f5⟩:=(uh kr).f6;go_wp2_with fail;have hX0:X=(Yj,3):=by rw [<-uh HX];unfold XW;rw [uh Hok];rfl
  exact ZS (v:= .tuple #[.agg E6,.int .i64 3]) (by simp [results,Tryz.results27,go_sem, *]) rfl (Zb hX0 rfl (Yr _ _) (uh BB))
 have hlo:=ZK (uh Hok);have HLo:=Z9 hlo;have HFew:=Z9 (WK hlo);clear hlo;obtain ⟨c0,c1,c2,c3,c4,c5⟩:=(uh kb).c6;go_wp2_with fail;clear c0 c1 c2 c3 c4 c5;refine (T6 (uh Hv) (uh HFew) (uh kb) (uh kr) (uh BB)).mono ?_;clear kb kr Hv BB;rintro e w2 ⟨b0,q0,b1,q1,b2,q2,b3,q3,b4,q4,oq,rfl,W2,ob,hW2,hob2,kb,kr,Hv,HO,ko,LO,hob,BB⟩;go_upto_region 4 with fail
 (try rw [hW2])
 (try rw [hob2])
 clear hW2 hob2;obtain ⟨qw,hqw⟩:∃ q,WU m who=q:=⟨_,rfl⟩
 have Hqw:=Z9 hqw;clear hqw;obtain ⟨c0,c1,c2,c3,c4,c5⟩:=(uh kb).c6;go_wp2_with fail;clear c0 c1 c2 c3 c4 c5;refine ck (Ul (uh Hqw) (uh Hv)) fun w3 hb=> ?_;replace kb:=bl kb hb;replace kr:=bl kr hb;replace Hv:=Z9 ((uh Hv).below hb);replace HO:=Z9 ((uh HO).below hb);replace ko:=bl ko hb;replace BB:=bt BB hb;clear hb;cases qw
 ·
  obtain ⟨x0,x1,x2,x3,x4,x5⟩:=(uh ko).c6;obtain ⟨o0,o1,o2,o3,o4,o5⟩:=(uh kr).c6;obtain ⟨f0,f1,f2,f3,f4,f5⟩:=(uh kr).f6;go_wp2_with fail;have hX0:X=(m,1):=by rw [<-uh HX];unfold XW;rw [uh Hok,uh Hqw];rfl
  exact ZS (v:= .tuple #[.agg (S6 b0 q0 b1 q1 b2 q2 b3 q3 b4 q4 m),.int .i64 1]) (by simp [results,Tryz.results27,go_sem, *]) rfl (Zb hX0 rfl (uh HO) (uh BB))
 obtain ⟨k,rfl,hk,hs0⟩:=Yl (uh Hqw);have hk1:(k:Int)<(m.sm.length:Int):=by omega
 obtain ⟨pb,hpb⟩:∃ q,inB may 1 255=q:=⟨_,rfl⟩
 have Hpb:=Z9 hpb;clear hpb;go_wp2_with fail;refine (ZT _ _ _ _).mono ?_;rw [uh Hpb];rintro e w9 ⟨rfl,hw9⟩;subst w9;cases pb
 ·
  obtain ⟨x0,x1,x2,x3,x4,x5⟩:=(uh ko).c6;obtain ⟨o0,o1,o2,o3,o4,o5⟩:=(uh kr).c6;obtain ⟨f0,f1,f2,f3,f4,f5⟩:=(uh kr).f6;go_wp2_with fail;have hX0:X=(m,3):=by rw [<-uh HX];unfold XW;rw [uh Hok,uh Hqw];simp only [if_true];rw [uh Hpb];rfl
  exact ZS (v:= .tuple #[.agg (S6 b0 q0 b1 q1 b2 q2 b3 q3 b4 q4 m),.int .i64 3]) (by simp [results,Tryz.results27,go_sem, *]) rfl (Zb hX0 rfl (uh HO) (uh BB))
 obtain ⟨c0,c1,c2,c3,c4,c5⟩:=(uh kb).c6;go_wp2_with fail;clear c0 c1 c2 c3 c4 c5;have hobw:=(uh ko).lt;refine (XT (uh Hv) (uh HFew)).mono ?_;rintro e w4 ⟨y0,y1,y2,y3,y4,xq,rfl,ho,hb⟩;have k9:=ho.smy;obtain ⟨xa0,xp0,xa1,xp1,xa2,xp2,xa3,xp3,xa4,xp4,rfl,rfl,rfl,rfl,rfl,_,_,_,_,_,_,_,_,_,_⟩:=k9.five;clear k9;replace kb:=bl kb hb;replace kr:=bl kr hb;replace Hv:=Z9 ((uh Hv).below hb);replace HO:=Z9 ((uh HO).below hb);replace ko:=bl ko hb;replace BB:=bt BB hb;have hszx:=hb.size;have HY:=Z9 (ho.mono (n₁:=w.heap.size+2) (by omega));have LX:Hid (∀ k,Wg (.slice xa0 m.rm.length xp0) (.slice xa1 m.gd.length xp1) (.slice xa2 m.sm.length xp2) (.slice xa3 m.dk.length xp3) (.slice xa4 m.pc.length xp4) xq k->ob+1<=k/\k<w4.heap.size):=Z9 (fun k e=>by have:=ho.own e;omega);have hxb:ob+1<=w4.heap.size:=by omega
 clear ho hb hobw hszx;go_upto_region 9 with fail;obtain ⟨W3,hW3,hba,kx⟩:=YF w4 32 (S6 xa0 xp0 xa1 xp1 xa2 xp2 xa3 xp3 xa4 xp4 m);replace kb:=bl kb hba;replace kr:=bl kr hba;replace Hv:=Z9 ((uh Hv).below hba);replace HO:=Z9 ((uh HO).below hba);replace ko:=bl ko hba;replace HY:=Z9 ((uh HY).below hba);replace BB:=bt BB hba;clear hba;rw [hW3];clear hW3;generalize w4.heap.size=xb at *;obtain ⟨hA,bn,hbn,hbnl⟩:=P5 (uh HLo) hk hs0;obtain ⟨_,hgu,_⟩:=(uh HLo).limits hk hs0;have hgl:=(uh HLo).sane.guilded.lo k hk hs0;obtain ⟨hm0,hm1⟩:=ZO (uh Hpb);have heig:=(uh HLo).sane.eight;have hbn7:(bn:Int)<=7:=by omega
 clear hA heig;obtain ⟨⟨st,be,rk,my,gu,lo,hi,hd,ca,ut,wk⟩,hrk⟩:∃ d,Z8 m.sm k=d:=⟨_,rfl⟩
 rw [hrk] at hbn hs0 hgu hgl;simp only at hbn hs0 hgu hgl;subst hbn;have hmx:Y3 m k may=setS m k (st,(bn:Int),rk,may,gu,lo,hi,hd,ca,ut,wk):=by unfold Y3 Wk;rw [hrk]
 have HSx:Hid (Sane (Y3 m k may)):=Z9 (by rw [hmx];exact (uh HLo).sane.setS hk _ (fun _=>⟨hgl,hgu⟩));have hr1:Z8 (m.sm.set k (st,(bn:Int),rk,may,gu,lo,hi,hd,ca,ut,wk)) k=(st,(bn:Int),rk,may,gu,lo,hi,hd,ca,ut,wk):=by rw [ZJ hk,if_pos rfl]
 have HAx:Hid (QJ (Y3 m k may) k):=Z9 (by
  rw [hmx];refine ⟨by show k<(m.sm.set k _).length;simp;omega,?_,?_,?_⟩
  ·show (Z8 (m.sm.set k _) k).1 ≠ 0;rw [hr1];exact hs0
  ·show 0<=(Z8 (m.sm.set k _) k).2.2.2.1;rw [hr1];show (0:Int)<=may;omega
  ·show (Z8 (m.sm.set k _) k).2.2.2.1<=255;rw [hr1];exact hm1)
 have HLp:=Z9 (Tn (uh HLo));have Hrk:=Z9 hrk;have Hmx:=Z9 hmx;clear hrk hmx hgu hgl;obtain ⟨g2,hga,_,_,hc2,hz2⟩:=RecAt.view ZX (by omega) (uh HY).sm rfl (by omega);cases hga;have hg2o:=(uh LX g2 (.inr (.inr (.inr (.inl rfl)))))
 have x2:=(uh kx).cell (i:=2) (v:= .slice (some ⟨g2,0,none⟩) m.sm.length xp2) rfl;have s3:=hc2 k hk 3 _ rfl;have f3:=hz2 (k*11+3);have hput:=(uh HY).putS rfl (j:=k) (i:=3) hk (by omega) (.int .i64 may) (st,(bn:Int),rk,may,gu,lo,hi,hd,ca,ut,wk) (by rw [uh Hrk];rfl);have HP:=Z9 hput;clear hput hc2 hz2;go_upto_region 10 with fail;clear x2 s3 f3;replace kx:Hid (Blk (W3.setCell ⟨g2,k*11+3,none⟩ (.int .i64 may)) xb 32 (S6 xa0 xp0 xa1 xp1 (some ⟨g2,0,none⟩) xp2 xa3 xp3 xa4 xp4 m)):=Z9 ((uh kx).other (a:=⟨g2,k*11+3,none⟩) (by show xb ≠ g2;omega) (.int .i64 may));replace ko:Hid (Blk (W3.setCell ⟨g2,k*11+3,none⟩ (.int .i64 may)) ob 32 (S6 b0 q0 b1 q1 b2 q2 b3 q3 b4 q4 m)):=Z9 ((uh ko).other (a:=⟨g2,k*11+3,none⟩) (by show ob ≠ g2;omega) (.int .i64 may));replace kr:Hid (Blk (W3.setCell ⟨g2,k*11+3,none⟩ (.int .i64 may)) (w.heap.size+1) 32 E6):=Z9 ((uh kr).other (a:=⟨g2,k*11+3,none⟩) (by show (w.heap.size+1) ≠ g2;omega) (.int .i64 may));replace HO:Hid (FullSmy (w.heap.size+2) (W3.setCell ⟨g2,k*11+3,none⟩ (.int .i64 may)) (.slice b0 m.rm.length q0) (.slice b1 m.gd.length q1) (.slice b2 m.sm.length q2) (.slice b3 m.dk.length q3) (.slice b4 m.pc.length q4) m oq):=Z9 ((uh HO).set_off (fun k e=>by have:=(uh LO k e).2;omega) _ _);replace BB:Hid (Below w.heap.size w (W3.setCell ⟨g2,k*11+3,none⟩ (.int .i64 may))):=Z9 ((uh BB).setCell (p:=⟨g2,k*11+3,none⟩) (by show w.heap.size<=g2;omega) (.int .i64 may));clear kb Hv HY;generalize W3.setCell ⟨g2,k*11+3,none⟩ (.int .i64 may)=W4 at *;have hl1:(m.sm.set k (st,(bn:Int),rk,may,gu,lo,hi,hd,ca,ut,wk)).length=m.sm.length:=by simp
 obtain ⟨_,hga,_,_,hc4,_⟩:=RecAt.view ZX (by omega) (uh HP).sm hl1.symm (by show 0<(m.sm.set k _).length;omega);cases hga;have x2:=(uh kx).cell (i:=2) (v:= .slice (some ⟨g2,0,none⟩) m.sm.length xp2) rfl;have s0:=hc4 k (by show k<(m.sm.set k _).length;omega) 0 (.int .i64 st) (by show (ZU (Z8 (m.sm.set k (st,(bn:Int),rk,may,gu,lo,hi,hd,ca,ut,wk)) k))[0]?=_;rw [hr1];rfl);have s1:=hc4 k (by show k<(m.sm.set k _).length;omega) 1 (.int .i64 (bn:Int)) (by show (ZU (Z8 (m.sm.set k (st,(bn:Int),rk,may,gu,lo,hi,hd,ca,ut,wk)) k))[1]?=_;rw [hr1];rfl);have s2:=hc4 k (by show k<(m.sm.set k _).length;omega) 2 (.int .i64 rk) (by show (ZU (Z8 (m.sm.set k (st,(bn:Int),rk,may,gu,lo,hi,hd,ca,ut,wk)) k))[2]?=_;rw [hr1];rfl);have s3:=hc4 k (by show k<(m.sm.set k _).length;omega) 3 (.int .i64 may) (by show (ZU (Z8 (m.sm.set k (st,(bn:Int),rk,may,gu,lo,hi,hd,ca,ut,wk)) k))[3]?=_;rw [hr1];rfl);have s4:=hc4 k (by show k<(m.sm.set k _).length;omega) 4 (.int .i64 gu) (by show (ZU (Z8 (m.sm.set k (st,(bn:Int),rk,may,gu,lo,hi,hd,ca,ut,wk)) k))[4]?=_;rw [hr1];rfl);have s5:=hc4 k (by show k<(m.sm.set k _).length;omega) 5 (.int .i64 lo) (by show (ZU (Z8 (m.sm.set k (st,(bn:Int),rk,may,gu,lo,hi,hd,ca,ut,wk)) k))[5]?=_;rw [hr1];rfl);have s6:=hc4 k (by show k<(m.sm.set k _).length;omega) 6 (.int .i64 hi) (by show (ZU (Z8 (m.sm.set k (st,(bn:Int),rk,may,gu,lo,hi,hd,ca,ut,wk)) k))[6]?=_;rw [hr1];rfl);have s7:=hc4 k (by show k<(m.sm.set k _).length;omega) 7 (.int .i64 hd) (by show (ZU (Z8 (m.sm.set k (st,(bn:Int),rk,may,gu,lo,hi,hd,ca,ut,wk)) k))[7]?=_;rw [hr1];rfl);have s8:=hc4 k (by show k<(m.sm.set k _).length;omega) 8 (.int .i64 ca) (by show (ZU (Z8 (m.sm.set k (st,(bn:Int),rk,may,gu,lo,hi,hd,ca,ut,wk)) k))[8]?=_;rw [hr1];rfl);have s9:=hc4 k (by show k<(m.sm.set k _).length;omega) 9 (.int .i64 ut) (by show (ZU (Z8 (m.sm.set k (st,(bn:Int),rk,may,gu,lo,hi,hd,ca,ut,wk)) k))[9]?=_;rw [hr1];rfl);have s10:=hc4 k (by show k<(m.sm.set k _).length;omega) 10 (.int .i64 wk) (by show (ZU (Z8 (m.sm.set k (st,(bn:Int),rk,may,gu,lo,hi,hd,ca,ut,wk)) k))[10]?=_;rw [hr1];rfl);simp only [Nat.add_zero] at s0;clear hc4 hl1;go_upto_region 11 with fail;clear x2 s0 s1 s2 s3 s4 s5 s6 s7 s8 s9 s10;obtain ⟨W5,hW5,hba,ks⟩:=YF W4 40 (I11 st (bn:Int) rk may gu lo hi hd ca ut wk);replace HP:Hid (FullSmy (w.heap.size+2) W4 (.slice xa0 m.rm.length xp0) (.slice xa1 m.gd.length xp1) (.slice (some ⟨g2,0,none⟩) m.sm.length xp2) (.slice xa3 m.dk.length xp3) (.slice xa4 m.pc.length xp4) (Y3 m k may) xq):=Z9 (by rw [uh Hmx];exact uh HP);replace kx:=bl kx hba;replace ko:=bl ko hba;replace kr:=bl kr hba;replace HO:=Z9 ((uh HO).below hba);replace HP:=Z9 ((uh HP).below hba);replace BB:=bt BB hba;clear hba;rw [hW5];clear hW5;generalize W4.heap.size=sv at *;obtain ⟨ps,hps⟩:∃ q,ZL (st,(bn:Int),rk,may,gu,lo,hi,hd,ca,ut,wk)=q:=⟨_,rfl⟩
 have Hpt:=Z9 hps;have Hp0:Hid (ZL (Z8 m.sm k)=ps):=Z9 (by rw [uh Hrk];exact hps);clear hps;obtain ⟨e0,e1,e2,e3,e4,e5,e6,e7,e8,e9,e10⟩:=(uh ks).c11;go_wp2_with fail;clear e0 e1 e2 e3 e4 e5 e6 e7 e8 e9 e10;refine ck (Yu (uh Hpt) _) fun w5 hb=> ?_;replace kx:=bl kx hb;replace ko:=bl ko hb;replace kr:=bl kr hb;replace HO:=Z9 ((uh HO).below hb);replace HP:=Z9 ((uh HP).below hb);replace ks:=bl ks hb;replace BB:=bt BB hb;clear hb;have hfw:=uh HFew;cases ps
 ·
  go_wp2_with fail;refine (UZ (m:=Y3 m k may) (uh kx) (uh HP) (fun k e=>by have:=(uh LX k e).2;omega) (uh kr) (uh BB) (by show (m.sm.set k _).length<=800;have:=hfw.sm;simp;omega) hfw.dk).mono ?_;clear kr BB;rintro e w6 ⟨rfl,HF9,kr,BB⟩;obtain ⟨o0,o1,o2,o3,o4,o5⟩:=(uh kr).c6;obtain ⟨f0,f1,f2,f3,f4,f5⟩:=(uh kr).f6;go_wp2_with fail;have hX0:X=(ZN (Y3 m k may),0):=by rw [<-uh HX];unfold XW;rw [uh Hok,uh Hqw];simp only [if_true,Zz];rw [uh Hpb];simp only [if_true];rw [uh Hp0];rfl
  have hnow:(ZN (Y3 m k may)).now=m.now:=(ZG _ _).2.2.2.1;exact ZS (v:= .tuple #[.agg (S6 xa0 xp0 xa1 xp1 (some ⟨g2,0,none⟩) xp2 xa3 xp3 xa4 xp4 m),.int .i64 0]) (by simp [results,Tryz.results27,go_sem,setS,TI,Yc,pushS,Y3, *]) rfl (Zb hX0 hnow (uh HF9) (uh BB))
 obtain ⟨q2,hq2⟩:∃ q,WI may (bn:Int)=q:=⟨_,rfl⟩
 have Hq2:=Z9 hq2;have Hq0:Hid (WI may (Z8 m.sm k).2.1=q2):=Z9 (by rw [uh Hrk];exact hq2);clear hq2;have e1:=(uh ks).cell (i:=1) (v:= .int .i64 (bn:Int)) rfl;go_wp2_with fail;clear e1;refine ck (Pw (uh Hq2) (by omega) hm1 (by omega) hbn7 _) fun w6 hb=> ?_;replace kx:=bl kx hb;replace ko:=bl ko hb;replace kr:=bl kr hb;replace HO:=Z9 ((uh HO).below hb);replace HP:=Z9 ((uh HP).below hb);replace ks:=bl ks hb;replace BB:=bt BB hb;clear hb;cases q2;rotate_left
 ·
  go_wp2_with fail;refine (UZ (m:=Y3 m k may) (uh kx) (uh HP) (fun k e=>by have:=(uh LX k e).2;omega) (uh kr) (uh BB) (by show (m.sm.set k _).length<=800;have:=hfw.sm;simp;omega) hfw.dk).mono ?_;clear kr BB;rintro e w7 ⟨rfl,HF9,kr,BB⟩;obtain ⟨o0,o1,o2,o3,o4,o5⟩:=(uh kr).c6;obtain ⟨f0,f1,f2,f3,f4,f5⟩:=(uh kr).f6;go_wp2_with fail;have hX0:X=(ZN (Y3 m k may),0):=by rw [<-uh HX];unfold XW;rw [uh Hok,uh Hqw];simp only [if_true,Zz];rw [uh Hpb];simp only [if_true];rw [uh Hp0,uh Hq0];rfl
  have hnow:(ZN (Y3 m k may)).now=m.now:=(ZG _ _).2.2.2.1;exact ZS (v:= .tuple #[.agg (S6 xa0 xp0 xa1 xp1 (some ⟨g2,0,none⟩) xp2 xa3 xp3 xa4 xp4 m),.int .i64 0]) (by simp [results,Tryz.results27,go_sem,setS,TI,Yc,pushS,Y3, *]) rfl (Zb hX0 hnow (uh HF9) (uh BB))
 obtain ⟨b,hb⟩:∃ q,YQ (Y3 m k may) (k:Int)=q:=⟨_,rfl⟩
 have Hb:=Z9 hb;clear hb;obtain ⟨z0,z1,z2,z3,z4,z5⟩:=(uh kx).c6;go_wp2_with fail;clear z0 z1 z2 z3 z4 z5;refine (Wc (m:=Y3 m k may) (who:=k) (uh HP).smy (uh HSx) (uh HLp) (uh HAx)).mono ?_;rw [uh Hb];rintro e w7 ⟨rfl,hb⟩;replace kx:=bl kx hb;replace ko:=bl ko hb;replace kr:=bl kr hb;replace HO:=Z9 ((uh HO).below hb);replace HP:=Z9 ((uh HP).below hb);replace ks:=bl ks hb;replace BB:=bt BB hb;clear hb;by_cases hbn:b<0
 ·
  obtain ⟨x0,x1,x2,x3,x4,x5⟩:=(uh ko).c6;obtain ⟨o0,o1,o2,o3,o4,o5⟩:=(uh kr).c6;obtain ⟨f0,f1,f2,f3,f4,f5⟩:=(uh kr).f6;go_wp2_with fail;have hX0:X=(m,2):=by rw [<-uh HX];unfold XW;rw [uh Hok,uh Hqw];simp only [if_true,Zz];rw [uh Hpb];simp only [if_true];rw [uh Hp0,uh Hq0];simp only [Bool.not_false,Bool.and_self,if_true];rw [uh Hb,if_pos hbn]
  exact ZS (v:= .tuple #[.agg (S6 b0 q0 b1 q1 b2 q2 b3 q3 b4 q4 m),.int .i64 2]) (by simp [results,Tryz.results27,go_sem, *]) rfl (Zb hX0 rfl (uh HO) (uh BB))
 obtain ⟨bb,hbb,rfl⟩:∃ bb:Nat,bb<m.dk.length/\b=(bb:Int):=by
  rcases VS (Y3 m k may) (k:Int) with ⟨e,_⟩ | ⟨bb,hbl,e,_⟩
  ·rw [uh Hb] at e;omega
  ·exact ⟨bb,hbl,(uh Hb).symm.trans e⟩
 have hat:Z8 (Y3 m k may).sm k=Wk (Z8 m.sm k) may:=by
  show Z8 (m.sm.set k _) k=_;rw [ZJ hk,if_pos rfl]
 go_wp2_with fail;have hofX:∀ k,Wg (.slice xa0 m.rm.length xp0) (.slice xa1 m.gd.length xp1) (.slice (some ⟨g2,0,none⟩) m.sm.length xp2) (.slice xa3 m.dk.length xp3) (.slice xa4 m.pc.length xp4) xq k->k ≠ xb:=fun k e=>by have:=(uh LX k e).2;omega
 refine (Um (m:=Y3 m k may) (k:=k) (bn:=bn) (b:=bb) (uh kx) (uh HP) (fun e=>hofX _ (.inr (.inr (.inr (.inl e)))) rfl) (fun e=>hofX _ (.inr (.inr (.inr (.inr (.inl e))))) rfl) (by show k<(m.sm.set k _).length;simp;omega) (by rw [hat,uh Hrk];rfl) hbnl hbb).mono ?_;rintro e w7 ⟨rfl,hf7,ht7⟩;rw [hat] at hf7;replace kx:=Z9 ((uh kx).two ht7 (fun e=>hofX _ (.inr (.inr (.inr (.inl e)))) rfl) (fun e=>hofX _ (.inr (.inr (.inr (.inr (.inl e))))) rfl));replace kr:=Z9 ((uh kr).two ht7 (fun e=>by have:=(uh LX _ (.inr (.inr (.inr (.inl e))))).1;omega) (fun e=>by have:=(uh LX _ (.inr (.inr (.inr (.inr (.inl e)))))).1;omega));replace BB:=Z9 ((uh BB).trans (ht7.below (uh BB).size (fun k e=>by have:=(uh LX k (.inr (.inr (.inr (.inl e))))).1;omega) (fun k e=>by have:=(uh LX k (.inr (.inr (.inr (.inr (.inl e)))))).1;omega)));replace HP:=Z9 hf7;clear hf7 ht7 hat hofX HO ko ks;go_wp2_with fail;refine (UZ (m:=setS (Y3 m k may) k (putS (Y3 m k may) (Wk (Z8 m.sm k) may) (bb:Int))) (uh kx) (uh HP) (fun k e=>by have:=(uh LX k e).2;omega) (uh kr) (uh BB) (by show ((m.sm.set k _).set k _).length<=800;have:=hfw.sm;simp;omega) hfw.dk).mono ?_;clear kr BB;rintro e w9 ⟨rfl,HF9,kr,BB⟩;obtain ⟨o0,o1,o2,o3,o4,o5⟩:=(uh kr).c6;obtain ⟨f0,f1,f2,f3,f4,f5⟩:=(uh kr).f6;go_wp2_with fail;have hX0:X=(ZN (setS (Y3 m k may) k (putS (Y3 m k may) (Wk (Z8 m.sm k) may) (bb:Int))),0):=by rw [<-uh HX];unfold XW;rw [uh Hok,uh Hqw];simp only [if_true,Zz];rw [uh Hpb];simp only [if_true];rw [uh Hp0,uh Hq0];simp only [Bool.not_false,Bool.and_self,if_true];rw [uh Hb,if_neg (by omega)]
 have hnow:(ZN (setS (Y3 m k may) k (putS (Y3 m k may) (Wk (Z8 m.sm k) may) (bb:Int)))).now=m.now:=(ZG _ _).2.2.2.1;exact ZS (v:= .tuple #[.agg (S6 xa0 xp0 xa1 xp1 (some ⟨g2,0,none⟩) xp2 xa3 xp3 xa4 xp4 m),.int .i64 0]) (by simp [results,Tryz.results27,go_sem,setS,TI,Yc,pushS,Y3, *]) rfl (Zb hX0 hnow (uh HF9) (uh BB))
theorem Sd  (who:Int) (lo:Int) (hi:Int) (h:Smy w v0 v1 v2 v3 v4 m) :
  Calls Tryz.prog 28 #[.agg #[v0,v1,v2,v3,v4,.int .i64 m.now],.int .i64 who,.int .i64 lo,.int .i64 hi] w fun e w'=>TX w.heap.size (XD m who lo hi).1 (XD m who lo hi).2 e w'/\Below w.heap.size w w':=by
 obtain ⟨X,hX⟩:∃ x,XD m who lo hi=x:=⟨_,rfl⟩
 rw [hX];have HX:=Z9 hX;clear hX;have Hv0:=Z9 h;obtain ⟨a0,p0,a1,p1,a2,p2,a3,p3,a4,p4,rfl,rfl,rfl,rfl,rfl,_,_,_,_,_,_,_,_,_,_⟩:=h.five;clear h;obtain ⟨ok,hok⟩:∃ q,ZI m=q:=⟨_,rfl⟩
 have Hok:=Z9 hok;clear hok;go_enter Tryz.func28,Tryz.ntmps28;go_wp2_with fail;obtain ⟨W,hW,kb,kr,BB⟩:=YG w 32 (S6 a0 p0 a1 p1 a2 p2 a3 p3 a4 p4 m) 32 E6;have Hv:=Z9 ((uh Hv0).below (uh BB));clear Hv0;rw [hW];clear hW;refine ck (XN (uh Hok) (uh Hv)) fun w1 hb=> ?_;replace kb:=bl kb hb;replace kr:=bl kr hb;replace Hv:=Z9 ((uh Hv).below hb);replace BB:=bt BB hb;clear hb;cases ok
 ·
  obtain ⟨c0,c1,c2,c3,c4,c5⟩:=(uh kb).c6;go_wp2_with fail;clear c0 c1 c2 c3 c4 c5;refine ck (XY (uh Hv)) fun w2 hb=> ?_;replace kb:=bl kb hb;replace kr:=bl kr hb;replace Hv:=Z9 ((uh Hv).below hb);replace BB:=bt BB hb;clear hb;obtain ⟨o0,o1,o2,o3,o4,o5⟩:=(uh kr).c6;obtain ⟨f0,f1,f2,f3,f4,f5⟩:=(uh kr).f6;go_wp2_with fail;have hX0:X=(Yj,3):=by rw [<-uh HX];unfold XD;rw [uh Hok];rfl
  exact ZS (v:= .tuple #[.agg E6,.int .i64 3]) (by simp [results,Tryz.results28,go_sem, *]) rfl (Zb hX0 rfl (Yr _ _) (uh BB))
 have hlo:=ZK (uh Hok);have HLo:=Z9 hlo;have HFew:=Z9 (WK hlo);clear hlo;obtain ⟨c0,c1,c2,c3,c4,c5⟩:=(uh kb).c6;go_wp2_with fail;clear c0 c1 c2 c3 c4 c5;refine (T6 (uh Hv) (uh HFew) (uh kb) (uh kr) (uh BB)).mono ?_;clear kb kr Hv BB;rintro e w2 ⟨b0,q0,b1,q1,b2,q2,b3,q3,b4,q4,oq,rfl,W2,ob,hW2,hob2,kb,kr,Hv,HO,ko,LO,hob,BB⟩;go_upto_region 4 with fail
 (try rw [hW2])
 (try rw [hob2])
 clear hW2 hob2;obtain ⟨qw,hqw⟩:∃ q,WU m who=q:=⟨_,rfl⟩
 have Hqw:=Z9 hqw;clear hqw;obtain ⟨c0,c1,c2,c3,c4,c5⟩:=(uh kb).c6;go_wp2_with fail;clear c0 c1 c2 c3 c4 c5;refine ck (Ul (uh Hqw) (uh Hv)) fun w3 hb=> ?_;replace kb:=bl kb hb;replace kr:=bl kr hb;replace Hv:=Z9 ((uh Hv).below hb);replace HO:=Z9 ((uh HO).below hb);replace ko:=bl ko hb;replace BB:=bt BB hb;clear hb;cases qw
 ·
  obtain ⟨x0,x1,x2,x3,x4,x5⟩:=(uh ko).c6;obtain ⟨o0,o1,o2,o3,o4,o5⟩:=(uh kr).c6;obtain ⟨f0,f1,f2,f3,f4,f5⟩:=(uh kr).f6;go_wp2_with fail;have hX0:X=(m,1):=by rw [<-uh HX];unfold XD;rw [uh Hok,uh Hqw];rfl
  exact ZS (v:= .tuple #[.agg (S6 b0 q0 b1 q1 b2 q2 b3 q3 b4 q4 m),.int .i64 1]) (by simp [results,Tryz.results28,go_sem, *]) rfl (Zb hX0 rfl (uh HO) (uh BB))
 obtain ⟨k,rfl,hk,hs0⟩:=Yl (uh Hqw);have hk1:(k:Int)<(m.sm.length:Int):=by omega
 obtain ⟨pb,hpb⟩:∃ q,Yx lo hi=q:=⟨_,rfl⟩
 have Hpb:=Z9 hpb;clear hpb;go_wp2_with fail;refine (YI lo hi _).mono ?_;rw [uh Hpb];rintro e w9 ⟨rfl,hw9⟩;subst w9;cases pb
 ·
  obtain ⟨x0,x1,x2,x3,x4,x5⟩:=(uh ko).c6;obtain ⟨o0,o1,o2,o3,o4,o5⟩:=(uh kr).c6;obtain ⟨f0,f1,f2,f3,f4,f5⟩:=(uh kr).f6;go_wp2_with fail;have hX0:X=(m,3):=by rw [<-uh HX];unfold XD;rw [uh Hok,uh Hqw];simp only [if_true];rw [uh Hpb];rfl
  exact ZS (v:= .tuple #[.agg (S6 b0 q0 b1 q1 b2 q2 b3 q3 b4 q4 m),.int .i64 3]) (by simp [results,Tryz.results28,go_sem, *]) rfl (Zb hX0 rfl (uh HO) (uh BB))
 obtain ⟨g2,hga,_,_,hc2,hz2⟩:=RecAt.view ZX (by omega) (uh HO).sm rfl (by omega);cases hga;have hg2o:=(uh LO g2 (.inr (.inr (.inr (.inl rfl)))))
 have x2:=(uh ko).cell (i:=2) (v:= .slice (some ⟨g2,0,none⟩) m.sm.length q2) rfl;have s0:=hc2 k hk 5 _ rfl;have f0:=hz2 (k*11+5);have hp0:=(uh HO).putS rfl (j:=k) (i:=5) hk (by omega) (.int .i64 lo) (((Z8 m.sm k).1,(Z8 m.sm k).2.1,(Z8 m.sm k).2.2.1,(Z8 m.sm k).2.2.2.1,(Z8 m.sm k).2.2.2.2.1,lo,(Z8 m.sm k).2.2.2.2.2.2)) rfl;have hl1:(m.sm.set k (((Z8 m.sm k).1,(Z8 m.sm k).2.1,(Z8 m.sm k).2.2.1,(Z8 m.sm k).2.2.2.1,(Z8 m.sm k).2.2.2.2.1,lo,(Z8 m.sm k).2.2.2.2.2.2))).length=m.sm.length:=by simp
 have hr1:Z8 (m.sm.set k (((Z8 m.sm k).1,(Z8 m.sm k).2.1,(Z8 m.sm k).2.2.1,(Z8 m.sm k).2.2.2.1,(Z8 m.sm k).2.2.2.2.1,lo,(Z8 m.sm k).2.2.2.2.2.2))) k=(((Z8 m.sm k).1,(Z8 m.sm k).2.1,(Z8 m.sm k).2.2.1,(Z8 m.sm k).2.2.2.1,(Z8 m.sm k).2.2.2.2.1,lo,(Z8 m.sm k).2.2.2.2.2.2)):=by rw [ZJ hk,if_pos rfl]
 have hp1:=hp0.putS hl1.symm (j:=k) (i:=6) (by show k<(m.sm.set k _).length;omega) (by omega) (.int .i64 hi) (Jk (Z8 m.sm k) lo hi) (by show ZU (Jk (Z8 m.sm k) lo hi)=(ZU (Z8 (m.sm.set k (((Z8 m.sm k).1,(Z8 m.sm k).2.1,(Z8 m.sm k).2.2.1,(Z8 m.sm k).2.2.2.1,(Z8 m.sm k).2.2.2.2.1,lo,(Z8 m.sm k).2.2.2.2.2.2))) k)).set 6 _;rw [hr1];rfl);obtain ⟨_,hga,_,_,hd1,hy1⟩:=RecAt.view ZX (by omega) hp0.sm hl1.symm (by show 0<(m.sm.set k _).length;omega);cases hga;have s1:=hd1 k (by show k<(m.sm.set k _).length;omega) 6 _ rfl;have f1:=hy1 (k*11+6);simp only [List.set_set] at hp1;have x2':=((uh ko).other (a:=⟨g2,k*11+5,none⟩) (by show ob ≠ g2;omega) (.int .i64 lo)).cell (i:=2) (v:= .slice (some ⟨g2,0,none⟩) m.sm.length q2) rfl;have HP:=Z9 hp1;clear hc2 hz2 HO hp0 hp1;go_upto_region 10 with fail;clear s0 s1 f0 f1 x2;replace ko:Hid (Blk (((w3).setCell ⟨g2,k*11+5,none⟩ (.int .i64 lo)).setCell ⟨g2,k*11+6,none⟩ (.int .i64 hi)) ob 32 (S6 b0 q0 b1 q1 (some ⟨g2,0,none⟩) q2 b3 q3 b4 q4 m)):=Z9 (((uh ko).other (a:=⟨g2,k*11+5,none⟩) (by show ob ≠ g2;omega) (.int .i64 lo)).other (a:=⟨g2,k*11+6,none⟩) (by show ob ≠ g2;omega) (.int .i64 hi));replace kr:Hid (Blk (((w3).setCell ⟨g2,k*11+5,none⟩ (.int .i64 lo)).setCell ⟨g2,k*11+6,none⟩ (.int .i64 hi)) (w.heap.size+1) 32 E6):=Z9 (((uh kr).other (a:=⟨g2,k*11+5,none⟩) (by show w.heap.size+1 ≠ g2;omega) (.int .i64 lo)).other (a:=⟨g2,k*11+6,none⟩) (by show w.heap.size+1 ≠ g2;omega) (.int .i64 hi));replace BB:Hid (Below w.heap.size w (((w3).setCell ⟨g2,k*11+5,none⟩ (.int .i64 lo)).setCell ⟨g2,k*11+6,none⟩ (.int .i64 hi))):=Z9 (((uh BB).setCell (p:=⟨g2,k*11+5,none⟩) (by show w.heap.size<=g2;omega) (.int .i64 lo)).setCell (p:=⟨g2,k*11+6,none⟩) (by show w.heap.size<=g2;omega) (.int .i64 hi));clear kb Hv;generalize ((w3).setCell ⟨g2,k*11+5,none⟩ (.int .i64 lo)).setCell ⟨g2,k*11+6,none⟩ (.int .i64 hi)=W3 at *;have hfw:=uh HFew;go_wp2_with fail;refine (UZ (m:=setS m k (Jk (Z8 m.sm k) lo hi)) (uh ko) (uh HP) (fun k e=>by have:=(uh LO k e).2;omega) (uh kr) (uh BB) (by show (m.sm.set k _).length<=800;have:=hfw.sm;simp;omega) hfw.dk).mono ?_;clear kr BB;rintro e w4 ⟨rfl,HF9,kr,BB⟩;obtain ⟨o0,o1,o2,o3,o4,o5⟩:=(uh kr).c6;obtain ⟨f0,f1,f2,f3,f4,f5⟩:=(uh kr).f6;go_wp2_with fail;have hX0:X=(ZN (setS m k (Jk (Z8 m.sm k) lo hi)),0):=by rw [<-uh HX];unfold XD;rw [uh Hok,uh Hqw];simp only [if_true,Zz];rw [uh Hpb];rfl
 have hnow:(ZN (setS m k (Jk (Z8 m.sm k) lo hi))).now=m.now:=(ZG _ _).2.2.2.1;exact ZS (v:= .tuple #[.agg (S6 b0 q0 b1 q1 (some ⟨g2,0,none⟩) q2 b3 q3 b4 q4 m),.int .i64 0]) (by simp [results,Tryz.results28,go_sem,setS,TI,Yc,pushS, *]) rfl (Zb hX0 hnow (uh HF9) (uh BB))
theorem OQ (h:Loose m):0<m.pc.length:=by
 rw [VX h];have hd:=h.head;unfold YD at hd;simp only [ZM,YW] at hd;have:=(Zo hd.1).1;omega
theorem N7 {R n₀:Nat}  {qs:List (ZZ × Value)} {nw:Int} (hn:m.now=nw) (kb:Blk w R 32 #[v0,v1,v2,v3,v4,.int .i64 nw]) (hf:FullSmy n₀ w v0 v1 v2 v3 v4 m qs) (h2:v2.ownBlock ≠ some R) (h3:v3.ownBlock ≠ some R) (hl:m.sm.length<=800) (hd:m.dk.length<=1000) :
  Calls Tryz.prog 51 #[.pointer (some ⟨R,0,none⟩)] w fun e w'=>e= .returned (.tuple #[.agg #[v0,v1,v2,v3,v4,.int .i64 nw],.int .i64 0])/\FullSmy n₀ w' v0 v1 v2 v3 v4 (ZN m) qs/\Two v2.ownBlock v3.ownBlock w w':=by
 subst hn;exact Ry kb hf h2 h3 hl hd
theorem Em  (h:Smy w v0 v1 v2 v3 v4 m) (hok:ZI m=true) :
  Calls Tryz.prog 256 #[.agg #[v0,v1,v2,v3,v4,.int .i64 m.now]] w fun e w'=>TX w.heap.size (DL m) 0 e w'/\Below w.heap.size w w':=by
 obtain ⟨X,hX⟩:∃ x,DL m=x:=⟨_,rfl⟩
 rw [hX];have HX:=Z9 hX;clear hX;have Hv0:=Z9 h;obtain ⟨a0,p0,a1,p1,a2,p2,a3,p3,a4,p4,rfl,rfl,rfl,rfl,rfl,_,_,_,_,_,_,_,_,_,_⟩:=h.five;clear h;have Hok:=Z9 hok;clear hok;go_enter Tryz.func256,Tryz.ntmps256;go_wp2_with fail;have kb:Hid (Blk ((w.alloc (.cells (S6 a0 p0 a1 p1 a2 p2 a3 p3 a4 p4 m) 32)).alloc (.cells E6 32)) w.heap.size 32 (S6 a0 p0 a1 p1 a2 p2 a3 p3 a4 p4 m)):=Z9 ((Blk.new w _ _).alloc _)
 have kr:Hid (Blk ((w.alloc (.cells (S6 a0 p0 a1 p1 a2 p2 a3 p3 a4 p4 m) 32)).alloc (.cells E6 32)) (w.heap.size+1) 32 E6):=Z9 (by
  have k:=Blk.new (w.alloc (.cells (S6 a0 p0 a1 p1 a2 p2 a3 p3 a4 p4 m) 32)) 32 E6;rw [ZB] at k
  exact k)
 have BB:Hid (Below w.heap.size w ((w.alloc (.cells (S6 a0 p0 a1 p1 a2 p2 a3 p3 a4 p4 m) 32)).alloc (.cells E6 32))):=Z9 (((ba _ _)).alloc (by simp) _);have Hv:=Z9 ((uh Hv0).below (uh BB));generalize (w.alloc (.cells (S6 a0 p0 a1 p1 a2 p2 a3 p3 a4 p4 m) 32)).alloc (.cells E6 32)=w1 at *;have hlo:=ZK (uh Hok);have HLo:=Z9 hlo;have HFew:=Z9 (WK hlo);clear hlo;have hWs:w.heap.size+2<=w1.heap.size:=by have:=(uh kr).lt;omega
 refine (XT (uh Hv) (uh HFew)).mono ?_;rintro e w2 ⟨y0,y1,y2,y3,y4,oq,rfl,ho,hb⟩;have k9:=ho.smy;obtain ⟨b0,q0,b1,q1,b2,q2,b3,q3,b4,q4,rfl,rfl,rfl,rfl,rfl,_,_,_,_,_,_,_,_,_,_⟩:=k9.five;clear k9;replace kb:=bl kb hb;replace kr:=bl kr hb;replace Hv:=Z9 ((uh Hv).below hb);replace BB:=bt BB hb;have HO:=Z9 (ho.mono hWs);have LO:Hid (∀ k,Wg (.slice b0 m.rm.length q0) (.slice b1 m.gd.length q1) (.slice b2 m.sm.length q2) (.slice b3 m.dk.length q3) (.slice b4 m.pc.length q4) oq k->w.heap.size+2<=k/\k<w2.heap.size):=Z9 (fun k e=>(uh HO).own e);have hsz9:=hb.size;clear ho hb;go_upto_region 2 with fail;obtain ⟨W2,hW2,hba,ko⟩:=YF w2 32 (S6 b0 q0 b1 q1 b2 q2 b3 q3 b4 q4 m);replace kb:=bl kb hba;replace kr:=bl kr hba;replace Hv:=Z9 ((uh Hv).below hba);replace HO:=Z9 ((uh HO).below hba);replace BB:=bt BB hba;have hob:w.heap.size+2<=w2.heap.size:=XH hWs hsz9;clear hba hsz9 hWs;rw [hW2];clear hW2;generalize w2.heap.size=ob at *;have hpp:=OQ (uh HLo);have hpr:=VX (uh HLo);have HSn:=Z9 (uh HLo).sane;have hp9:=(uh HFew).pc;obtain ⟨g4,hga,_,hg4w,_,_⟩:=RecAt.view YH (by omega) (uh HO).pc rfl (by omega);cases hga;have hg4o:=(uh LO g4 (.inr (.inr (.inr (.inr (.inr rfl))))))
 have Hpr:=Z9 hpr;clear hpr hp9;go_wp2_with fail
 go_loopw [5] (fun i wr=> ∃ k:Nat,k<=m.pc.length/\i= .int .i64 k/\FullSmy (w.heap.size+2) wr (.slice b0 m.rm.length q0) (.slice b1 m.gd.length q1) (.slice b2 m.sm.length q2) (.slice b3 m.dk.length q3) (.slice (some ⟨g4,0,none⟩) m.pc.length q4) (Pj m k) oq/\Two none (some g4) W2 wr) (fun i _=>m.pc.length-(intOf i).toNat)
 case atStart=>exact ⟨0,ZA _,rfl,uh HO,Two.refl _ _ _⟩
 case round=>
  obtain ⟨k,hk,rfl,hf1,htw⟩:=hrel;have hbw:=(uh BB).trans (htw.below (uh BB).size (fun _ e=>by cases e) (fun j e=>by cases e;omega));have B1:=Z9 hbw;have Hv1:=Z9 ((uh Hv0).below hbw);have kb1:=Z9 ((uh kb).two htw (by simp) (fun e=>by cases e;omega));have ko1:=Z9 ((uh ko).two htw (by simp) (fun e=>by cases e;omega));have kr1:=Z9 ((uh kr).two htw (by simp) (fun e=>by cases e;omega));have HF1:=Z9 hf1;have Tw:=Z9 htw;clear hbw hf1 htw;by_cases hlt:k<m.pc.length
  ·
   obtain ⟨c0,c1,c2,c3,c4,c5⟩:=(uh kb1).c6;have x4:=(uh ko1).cell (i:=4) (v:= .slice (some ⟨g4,0,none⟩) m.pc.length q4) rfl;have hkp1:(k:Int)<(m.pc.length:Int):=by omega
   go_wp2_with fail;refine ZP (S:=fun w'=>w'.cell? ⟨w.heap.size,0,none⟩=some (.slice a0 m.rm.length p0)/\w'.cell? ⟨w.heap.size,1,none⟩=some (.slice a1 m.gd.length p1)/\w'.cell? ⟨w.heap.size,2,none⟩=some (.slice a2 m.sm.length p2)/\w'.cell? ⟨w.heap.size,3,none⟩=some (.slice a3 m.dk.length p3)/\w'.cell? ⟨w.heap.size,4,none⟩=some (.slice a4 m.pc.length p4)/\w'.cell? ⟨w.heap.size,5,none⟩=some (.int .i64 m.now)/\w'.cell? ⟨ob,4,none⟩=some (.slice (some ⟨g4,0,none⟩) m.pc.length q4)) (by kernel_rfl) (Xs _ _) (by kernel_rfl) ⟨c0,c1,c2,c3,c4,c5,x4⟩ (fun hHeld=> ?_);clear c0 c1 c2 c3 c4 c5 x4;simp only [Xt,Xu,YT,YM,Nat.zero_add,Nat.reduceAdd]
   iterate 5 refine tz ?_
   refine rd 5 rfl (fun K hK=> ?_);go_simp;refine ck (KJ (r:=k) ((uh Hv1).below (Z1 _ _).drew) (uh HSn) (by rw [<-uh Hpr];exact hlt)) fun w9 hb8=> ?_;have hb9:Below wr.heap.size wr w9:=(Z1 wr.heap.size wr).drew.trans hb8;clear hb8;have kb9:=(uh kb1).below hb9 (uh kb1).lt;have ko9:=(uh ko1).below hb9 (uh ko1).lt;refine hK.out _ _ ⟨kb9.cell (i:=0) rfl,kb9.cell (i:=1) rfl,kb9.cell (i:=2) rfl,kb9.cell (i:=3) rfl,kb9.cell (i:=4) rfl,kb9.cell (i:=5) rfl,ko9.cell (i:=4) rfl⟩ (fun hHeld=> ?_);clear hK K kb9 ko9
   (try simp only [Act.put,sA,sZ,sS])
   have HF9:=Z9 ((uh HF1).below hb9);have T9:=Z9 ((uh Tw).trans (Two.of_below hb9));have hal:m.pc.length=(Pj m k).pc.length:=(QN m k).2.2.2.2.2.symm;obtain ⟨_,hga,_,_,hc4,hz4⟩:=RecAt.view YH (by omega) (uh HF9).pc hal (by omega);cases hga;have s0:=hc4 k (by omega) 0 _ rfl;have f0:=hz4 k;have hput:=(uh HF9).putP hal (j:=k) (by omega) (SW m k);simp only [Nat.add_zero,Nat.mul_one] at s0;have HP:=Z9 hput;clear hc4 hz4 hput hb9 hal;refine tp 6 ?_;refine wpAnyH_done (by kernel_rfl) ?_ _;refine ZF rfl rfl ?_;go_simp;clear hHeld;go_wp2_with fail;go_roundw
   case rel=>exact ⟨k+1,by omega,by go_num,uh HP,(uh T9).trans (Two.of_set _ (.inr rfl) _ _)⟩
   case measure=>exact ms
  ·
   obtain rfl:k=m.pc.length:=by omega
   have c4:=(uh kb1).cell (i:=4) (v:= .slice a4 m.pc.length p4) rfl;have hno:¬ ((m.pc.length:Nat):Int)<(m.pc.length:Int):=by omega
   obtain ⟨e1,e2,e3,e4,e5,e6⟩:=QN m m.pc.length;have hfw:=uh HFew;go_wp2_with fail;have hofR:∀ k,Wg (.slice b0 m.rm.length q0) (.slice b1 m.gd.length q1) (.slice b2 m.sm.length q2) (.slice b3 m.dk.length q3) (.slice (some ⟨g4,0,none⟩) m.pc.length q4) oq k->k ≠ ob:=fun k e=>by have:=(uh LO k e).2;omega
   refine (N7 (m:=Pj m m.pc.length) e5 (uh ko1) (uh HF1) (fun e=>hofR _ (.inr (.inr (.inr (.inl e)))) rfl) (fun e=>hofR _ (.inr (.inr (.inr (.inr (.inl e))))) rfl) (by rw [e3];have:=hfw.sm;omega) (by rw [e4];exact hfw.dk)).mono ?_;rintro e w3 ⟨rfl,hf9,ht9⟩;replace kr:=Z9 ((uh kr1).two ht9 (fun e=>by have:=(uh LO _ (.inr (.inr (.inr (.inl e))))).1;omega) (fun e=>by have:=(uh LO _ (.inr (.inr (.inr (.inr (.inl e)))))).1;omega));replace BB:=Z9 ((uh B1).trans (ht9.below (uh B1).size (fun k e=>by have:=(uh LO k (.inr (.inr (.inr (.inl e))))).1;omega) (fun k e=>by have:=(uh LO k (.inr (.inr (.inr (.inr (.inl e)))))).1;omega)));have hnow:(ZN (Pj m m.pc.length)).now=m.now:=(ZG _ _).2.2.2.1.trans e5;have HF9:=Z9 hf9;have Hn9:=Z9 hnow;clear hf9 ht9 hofR e1 e2 e3 e4 e5 e6 hnow c4;obtain ⟨o0,o1,o2,o3,o4,o5⟩:=(uh kr).c6;obtain ⟨f0,f1,f2,f3,f4,f5⟩:=(uh kr).f6;go_wp2_with fail;refine ZS (v:= .tuple #[.agg (S6 b0 q0 b1 q1 b2 q2 b3 q3 (some ⟨g4,0,none⟩) q4 m),.int .i64 0]) (by simp [results,Tryz.results256,go_sem, *]) rfl ⟨?_,?_⟩
   ·rw [<-uh HX];refine ⟨_,_,_,_,_,oq,by unfold DL;rw [uh Hn9],?_⟩
    iterate 6 (refine FullSmy.set_off ?_ (fun k e=>by have:=(uh LO k e).1;omega) _ _)
    exact (uh HF9).mono (by omega)
   ·iterate 6 (refine YS ?_ (by show _<=w.heap.size+1;omega) _)
    exact uh BB
theorem yn {x y:Nat} (hx:x<256) (hy:y<256):bits .or .i64 (x:Int) (y:Int)=((x ||| y:Nat):Int):=by
 have ex:((x:Int)%((2 ^ 64:Nat):Int)).toNat=x:=by omega
 have ey:((y:Int)%((2 ^ 64:Nat):Int)).toNat=y:=by omega
 have key:(BitVec.ofInt 64 (x:Int) ||| BitVec.ofInt 64 (y:Int)).toNat=x ||| y:=by
  rw [BitVec.toNat_or,BitVec.toNat_ofInt,BitVec.toNat_ofInt,ex,ey]
 show IntKind.i64.wrap ((BitVec.ofInt 64 (x:Int) ||| BitVec.ofInt 64 (y:Int)).toNat:Nat)=_
 have h8:x ||| y<2 ^ 8:=Nat.or_lt_two_pow hx hy
 rw [key,IntKind.wrap_i64];omega
theorem yT {x y:Nat} (hx:x<256) (hy:y<256):bits .and .i64 (x:Int) (y:Int)=((x &&& y:Nat):Int):=by
 have ex:((x:Int)%((2 ^ 64:Nat):Int)).toNat=x:=by omega
 have ey:((y:Int)%((2 ^ 64:Nat):Int)).toNat=y:=by omega
 have key:(BitVec.ofInt 64 (x:Int) &&& BitVec.ofInt 64 (y:Int)).toNat=x &&& y:=by
  rw [BitVec.toNat_and,BitVec.toNat_ofInt,BitVec.toNat_ofInt,ex,ey]
 show IntKind.i64.wrap ((BitVec.ofInt 64 (x:Int) &&& BitVec.ofInt 64 (y:Int)).toNat:Nat)=_;have h8:x &&& y<=x:=Nat.and_le_left;rw [key,IntKind.wrap_i64];omega
theorem Cj {b k:Nat} (h:((Z8 m.dk k).1 && !(k ==b))=true):Y1 m b (k+1)=Y1 m b k ||| 2 ^ k:=by show (if _ then _ else _)=_;rw [if_pos h]
theorem AE {b k:Nat} (h:((Z8 m.dk k).1 && !(k ==b))=false):Y1 m b (k+1)=Y1 m b k:=by show (if _ then _ else _)=_;rw [if_neg (by rw [h];simp)]
theorem Ca (s:Z3):Wk s s.2.2.2.1=s:=rfl
theorem EW {α:Type} [Inhabited α] {xs:List α} {k:Nat} (hk:k<xs.length):xs.set k (Z8 xs k)=xs:=by
 unfold Z8;rw [List.getD,List.getElem?_eq_getElem hk];exact List.set_getElem_self hk
theorem FP {op:Nat} {w:Nat} (hw:w<m.sm.length) (h:(Z8 m.sm w).2.2.2.1.toNat &&& op ≠ 0):closeX op m w=m:=by
 unfold closeX Y3 RD;rw [if_neg h,Ca];unfold setS;rw [EW hw]
theorem DW {op:Nat} {w:Nat} (h:(Z8 m.sm w).2.2.2.1.toNat &&& op=0):closeX op m w=setS m w (Wk (Z8 m.sm w) (Ys m.dk.length)):=by
 unfold closeX Y3 RD;rw [if_pos h]
theorem MG  (b:Int) (h:Smy w v0 v1 v2 v3 v4 m) :
  Calls Tryz.prog 33 #[.agg #[v0,v1,v2,v3,v4,.int .i64 m.now],.int .i64 b] w fun e w'=>TX w.heap.size (V3 m b).1 (V3 m b).2 e w'/\Below w.heap.size w w':=by
 obtain ⟨X,hX⟩:∃ x,V3 m b=x:=⟨_,rfl⟩
 rw [hX];have HX:=Z9 hX;clear hX;have Hv0:=Z9 h;obtain ⟨a0,p0,a1,p1,a2,p2,a3,p3,a4,p4,rfl,rfl,rfl,rfl,rfl,_,_,_,_,_,_,_,_,_,_⟩:=h.five;clear h;obtain ⟨ok,hok⟩:∃ q,ZI m=q:=⟨_,rfl⟩
 have Hok:=Z9 hok;clear hok;go_enter Tryz.func33,Tryz.ntmps33;go_wp2_with fail;obtain ⟨W,hW,kb,kr,BB⟩:=YG w 32 (S6 a0 p0 a1 p1 a2 p2 a3 p3 a4 p4 m) 32 E6;have Hv:=Z9 ((uh Hv0).below (uh BB));rw [hW];clear hW;refine ck (XN (uh Hok) (uh Hv)) fun w1 hb=> ?_;replace kb:=bl kb hb;replace kr:=bl kr hb;replace Hv:=Z9 ((uh Hv).below hb);replace BB:=bt BB hb;clear hb;cases ok
 ·
  obtain ⟨c0,c1,c2,c3,c4,c5⟩:=(uh kb).c6;go_wp2_with fail;clear c0 c1 c2 c3 c4 c5;refine ck (XY (uh Hv)) fun w2 hb=> ?_;replace kb:=bl kb hb;replace kr:=bl kr hb;replace Hv:=Z9 ((uh Hv).below hb);replace BB:=bt BB hb;clear hb;obtain ⟨o0,o1,o2,o3,o4,o5⟩:=(uh kr).c6;obtain ⟨f0,f1,f2,f3,f4,f5⟩:=(uh kr).f6;go_wp2_with fail;have hX0:X=(Yj,3):=by rw [<-uh HX];unfold V3;rw [uh Hok];rfl
  exact ZS (v:= .tuple #[.agg E6,.int .i64 3]) (by simp [results,Tryz.results33,go_sem, *]) rfl (Zb hX0 rfl (Yr _ _) (uh BB))
 have hlo:=ZK (uh Hok);have HLo:=Z9 hlo;have HFew:=Z9 (WK hlo);clear hlo;obtain ⟨c0,c1,c2,c3,c4,c5⟩:=(uh kb).c6;go_wp2_with fail;clear c0 c1 c2 c3 c4 c5;refine (T6 (uh Hv) (uh HFew) (uh kb) (uh kr) (uh BB)).mono ?_;clear kb kr Hv BB;rintro e w2 ⟨b0,q0,b1,q1,b2,q2,b3,q3,b4,q4,oq,rfl,W2,ob,hW2,hob2,kb,kr,Hv,HO,ko,LO,hob,BB⟩;go_upto_region 4 with fail
 (try rw [hW2])
 (try rw [hob2])
 clear hW2 hob2;obtain ⟨qb,hqb⟩:∃ q,Ug m b=q:=⟨_,rfl⟩
 have Hqb:=Z9 hqb;clear hqb;obtain ⟨c0,c1,c2,c3,c4,c5⟩:=(uh kb).c6;go_wp2_with fail;clear c0 c1 c2 c3 c4 c5;refine ck (L9 (uh Hqb) (uh Hv)) fun w3 hb=> ?_;replace kb:=bl kb hb;replace kr:=bl kr hb;replace Hv:=Z9 ((uh Hv).below hb);replace HO:=Z9 ((uh HO).below hb);replace ko:=bl ko hb;replace BB:=bt BB hb;clear hb;cases qb
 ·
  obtain ⟨x0,x1,x2,x3,x4,x5⟩:=(uh ko).c6;obtain ⟨o0,o1,o2,o3,o4,o5⟩:=(uh kr).c6;obtain ⟨f0,f1,f2,f3,f4,f5⟩:=(uh kr).f6;go_wp2_with fail;have hX0:X=(m,1):=by rw [<-uh HX];unfold V3;rw [uh Hok];simp only [if_true];rw [uh Hqb];rfl
  exact ZS (v:= .tuple #[.agg (S6 b0 q0 b1 q1 b2 q2 b3 q3 b4 q4 m),.int .i64 1]) (by simp [results,Tryz.results33,go_sem, *]) rfl (Zb hX0 rfl (uh HO) (uh BB))
 obtain ⟨bk,rfl,hbk⟩:=FG (uh Hqb);have hbk1:(bk:Int)<(m.dk.length:Int):=by omega
 have h8:=VR (uh HLo);obtain ⟨op0,hop0⟩:∃ q,(Z8 m.dk bk).1=q:=⟨_,rfl⟩
 have Hop0:=Z9 hop0;obtain ⟨_,_,hde,_,_,r3⟩:=(uh Hv).dk;cases hde
 rcases r3 with e0 | ⟨db,doff,rfl,hdw,hcl⟩
 ·rw [e0] at hbk;simp at hbk
 obtain ⟨d0,_,_⟩:=Y4 hcl hbk;rw [hop0] at d0;have Hcl:=Z9 hcl;have c3:=(uh kb).cell (i:=3) (v:= .slice (some ⟨db,doff,none⟩) m.dk.length p3) rfl;clear hcl hop0;cases op0
 ·
  obtain ⟨x0,x1,x2,x3,x4,x5⟩:=(uh ko).c6;obtain ⟨o0,o1,o2,o3,o4,o5⟩:=(uh kr).c6;obtain ⟨f0,f1,f2,f3,f4,f5⟩:=(uh kr).f6;go_wp2_with fail;have hX0:X=(m,2):=by rw [<-uh HX];unfold V3;rw [uh Hok];simp only [if_true];rw [uh Hqb];simp only [if_true,Zz];rw [uh Hop0];rfl
  exact ZS (v:= .tuple #[.agg (S6 b0 q0 b1 q1 b2 q2 b3 q3 b4 q4 m),.int .i64 2]) (by simp [results,Tryz.results33,go_sem, *]) rfl (Zb hX0 rfl (uh HO) (uh BB))
 go_wp2_with fail;clear d0
 go_loopw [7,8] (fun u i wr=> ∃ k:Nat,k<=m.dk.length/\i= .int .i64 k/\u= .int .i64 ((Y1 m bk k:Nat):Int)/\wr=w3) (fun _ i _=>m.dk.length-(intOf i).toNat)
 case atStart=>exact ⟨0,ZA _,rfl,rfl,rfl⟩
 case round=>
  obtain ⟨k,hk,rfl,rfl,hwr⟩:=hrel;subst wr;by_cases hlt:k<m.dk.length
  ·
   have hlt1:(k:Int)<(m.dk.length:Int):=by omega
   obtain ⟨d0,_,_⟩:=Y4 (uh Hcl) hlt;obtain ⟨q,hq⟩:∃ q,(Z8 m.dk k).1=q:=⟨_,rfl⟩
   rw [hq] at d0;have HY:Hid (((Z8 m.dk k).1 && !(k ==bk))=true->Y1 m bk (k+1)=Y1 m bk k ||| 2 ^ k):=Z9 Cj;have HN:Hid (((Z8 m.dk k).1 && !(k ==bk))=false->Y1 m bk (k+1)=Y1 m bk k):=Z9 AE;rw [hq] at HY HN;clear hq;cases q
   ·
    go_wp2_with fail;go_roundw
    case rel=>exact ⟨k+1,by omega,by go_num,by rw [uh HN (by first | rfl | trivial)],by first | rfl | trivial⟩
    case measure=>exact ms
   by_cases hkb:k=bk
   ·
    have h1:((k:Int) !=(bk:Int))=false:=by rw [hkb];simp
    have HN2:Hid (Y1 m bk (k+1)=Y1 m bk k):=Z9 (uh HN (by rw [hkb];simp));clear hkb HY HN;go_wp2_with fail;go_roundw
    case rel=>exact ⟨k+1,by omega,by go_num,by rw [uh HN2],by first | rfl | trivial⟩
    case measure=>exact ms
   have hkb1:¬ ((k:Int)=(bk:Int)):=by omega
   have h1:((k:Int) !=(bk:Int))=true:=by simpa using hkb1
   have HY2:Hid (Y1 m bk (k+1)=Y1 m bk k ||| 2 ^ k):=Z9 (uh HY (by simp [hkb]));have hlo:=Mj m bk k;have hp1:2 ^ k<=2 ^ 7:=Nat.pow_le_pow_right (by omega) (by omega);have hor:bits .or .i64 ((Y1 m bk k:Nat):Int) ((2 ^ k:Nat):Int)=((Y1 m bk k ||| 2 ^ k:Nat):Int):=yn (by omega) (by omega);have hpc:((2:Int) ^ ((k:Int)).toNat)=((2 ^ k:Nat):Int):=by rw [Zz];push_cast;rfl
   have Hor2:Hid (bits .or .i64 ((Y1 m bk k:Nat):Int) ((2:Int) ^ k)=((Y1 m bk k ||| 2 ^ k:Nat):Int)):=Z9 (by
    have h9:((2 ^ k:Nat):Int)=(2:Int) ^ k:=by push_cast;rfl
    rw [<-h9];exact hor)
   have Hpc:=Z9 hpc;clear hkb hkb1 HY HN hlo hp1 hor hpc;go_wp2_with fail;refine (TP (k:Int) (by omega) (by omega) _).mono ?_;rw [uh Hpc];rintro e w9 ⟨rfl,hw9⟩;subst w9;go_wp2_with fail;go_roundw
   case rel=>exact ⟨k+1,by omega,by go_num,by rw [uh HY2];exact congrArg _ (uh Hor2),by first | rfl | trivial⟩
   case measure=>exact ms
  ·
   obtain rfl:k=m.dk.length:=by omega
   obtain ⟨op,hop⟩:∃ q,Y1 m bk m.dk.length=q:=⟨_,rfl⟩
   have hopl:=Mj m bk m.dk.length;have hp8:2 ^ m.dk.length<=2 ^ 8:=Nat.pow_le_pow_right (by omega) h8;rw [hop] at hopl;rw [hop];have Hop:=Z9 hop;have hop8:op<256:=by omega
   clear hop hopl hp8;by_cases hz:op=0
   ·
    subst hz;have Hop9:Hid (Y1 m bk m.dk.length=0):=Hop;have hz1:(((0:Nat):Int) ==0)=true:=rfl;obtain ⟨x0,x1,x2,x3,x4,x5⟩:=(uh ko).c6;obtain ⟨o0,o1,o2,o3,o4,o5⟩:=(uh kr).c6;obtain ⟨f0,f1,f2,f3,f4,f5⟩:=(uh kr).f6;go_wp2_with fail;have hX0:X=(m,5):=by rw [<-uh HX];unfold V3;rw [uh Hok];simp only [if_true];rw [uh Hqb];simp only [if_true,Zz];rw [uh Hop0];simp only [if_true];rw [if_pos (uh Hop9)]
    exact ZS (v:= .tuple #[.agg (S6 b0 q0 b1 q1 b2 q2 b3 q3 b4 q4 m),.int .i64 5]) (by simp [results,Tryz.results33,go_sem, *]) rfl (Zb hX0 rfl (uh HO) (uh BB))
   have Hz:=Z9 hz;have hz0:¬ ((op:Nat):Int)=0:=by omega
   have hz1:(((op:Nat):Int) ==0)=false:=by simpa using hz0
   have hz2:decide (((op:Nat):Int)=0)=false:=Xr hz0;clear hz hz0;obtain ⟨c0,c1,c2,c3,c4,c5⟩:=(uh kb).c6;go_wp2_with fail;clear hz1 hz2 c0 c1 c2 c3 c4 c5;refine (QU (bk:Int) (uh Hv) (by have:=(uh HFew).sm;omega)).mono ?_;rintro e w5 ⟨v5,rfl,he5,hb⟩;obtain ⟨qa,qc,rfl⟩:=EntsAt.shape he5;have HE:=Z9 he5;have hW5:ob<w3.heap.size:=(uh ko).lt;have hlow:∀ k,Wg (.slice b0 m.rm.length q0) (.slice b1 m.gd.length q1) (.slice b2 m.sm.length q2) (.slice b3 m.dk.length q3) (.slice b4 m.pc.length q4) oq k->k<w3.heap.size:=fun k e=>((uh HO).own e).2;have Hlow:=Z9 hlow;clear he5 hlow;replace kb:=bl kb hb;replace kr:=bl kr hb;replace Hv:=Z9 ((uh Hv).below hb);replace HO:=Z9 ((uh HO).below hb);replace ko:=bl ko hb;replace BB:=bt BB hb;have hszq:=hb.size;clear hb;have Hsh:=Z9 (fun j hj=>Jv (uh HLo) hbk (by rw [uh Hop];exact uh Hz) (k:=j) hj);rw [uh Hop] at Hsh
   have Hmq:Hid (∀ x ∈ atV m.sm (bk:Int) m.sm.length,∃ j:Nat,j<m.sm.length/\x.2=(j:Int)):=Z9 (fun x hx=>by
    obtain ⟨j,hj,_,_,rfl⟩:=(XF m.sm (bk:Int) x m.sm.length).1 hx
    exact ⟨j,hj,rfl⟩)
   have HV:Hid (X=(ZN (Yd op (Yc m bk false) (atV m.sm (bk:Int) m.sm.length) (atV m.sm (bk:Int) m.sm.length).length),0)):=Z9 (by rw [<-uh HX];unfold V3;rw [uh Hok];simp only [if_true];rw [uh Hqb];simp only [if_true,Zz];rw [uh Hop0];simp only [if_true];rw [uh Hop,if_neg (uh Hz)]);generalize atV m.sm (bk:Int) m.sm.length=q at *;obtain ⟨g3,hga,_,_,hc3,hz3⟩:=RecAt.view Zu (by omega) (uh HO).dk rfl (by omega);cases hga;have hg3o:=uh LO g3 (.inr (.inr (.inr (.inr (.inl rfl)))));have hg3w:=uh Hlow g3 (.inr (.inr (.inr (.inr (.inl rfl)))));have d0:=hc3 bk hbk 0 _ rfl;have f0:=hz3 (bk*3);have x3:=(uh ko).cell (i:=3) (v:= .slice (some ⟨g3,0,none⟩) m.dk.length q3) rfl;have hput:=(uh HO).putD rfl (j:=bk) (i:=0) hbk (by omega) (.bool false) (false,(Z8 m.dk bk).2) rfl;simp only [Nat.add_zero] at d0 hput;clear hc3 hz3;go_upto_region 18 with fail;clear d0 f0 x3;replace ko:Hid (Blk (w5.setCell ⟨g3,bk*3,none⟩ (.bool false)) ob 32 (S6 b0 q0 b1 q1 b2 q2 (some ⟨g3,0,none⟩) q3 b4 q4 m)):=Z9 ((uh ko).other (a:=⟨g3,bk*3,none⟩) (by show ob ≠ g3;omega) _);replace kr:Hid (Blk (w5.setCell ⟨g3,bk*3,none⟩ (.bool false)) (w.heap.size+1) 32 E6):=Z9 ((uh kr).other (a:=⟨g3,bk*3,none⟩) (by show (w.heap.size+1) ≠ g3;omega) _);replace kb:Hid (Blk (w5.setCell ⟨g3,bk*3,none⟩ (.bool false)) w.heap.size 32 #[.slice a0 m.rm.length p0,.slice a1 m.gd.length p1,.slice a2 m.sm.length p2,.slice (some ⟨db,doff,none⟩) m.dk.length p3,.slice a4 m.pc.length p4,.int .i64 m.now]):=Z9 ((uh kb).other (a:=⟨g3,bk*3,none⟩) (by show w.heap.size ≠ g3;omega) _);have HP:Hid (FullSmy (w.heap.size+2) (w5.setCell ⟨g3,bk*3,none⟩ (.bool false)) (.slice b0 m.rm.length q0) (.slice b1 m.gd.length q1) (.slice b2 m.sm.length q2) (.slice (some ⟨g3,0,none⟩) m.dk.length q3) (.slice b4 m.pc.length q4) (Yc m bk false) oq):=Z9 hput;replace HE:Hid (EntsAt w3.heap.size (w5.setCell ⟨g3,bk*3,none⟩ (.bool false)) (.slice qa q.length qc) q):=Z9 (EntsAt.same (uh HE) (fun k e=>heap_setCell_other _ _ _ _ (by have:=(EntsAt.lt (uh HE) e).1;show k ≠ g3;omega)));replace BB:Hid (Below w.heap.size w (w5.setCell ⟨g3,bk*3,none⟩ (.bool false))):=Z9 ((uh BB).setCell (p:=⟨g3,bk*3,none⟩) (by show w.heap.size<=g3;omega) _);clear hput HO Hv Hcl;generalize w5.setCell ⟨g3,bk*3,none⟩ (.bool false)=W5 at *;go_wp2_with fail
   go_loopw [10] (fun i wr=> ∃ j:Nat,j<=q.length/\i= .int .i64 j/\FullSmy (w.heap.size+2) wr (.slice b0 m.rm.length q0) (.slice b1 m.gd.length q1) (.slice b2 m.sm.length q2) (.slice (some ⟨g3,0,none⟩) m.dk.length q3) (.slice b4 m.pc.length q4) (Yd op (Yc m bk false) q j) oq/\Two (Value.slice b2 m.sm.length q2).ownBlock (some g3) W5 wr) (fun i _=>q.length-(intOf i).toNat)
   case atStart=>exact ⟨0,ZA _,rfl,uh HP,Two.refl _ _ _⟩
   case round=>
    obtain ⟨j,hj,rfl,hf1,htw⟩:=hrel;have hsh:=uh Hsh j hj;have HF1:=Z9 hf1;have Tw:=Z9 htw;have hP2:∀ b,(Value.slice b2 m.sm.length q2).ownBlock=some b->(w.heap.size+2<=b/\b<ob)/\b<w3.heap.size:=fun b e=>⟨uh LO b (.inr (.inr (.inr (.inl e)))),uh Hlow b (.inr (.inr (.inr (.inl e))))⟩
    have hPn:∀ R,(R<=w.heap.size+1\/ob<=R)->(Value.slice b2 m.sm.length q2).ownBlock ≠ some R:=fun R h e=>by have:=(hP2 R e).1;omega
    have hGn:∀ R,(R<=w.heap.size+1\/ob<=R)->some g3 ≠ some R:=fun R h e=>by cases e;omega
    replace kb:=Z9 ((uh kb).two htw (hPn _ (.inl (by omega))) (hGn _ (.inl (by omega))));replace ko:=Z9 ((uh ko).two htw (hPn _ (.inr (Z2 _))) (hGn _ (.inr (Z2 _))));replace kr:=Z9 ((uh kr).two htw (hPn _ (.inl (by omega))) (hGn _ (.inl (by omega))));replace HE:=Z9 (Two.ents (uh HE) htw (fun b e=>(hP2 b e).2) (fun b e=>by cases e;exact hg3w));have B1:=Z9 ((uh BB).trans (htw.below (uh BB).size (fun b e=>by have:=(hP2 b e).1;omega) (fun b e=>by cases e;omega)));obtain ⟨hm1,hm2,hm3,hm4,hm5,hm6,_,_,_⟩:=hsh;have hsh:=uh Hsh j hj;have hdl:(Yd op (Yc m bk false) q j).dk.length=m.dk.length:=by rw [hm5,Ut]
    have Hst:Hid (Yd op (Yc m bk false) q (j+1)=Vl op (Yd op (Yc m bk false) q j) (Z7 q j).2.toNat):=Z9 rfl;clear hf1 htw;by_cases hjl:j<q.length
    ·
     have hjl1:(j:Int)<(q.length:Int):=by omega
     obtain ⟨_,_,hqe,_,_,hr⟩:=EntsAt.pc (uh HE);cases hqe
     rcases hr with e0 | ⟨eb,eo,rfl,hbw,hcl⟩
     ·rw [e0] at hjl;simp at hjl
     obtain ⟨_,c1⟩:=hcl j hjl;obtain ⟨i0,hi0,hie⟩:=uh Hmq _ (WZ hjl);rw [hie] at c1;have hstill:IL q j i0:=⟨j,Z2 _,hjl,hie⟩
     rw [hie,Zz] at Hst;have hX:=hsh.closeX (uh HLo) hstill op;obtain ⟨hxl,hxp,hxb,_⟩:=hX.left i0 hstill;obtain ⟨hxpb,_⟩:=hX.pres hstill;have HSx:=Z9 (hX.sane (uh HLo));obtain ⟨jb,hjb,hjbe,_⟩:=(by have h9:=hsh.chosen (uh HLo) hbk (by rw [uh Hop];exact uh Hz) hstill;rw [uh Hop] at h9;exact h9:∃ jb:Nat,jb<(Yd op (Yc m bk false) q j).dk.length/\I2 op (Yd op (Yc m bk false) q j) i0=(jb:Int)/\Yw (closeX op (Yd op (Yc m bk false) q j) i0) (i0:Int) jb=true)
     obtain ⟨hml,hmp,_,_⟩:=hsh.left i0 hstill;obtain ⟨hmpb,_⟩:=hsh.pres hstill;have hxd:(closeX op (Yd op (Yc m bk false) q j) i0).dk.length=m.dk.length:=hdl;have hxpc:(closeX op (Yd op (Yc m bk false) q j) i0).pc=m.pc:=hm3;have hxn:(closeX op (Yd op (Yc m bk false) q j) i0).now=m.now:=hm4;have hi1:(i0:Int)<(m.sm.length:Int):=by omega
     generalize Yd op (Yc m bk false) q j=M at *
     have hmay:1<=(Z8 M.sm i0).2.2.2.1/\(Z8 M.sm i0).2.2.2.1<=255:=by
      generalize Z8 M.sm i0=s9 at *;obtain ⟨st,be,rk,my,gu,lo',hi',hd,ca,ut,wk⟩:=s9;exact (Zi hmpb).2.2.2.1
     have hxmay:0<=(Z8 (closeX op M i0).sm i0).2.2.2.1/\(Z8 (closeX op M i0).sm i0).2.2.2.1<=255/\(Z8 (closeX op M i0).sm i0).1 ≠ 0:=by
      generalize Z8 (closeX op M i0).sm i0=s9 at *;obtain ⟨st,be,rk,my,gu,lo',hi',hd,ca,ut,wk⟩:=s9;obtain ⟨p0,_,_,p3,_⟩:=Zi hxpb;exact ⟨by show (0:Int)<=my;omega,p3.2,by show st ≠ 0;omega⟩
     have HAx:Hid (QJ (closeX op M i0) i0):=Z9 ⟨hxl,hxmay.2.2,hxmay.1,hxmay.2.1⟩;have Hjb:Hid (I2 op M i0=(jb:Int)):=Z9 hjbe;have Hcb:Hid (YQ (closeX op M i0) (i0:Int)=(jb:Int)):=Z9 hjbe;have Hxb:=Z9 hxb;have Hxl:=Z9 hxl;have Hxn:=Z9 hxn;have Hxd:=Z9 hxd;have HPx:Hid ((closeX op M i0).pc.length<=1000):=Z9 (by rw [hxpc];exact Tn (uh HLo));have hjb2:jb<m.dk.length:=by omega
     obtain ⟨my,hmy⟩:∃ q',(Z8 M.sm i0).2.2.2.1=q':=⟨_,rfl⟩
     rw [hmy] at hmay;obtain ⟨mn,rfl⟩:∃ mn:Nat,my=(mn:Int):=⟨my.toNat,by omega⟩
     have hmn:mn<256:=by omega
     have Hmy:=Z9 hmy;have hlM:m.sm.length=M.sm.length:=hm6.symm;have HlM:=Z9 hlM;have Hml:=Z9 hml;clear hX hxp hxpb hmp hmpb hxmay hjbe hxb hxl hxn hxd hxpc hcl hie hsh hm1 hm2 hm3 hm4 hm5 hmay hmy;obtain ⟨g2,hga,_,_,hc2,hz2⟩:=RecAt.view ZX (by omega) (uh HF1).sm hlM (by omega);cases hga;have hg2o:=hP2 g2 rfl;have s3:=hc2 i0 hml 3 _ rfl;rw [uh Hmy] at s3;have f3:=hz2 (i0*11+3);have x2:=(uh ko).cell (i:=2) (v:= .slice (some ⟨g2,0,none⟩) m.sm.length q2) rfl;have hand:bits .and .i64 (mn:Int) ((op:Nat):Int)=((mn &&& op:Nat):Int):=yT hmn hop8;clear hc2 hz2 hlM hm6 hml;by_cases hza:mn &&& op=0
     ·
      have hand0:bits .and .i64 (mn:Int) ((op:Nat):Int)=0:=by rw [hand,hza];rfl
      have HXe:Hid (closeX op M i0=setS M i0 (Wk (Z8 M.sm i0) (Ys m.dk.length))):=Z9 (by rw [DW (by rw [uh Hmy,Zz];exact hza),hdl]);clear hand hza;have hput:=(uh HF1).putS (uh HlM) (j:=i0) (i:=3) (uh Hml) (by omega) (.int .i64 (Ys m.dk.length)) (Wk (Z8 M.sm i0) (Ys m.dk.length)) rfl;have hab:(2:Int) ^ ((m.dk.length:Int)).toNat-1=Ys m.dk.length:=by rw [Zz];rfl
      have hpb:(2:Int) ^ ((m.dk.length:Int)).toNat=Ys m.dk.length+1:=by rw [<-hab];omega
      have habn:=Li (n:=m.dk.length) (by omega) h8;have Hpb2:=Z9 hpb;have c3:=(uh kb).cell (i:=3) (v:= .slice (some ⟨db,doff,none⟩) m.dk.length p3) rfl;clear hab hpb;go_upto_region 23 with fail;clear c1 s3;refine ZP (S:=fun w'=>w'.cell? ⟨ob,2,none⟩=some (.slice (some ⟨g2,0,none⟩) m.sm.length q2)/\w'.cell? ⟨w.heap.size,3,none⟩=some (.slice (some ⟨db,doff,none⟩) m.dk.length p3)) (by kernel_rfl) (Xs _ _) (by kernel_rfl) ⟨x2,c3⟩ (fun hHeld=> ?_);simp only [Xt,Xu,YT,YM,Nat.zero_add,Nat.reduceAdd]
      iterate 5 refine tz ?_
      refine rd 5 rfl (fun K hK=> ?_);go_simp;refine hK.out _ _ hHeld (fun hHeld=> ?_);clear hK K
      (try simp only [Act.put,sA,sZ,sS])
      refine rd 6 rfl (fun K hK=> ?_);go_simp;refine (TP (m.dk.length:Int) (by omega) (by omega) _).mono ?_;rw [uh Hpb2];rintro e9 w9 ⟨rfl,hw9⟩;subst w9;refine hK.out _ _ hHeld (fun hHeld=> ?_);clear hK K
      (try simp only [Act.put,sA,sZ,sS])
      refine tp 7 ?_;refine tp 8 ?_;refine tp 9 ?_;obtain ⟨_,hga,_,_,hc2,hz2⟩:=RecAt.view ZX (by omega) ((uh HF1).below (Z1 _ _).drew).sm (uh HlM) (by have:=uh Hml;omega);cases hga;have s3:=hc2 i0 (uh Hml) 3 _ rfl;rw [uh Hmy] at s3;have f3d:=hz2 (i0*11+3);clear hc2 hz2;refine wpAnyH_done (by kernel_rfl) ?_ _;refine ZF rfl rfl ?_;go_simp;clear hHeld x2 c3 s3 f3 f3d;have hwp:IntKind.i64.wrap (Ys m.dk.length)=Ys m.dk.length:=by rw [IntKind.wrap_i64];omega
      go_upto_region 24 with fail
      try rw [hwp]
      have HFX:Hid (FullSmy (w.heap.size+2) ((wr.setCell ⟨g2,i0*11+3,none⟩ (.int .i64 (Ys m.dk.length))).drew) (.slice b0 m.rm.length q0) (.slice b1 m.gd.length q1) (.slice (some ⟨g2,0,none⟩) m.sm.length q2) (.slice (some ⟨g3,0,none⟩) m.dk.length q3) (.slice b4 m.pc.length q4) (closeX op M i0) oq):=Z9 (by rw [uh HXe];exact hput.below (Z1 _ _).drew);have T2:Hid (Two (some g2) (some g3) W5 ((wr.setCell ⟨g2,i0*11+3,none⟩ (.int .i64 (Ys m.dk.length))).drew)):=Z9 (((uh Tw).trans (Two.of_set wr (.inl rfl) _ _)).trans (Two.of_below (Z1 _ _).drew));replace ko:Hid (Blk ((wr.setCell ⟨g2,i0*11+3,none⟩ (.int .i64 (Ys m.dk.length))).drew) ob 32 (S6 b0 q0 b1 q1 (some ⟨g2,0,none⟩) q2 (some ⟨g3,0,none⟩) q3 b4 q4 m)):=Z9 (((uh ko).other (a:=⟨g2,i0*11+3,none⟩) (by show ob ≠ g2;omega) (.int .i64 (Ys m.dk.length))).below (Z1 _ _).drew ((uh ko).other (a:=⟨g2,i0*11+3,none⟩) (by show ob ≠ g2;omega) (.int .i64 (Ys m.dk.length))).lt);clear hput;generalize (wr.setCell ⟨g2,i0*11+3,none⟩ (.int .i64 (Ys m.dk.length))).drew=Y at *;have Hc:=Z9 (by have h9:=Wc (m:=closeX op M i0) (who:=i0) (uh HFX).smy (uh HSx) (uh HPx) (uh HAx);rw [uh Hxn,uh Hcb] at h9;exact h9:Calls Tryz.prog 49 #[.agg (S6 b0 q0 b1 q1 (some ⟨g2,0,none⟩) q2 (some ⟨g3,0,none⟩) q3 b4 q4 m),.int .i64 (i0:Int)] Y fun e w'=>e= .returned (.int .i64 (jb:Int))/\Below Y.heap.size Y w');obtain ⟨y0,y1,y2,y3,y4,y5⟩:=(uh ko).c6;go_wp2_with fail;clear y0 y1 y2 y3 y4 y5;refine ck (uh Hc) fun w7 hb=> ?_;replace HFX:=Z9 ((uh HFX).below hb);replace T2:=Z9 ((uh T2).trans (Two.of_below hb));have k8:Hid (Blk w7 ob 32 #[.slice b0 m.rm.length q0,.slice b1 m.gd.length q1,.slice (some ⟨g2,0,none⟩) m.sm.length q2,.slice (some ⟨g3,0,none⟩) m.dk.length q3,.slice b4 m.pc.length q4,.int .i64 (closeX op M i0).now]):=Z9 (by rw [uh Hxn];exact (uh ko).below hb (uh ko).lt);clear hb Hc;go_wp2_with fail;refine (Um (m:=closeX op M i0) (k:=i0) (bn:=bk) (b:=jb) (uh k8) (uh HFX) (hPn _ (.inr (Z2 _))) (hGn _ (.inr (Z2 _))) (uh Hxl) (uh Hxb) (by rw [uh Hxd];exact hbk) (by rw [uh Hxd];exact hjb2)).mono ?_;rintro e w8 ⟨rfl,hf8,ht8⟩;have HF8:=Z9 hf8;replace T2:=Z9 ((uh T2).trans ht8);clear hf8 ht8;go_wp2_with fail;go_roundw
      case rel=>exact ⟨j+1,by omega,by go_num,by rw [uh Hst];unfold Vl;rw [uh Hjb];exact uh HF8,uh T2⟩
      case measure=>exact ms
     ·
      have HXe:closeX op M i0=M:=FP (uh Hml) (by rw [uh Hmy,Zz];exact hza);have HFX:Hid (FullSmy (w.heap.size+2) wr (.slice b0 m.rm.length q0) (.slice b1 m.gd.length q1) (.slice (some ⟨g2,0,none⟩) m.sm.length q2) (.slice (some ⟨g3,0,none⟩) m.dk.length q3) (.slice b4 m.pc.length q4) (closeX op M i0) oq):=Z9 (by rw [HXe];exact uh HF1);have T2:Hid (Two (some g2) (some g3) W5 wr):=Tw;obtain ⟨na,hna⟩:∃ q',mn &&& op=q':=⟨_,rfl⟩
      rw [hna] at hand hza;have hna0:¬ ((na:Nat):Int)=0:=by omega
      have hna1:(((na:Nat):Int) ==0)=false:=by simpa using hna0
      have hna2:decide (((na:Nat):Int)=0)=false:=Xr hna0;clear hna hza HXe hna0;go_upto_region 24 with fail;clear c1 s3 x2 f3 hna1 hna2 hand;have Hc:=Z9 (by have h9:=Wc (m:=closeX op M i0) (who:=i0) (uh HFX).smy (uh HSx) (uh HPx) (uh HAx);rw [uh Hxn,uh Hcb] at h9;exact h9:Calls Tryz.prog 49 #[.agg (S6 b0 q0 b1 q1 (some ⟨g2,0,none⟩) q2 (some ⟨g3,0,none⟩) q3 b4 q4 m),.int .i64 (i0:Int)] wr fun e w'=>e= .returned (.int .i64 (jb:Int))/\Below wr.heap.size wr w');obtain ⟨y0,y1,y2,y3,y4,y5⟩:=(uh ko).c6;go_wp2_with fail;clear y0 y1 y2 y3 y4 y5;refine ck (uh Hc) fun w7 hb=> ?_;replace HFX:=Z9 ((uh HFX).below hb);replace T2:=Z9 ((uh T2).trans (Two.of_below hb));have k8:Hid (Blk w7 ob 32 #[.slice b0 m.rm.length q0,.slice b1 m.gd.length q1,.slice (some ⟨g2,0,none⟩) m.sm.length q2,.slice (some ⟨g3,0,none⟩) m.dk.length q3,.slice b4 m.pc.length q4,.int .i64 (closeX op M i0).now]):=Z9 (by rw [uh Hxn];exact (uh ko).below hb (uh ko).lt);clear hb Hc;go_wp2_with fail;refine (Um (m:=closeX op M i0) (k:=i0) (bn:=bk) (b:=jb) (uh k8) (uh HFX) (hPn _ (.inr (Z2 _))) (hGn _ (.inr (Z2 _))) (uh Hxl) (uh Hxb) (by rw [uh Hxd];exact hbk) (by rw [uh Hxd];exact hjb2)).mono ?_;rintro e w8 ⟨rfl,hf8,ht8⟩;have HF8:=Z9 hf8;replace T2:=Z9 ((uh T2).trans ht8);clear hf8 ht8;go_wp2_with fail;go_roundw
      case rel=>exact ⟨j+1,by omega,by go_num,by rw [uh Hst];unfold Vl;rw [uh Hjb];exact uh HF8,uh T2⟩
      case measure=>exact ms
    ·
     obtain rfl:j=q.length:=by omega
     have h12:=Yz (uh HLo);have Hmn:=Z9 hm4;have hl9:(Yd op (Yc m bk false) q q.length).sm.length<=800:=by rw [hm6];omega
     have hd9:(Yd op (Yc m bk false) q q.length).dk.length<=1000:=by omega
     replace BB:=B1;clear hsh hm1 hm2 hm3 hm4 hm5 hm6 hdl;generalize Yd op (Yc m bk false) q q.length=M at *;go_wp2_with fail;refine (N7 (m:=M) (uh Hmn) (uh ko) (uh HF1) (hPn _ (.inr (Z2 _))) (hGn _ (.inr (Z2 _))) hl9 hd9).mono ?_;rintro e w9 ⟨rfl,hf9,ht9⟩;replace kr:=Z9 ((uh kr).two ht9 (hPn _ (.inl (by omega))) (hGn _ (.inl (by omega))));replace BB:=Z9 ((uh BB).trans (ht9.below (uh BB).size (fun b e=>by have:=(hP2 b e).1;omega) (fun b e=>by have h9:g3=b:=Option.some.inj e;omega)));have HF9:=Z9 hf9;clear hf9 ht9;obtain ⟨o0,o1,o2,o3,o4,o5⟩:=(uh kr).c6;obtain ⟨f0,f1,f2,f3,f4,f5⟩:=(uh kr).f6;go_wp2_with fail;have hnow9:(ZN M).now=m.now:=((ZG _ _).2.2.2.1).trans (uh Hmn);refine ZS (v:= .tuple #[.agg (S6 b0 q0 b1 q1 b2 q2 (some ⟨g3,0,none⟩) q3 b4 q4 m),.int .i64 0]) (by simp [results,Tryz.results33,go_sem, *]) rfl ⟨?_,?_⟩
     ·rw [uh HV];refine ⟨_,_,_,_,_,oq,by rw [hnow9],?_⟩
      iterate 6 (refine FullSmy.set_off ?_ (fun k e=>by have:=(uh LO k e).1;omega) _ _)
      exact (uh HF9).mono (by omega)
     ·iterate 6 (refine YS ?_ (by show _<=w.heap.size+1;omega) _)
      exact uh BB
end Go.Proofs.YtamgfpdahadnfaaGreatDoor
