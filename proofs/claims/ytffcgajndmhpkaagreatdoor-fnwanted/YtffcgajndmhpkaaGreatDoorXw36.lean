/- Part 36 of what the proof rests on. No condition but those that a theorem names. -/
import Derived.Test.YtffcgajndmhpkaaGreatDoorXw29
set_option maxHeartbeats 8000000
set_option maxRecDepth 100000
namespace Go.Proofs.YtffcgajndmhpkaaGreatDoor
open Go.ChangeShapes Go.WideShapes Go.ChangeAt Go.RowKit Go.Sort
set_option linter.unusedVariables false
set_option linter.unusedSimpArgs false
variable {w w' w0 w1 w2 w3 w₀ wr W W' X A B C : World} {v v0 v1 v2 v3 v4 u u0 u1 u2 u3 u4 : Value} {m : Z4}
theorem Sane.setS (h:Sane m) {k:Nat} (hk:k<m.smiths.length) (s:Z3) (h0:s.1 ≠ 0-> -1<=s.2.2.2.2.1/\s.2.2.2.2.1<m.guilds.length):Sane (setS m k s):=by
 have hset:∀ i,Z8 (Proofs.YtffcgajndmhpkaaGreatDoor.setS m k s).smiths i=if i=k then s else Z8 m.smiths i:=fun i=>ZK hk i
 refine ⟨h.hall,h.desks,⟨h.guilded.guilds,fun i hi hne=> ?_,fun i hi hne=> ?_⟩,by show (m.smiths.set k s).length<=12;simpa using h.few⟩
 ·have hi':i<m.smiths.length:=by simpa [Proofs.YtffcgajndmhpkaaGreatDoor.setS] using hi
  rw [hset] at hne ⊢
  by_cases e:i=k
  ·rw [if_pos e] at hne ⊢;exact (h0 hne).1
  ·rw [if_neg e] at hne ⊢;exact h.guilded.lo i hi' hne
 ·have hi':i<m.smiths.length:=by simpa [Proofs.YtffcgajndmhpkaaGreatDoor.setS] using hi
  rw [hset] at hne ⊢
  by_cases e:i=k
  ·rw [if_pos e] at hne ⊢;exact (h0 hne).2
  ·rw [if_neg e] at hne ⊢;exact h.guilded.hi i hi' hne
theorem PA  (who:Int) (may:Int) (h:Smy w v0 v1 v2 v3 v4 m) :
  Calls Tryz.prog 248 #[.agg #[v0,v1,v2,v3,v4,.int .i64 m.now],.int .i64 who,.int .i64 may] w fun e w'=>TC w.heap.size (Wv m who may).1 (Wv m who may).2 e w'/\Below w.heap.size w w':=by
 obtain ⟨X,hX⟩:∃ x,Wv m who may=x:=⟨_,rfl⟩
 rw [hX]
 have HX:=Z9 hX
 clear hX
 have Hv0:=Z9 h
 obtain ⟨a0,p0,a1,p1,a2,p2,a3,p3,a4,p4,rfl,rfl,rfl,rfl,rfl,_,_,_,_,_,_,_,_,_,_⟩:=h.five
 clear h
 obtain ⟨ok,hok⟩:∃ q,ZP m=q:=⟨_,rfl⟩
 have Hok:=Z9 hok
 clear hok
 go_enter Tryz.func248,Tryz.ntmps248
 go_wp2_with fail
 obtain ⟨W,hW,kb,kr,BB⟩:=YS w 32 (S6 a0 p0 a1 p1 a2 p2 a3 p3 a4 p4 m) 32 E6
 have Hv:=Z9 ((uh Hv0).below (uh BB))
 clear Hv0
 rw [hW]
 clear hW
 refine ck (XX (uh Hok) (uh Hv)) fun w1 hb=> ?_
 replace kb:=bl kb hb
 replace kr:=bl kr hb
 replace Hv:=Z9 ((uh Hv).below hb)
 replace BB:=bt BB hb
 clear hb
 cases ok
 ·
  obtain ⟨c0,c1,c2,c3,c4,c5⟩:=(uh kb).c6
  go_wp2_with fail
  clear c0 c1 c2 c3 c4 c5
  refine ck (Yy (uh Hv)) fun w2 hb=> ?_
  replace kb:=bl kb hb
  replace kr:=bl kr hb
  replace Hv:=Z9 ((uh Hv).below hb)
  replace BB:=bt BB hb
  clear hb
  obtain ⟨o0,o1,o2,o3,o4,o5⟩:=(uh kr).c6
  obtain ⟨f0,f1,f2,f3,f4,f5⟩:=(uh kr).f6
  go_wp2_with fail
  have hX0:X=(YJ,3):=by rw [<-uh HX];unfold Wv;rw [uh Hok];rfl
  exact bodyPost_ret (v:= .tuple #[.agg E6,.int .i64 3]) (by simp [results,Tryz.results248,go_sem, *]) rfl (Zr hX0 rfl (Y1 _ _) (uh BB))
 have hlo:=ZY (uh Hok)
 have HLo:=Z9 hlo
 have HFew:=Z9 (XJ hlo)
 clear hlo
 obtain ⟨c0,c1,c2,c3,c4,c5⟩:=(uh kb).c6
 go_wp2_with fail
 clear c0 c1 c2 c3 c4 c5
 refine (U2 (uh Hv) (uh HFew) (uh kb) (uh kr) (uh BB)).mono ?_
 clear kb kr Hv BB
 rintro e w2 ⟨b0,q0,b1,q1,b2,q2,b3,q3,b4,q4,oq,rfl,W2,ob,hW2,hob2,kb,kr,Hv,HO,ko,LO,hob,BB⟩
 go_upto_region 4 with fail
 (try rw [hW2])
 (try rw [hob2])
 clear hW2 hob2
 obtain ⟨qw,hqw⟩:∃ q,UP m who=q:=⟨_,rfl⟩
 have Hqw:=Z9 hqw
 clear hqw
 obtain ⟨c0,c1,c2,c3,c4,c5⟩:=(uh kb).c6
 go_wp2_with fail
 clear c0 c1 c2 c3 c4 c5
 refine ck (Va (uh Hqw) (uh Hv)) fun w3 hb=> ?_
 replace kb:=bl kb hb
 replace kr:=bl kr hb
 replace Hv:=Z9 ((uh Hv).below hb)
 replace HO:=Z9 ((uh HO).below hb)
 replace ko:=bl ko hb
 replace BB:=bt BB hb
 clear hb
 cases qw
 ·
  obtain ⟨x0,x1,x2,x3,x4,x5⟩:=(uh ko).c6
  obtain ⟨o0,o1,o2,o3,o4,o5⟩:=(uh kr).c6
  obtain ⟨f0,f1,f2,f3,f4,f5⟩:=(uh kr).f6
  go_wp2_with fail
  have hX0:X=(m,1):=by rw [<-uh HX];unfold Wv;rw [uh Hok,uh Hqw];rfl
  exact bodyPost_ret (v:= .tuple #[.agg (S6 b0 q0 b1 q1 b2 q2 b3 q3 b4 q4 m),.int .i64 1]) (by simp [results,Tryz.results248,go_sem, *]) rfl (Zr hX0 rfl (uh HO) (uh BB))
 obtain ⟨k,rfl,hk,hs0⟩:=Xj (uh Hqw)
 have hk1:(k:Int)<(m.smiths.length:Int):=by omega
 obtain ⟨pb,hpb⟩:∃ q,inB may 1 255=q:=⟨_,rfl⟩
 have Hpb:=Z9 hpb
 clear hpb
 go_wp2_with fail
 refine (ZZ _ _ _ _).mono ?_
 rw [uh Hpb]
 rintro e w9 ⟨rfl,hw9⟩
 subst w9
 cases pb
 ·
  obtain ⟨x0,x1,x2,x3,x4,x5⟩:=(uh ko).c6
  obtain ⟨o0,o1,o2,o3,o4,o5⟩:=(uh kr).c6
  obtain ⟨f0,f1,f2,f3,f4,f5⟩:=(uh kr).f6
  go_wp2_with fail
  have hX0:X=(m,3):=by rw [<-uh HX];unfold Wv;rw [uh Hok,uh Hqw];simp only [if_true];rw [uh Hpb];rfl
  exact bodyPost_ret (v:= .tuple #[.agg (S6 b0 q0 b1 q1 b2 q2 b3 q3 b4 q4 m),.int .i64 3]) (by simp [results,Tryz.results248,go_sem, *]) rfl (Zr hX0 rfl (uh HO) (uh BB))
 obtain ⟨c0,c1,c2,c3,c4,c5⟩:=(uh kb).c6
 go_wp2_with fail
 clear c0 c1 c2 c3 c4 c5
 have hobw:=(uh ko).lt
 refine (YE (uh Hv) (uh HFew)).mono ?_
 rintro e w4 ⟨y0,y1,y2,y3,y4,xq,rfl,ho,hb⟩
 have k9:=ho.smy
 obtain ⟨xa0,xp0,xa1,xp1,xa2,xp2,xa3,xp3,xa4,xp4,rfl,rfl,rfl,rfl,rfl,_,_,_,_,_,_,_,_,_,_⟩:=k9.five
 clear k9
 replace kb:=bl kb hb
 replace kr:=bl kr hb
 replace Hv:=Z9 ((uh Hv).below hb)
 replace HO:=Z9 ((uh HO).below hb)
 replace ko:=bl ko hb
 replace BB:=bt BB hb
 have hszx:=hb.size
 have HY:=Z9 (ho.mono (n₁:=w.heap.size+2) (by omega))
 have LX:Hid (∀ k,WW (.slice xa0 m.rooms.length xp0) (.slice xa1 m.guilds.length xp1) (.slice xa2 m.smiths.length xp2) (.slice xa3 m.desks.length xp3) (.slice xa4 m.paces.length xp4) xq k->ob+1<=k/\k<w4.heap.size):=Z9 (fun k e=>by have:=ho.own e;omega)
 have hxb:ob+1<=w4.heap.size:=by omega
 clear ho hb hobw hszx
 go_upto_region 9 with fail
 obtain ⟨W3,hW3,hba,kx⟩:=YO w4 32 (S6 xa0 xp0 xa1 xp1 xa2 xp2 xa3 xp3 xa4 xp4 m)
 replace kb:=bl kb hba
 replace kr:=bl kr hba
 replace Hv:=Z9 ((uh Hv).below hba)
 replace HO:=Z9 ((uh HO).below hba)
 replace ko:=bl ko hba
 replace HY:=Z9 ((uh HY).below hba)
 replace BB:=bt BB hba
 clear hba
 rw [hW3]
 clear hW3
 generalize w4.heap.size=xb at *
 obtain ⟨hA,bn,hbn,hbnl⟩:=RM (uh HLo) hk hs0
 obtain ⟨_,hgu,_⟩:=(uh HLo).limits hk hs0
 have hgl:=(uh HLo).sane.guilded.lo k hk hs0
 obtain ⟨hm0,hm1⟩:=ZU (uh Hpb)
 have heig:=(uh HLo).sane.eight
 have hbn7:(bn:Int)<=7:=by omega
 clear hA heig
 obtain ⟨⟨st,be,rk,my,gu,lo,hi,hd,ca,ut,wk⟩,hrk⟩:∃ d,Z8 m.smiths k=d:=⟨_,rfl⟩
 rw [hrk] at hbn hs0 hgu hgl
 simp only at hbn hs0 hgu hgl
 subst hbn
 have hmx:XV m k may=setS m k (st,(bn:Int),rk,may,gu,lo,hi,hd,ca,ut,wk):=by unfold XV TQ;rw [hrk]
 have HSx:Hid (Sane (XV m k may)):=Z9 (by rw [hmx];exact (uh HLo).sane.setS hk _ (fun _=>⟨hgl,hgu⟩))
 have hr1:Z8 (m.smiths.set k (st,(bn:Int),rk,may,gu,lo,hi,hd,ca,ut,wk)) k=(st,(bn:Int),rk,may,gu,lo,hi,hd,ca,ut,wk):=by rw [ZK hk,if_pos rfl]
 have HAx:Hid (Sh (XV m k may) k):=Z9 (by
  rw [hmx]
  refine ⟨by show k<(m.smiths.set k _).length;simp;omega,?_,?_,?_⟩
  ·show (Z8 (m.smiths.set k _) k).1 ≠ 0;rw [hr1];exact hs0
  ·show 0<=(Z8 (m.smiths.set k _) k).2.2.2.1;rw [hr1];show (0:Int)<=may;omega
  ·show (Z8 (m.smiths.set k _) k).2.2.2.1<=255;rw [hr1];exact hm1)
 have HLp:=Z9 (Ur (uh HLo))
 have Hrk:=Z9 hrk
 have Hmx:=Z9 hmx
 clear hrk hmx hgu hgl
 obtain ⟨g2,hga,_,_,hc2,hz2⟩:=RecAt.view ZT (by omega) (uh HY).smiths rfl (by omega)
 cases hga
 have hg2o:=(uh LX g2 (.inr (.inr (.inr (.inl rfl)))))
 have x2:=(uh kx).cell (i:=2) (v:= .slice (some ⟨g2,0,none⟩) m.smiths.length xp2) rfl
 have s3:=hc2 k hk 3 _ rfl
 have f3:=hz2 (k*11+3)
 have hput:=(uh HY).putS rfl (j:=k) (i:=3) hk (by omega) (.int .i64 may) (st,(bn:Int),rk,may,gu,lo,hi,hd,ca,ut,wk) (by rw [uh Hrk];rfl)
 have HP:=Z9 hput
 clear hput hc2 hz2
 go_upto_region 10 with fail
 clear x2 s3 f3
 replace kx:Hid (Blk (W3.setCell ⟨g2,k*11+3,none⟩ (.int .i64 may)) xb 32 (S6 xa0 xp0 xa1 xp1 (some ⟨g2,0,none⟩) xp2 xa3 xp3 xa4 xp4 m)):=Z9 ((uh kx).other (a:=⟨g2,k*11+3,none⟩) (by show xb ≠ g2;omega) (.int .i64 may))
 replace ko:Hid (Blk (W3.setCell ⟨g2,k*11+3,none⟩ (.int .i64 may)) ob 32 (S6 b0 q0 b1 q1 b2 q2 b3 q3 b4 q4 m)):=Z9 ((uh ko).other (a:=⟨g2,k*11+3,none⟩) (by show ob ≠ g2;omega) (.int .i64 may))
 replace kr:Hid (Blk (W3.setCell ⟨g2,k*11+3,none⟩ (.int .i64 may)) (w.heap.size+1) 32 E6):=Z9 ((uh kr).other (a:=⟨g2,k*11+3,none⟩) (by show (w.heap.size+1) ≠ g2;omega) (.int .i64 may))
 replace HO:Hid (FullSmy (w.heap.size+2) (W3.setCell ⟨g2,k*11+3,none⟩ (.int .i64 may)) (.slice b0 m.rooms.length q0) (.slice b1 m.guilds.length q1) (.slice b2 m.smiths.length q2) (.slice b3 m.desks.length q3) (.slice b4 m.paces.length q4) m oq):=Z9 ((uh HO).set_off (fun k e=>by have:=(uh LO k e).2;omega) _ _)
 replace BB:Hid (Below w.heap.size w (W3.setCell ⟨g2,k*11+3,none⟩ (.int .i64 may))):=Z9 ((uh BB).setCell (p:=⟨g2,k*11+3,none⟩) (by show w.heap.size<=g2;omega) (.int .i64 may))
 clear kb Hv HY
 generalize W3.setCell ⟨g2,k*11+3,none⟩ (.int .i64 may)=W4 at *
 have hl1:(m.smiths.set k (st,(bn:Int),rk,may,gu,lo,hi,hd,ca,ut,wk)).length=m.smiths.length:=by simp
 obtain ⟨_,hga,_,_,hc4,_⟩:=RecAt.view ZT (by omega) (uh HP).smiths hl1.symm (by show 0<(m.smiths.set k _).length;omega)
 cases hga
 have x2:=(uh kx).cell (i:=2) (v:= .slice (some ⟨g2,0,none⟩) m.smiths.length xp2) rfl
 have s0:=hc4 k (by show k<(m.smiths.set k _).length;omega) 0 (.int .i64 st) (by show (ZV (Z8 (m.smiths.set k (st,(bn:Int),rk,may,gu,lo,hi,hd,ca,ut,wk)) k))[0]?=_;rw [hr1];rfl)
 have s1:=hc4 k (by show k<(m.smiths.set k _).length;omega) 1 (.int .i64 (bn:Int)) (by show (ZV (Z8 (m.smiths.set k (st,(bn:Int),rk,may,gu,lo,hi,hd,ca,ut,wk)) k))[1]?=_;rw [hr1];rfl)
 have s2:=hc4 k (by show k<(m.smiths.set k _).length;omega) 2 (.int .i64 rk) (by show (ZV (Z8 (m.smiths.set k (st,(bn:Int),rk,may,gu,lo,hi,hd,ca,ut,wk)) k))[2]?=_;rw [hr1];rfl)
 have s3:=hc4 k (by show k<(m.smiths.set k _).length;omega) 3 (.int .i64 may) (by show (ZV (Z8 (m.smiths.set k (st,(bn:Int),rk,may,gu,lo,hi,hd,ca,ut,wk)) k))[3]?=_;rw [hr1];rfl)
 have s4:=hc4 k (by show k<(m.smiths.set k _).length;omega) 4 (.int .i64 gu) (by show (ZV (Z8 (m.smiths.set k (st,(bn:Int),rk,may,gu,lo,hi,hd,ca,ut,wk)) k))[4]?=_;rw [hr1];rfl)
 have s5:=hc4 k (by show k<(m.smiths.set k _).length;omega) 5 (.int .i64 lo) (by show (ZV (Z8 (m.smiths.set k (st,(bn:Int),rk,may,gu,lo,hi,hd,ca,ut,wk)) k))[5]?=_;rw [hr1];rfl)
 have s6:=hc4 k (by show k<(m.smiths.set k _).length;omega) 6 (.int .i64 hi) (by show (ZV (Z8 (m.smiths.set k (st,(bn:Int),rk,may,gu,lo,hi,hd,ca,ut,wk)) k))[6]?=_;rw [hr1];rfl)
 have s7:=hc4 k (by show k<(m.smiths.set k _).length;omega) 7 (.int .i64 hd) (by show (ZV (Z8 (m.smiths.set k (st,(bn:Int),rk,may,gu,lo,hi,hd,ca,ut,wk)) k))[7]?=_;rw [hr1];rfl)
 have s8:=hc4 k (by show k<(m.smiths.set k _).length;omega) 8 (.int .i64 ca) (by show (ZV (Z8 (m.smiths.set k (st,(bn:Int),rk,may,gu,lo,hi,hd,ca,ut,wk)) k))[8]?=_;rw [hr1];rfl)
 have s9:=hc4 k (by show k<(m.smiths.set k _).length;omega) 9 (.int .i64 ut) (by show (ZV (Z8 (m.smiths.set k (st,(bn:Int),rk,may,gu,lo,hi,hd,ca,ut,wk)) k))[9]?=_;rw [hr1];rfl)
 have s10:=hc4 k (by show k<(m.smiths.set k _).length;omega) 10 (.int .i64 wk) (by show (ZV (Z8 (m.smiths.set k (st,(bn:Int),rk,may,gu,lo,hi,hd,ca,ut,wk)) k))[10]?=_;rw [hr1];rfl)
 simp only [Nat.add_zero] at s0
 clear hc4 hl1
 go_upto_region 11 with fail
 clear x2 s0 s1 s2 s3 s4 s5 s6 s7 s8 s9 s10
 obtain ⟨W5,hW5,hba,ks⟩:=YO W4 39 (I11 st (bn:Int) rk may gu lo hi hd ca ut wk)
 replace HP:Hid (FullSmy (w.heap.size+2) W4 (.slice xa0 m.rooms.length xp0) (.slice xa1 m.guilds.length xp1) (.slice (some ⟨g2,0,none⟩) m.smiths.length xp2) (.slice xa3 m.desks.length xp3) (.slice xa4 m.paces.length xp4) (XV m k may) xq):=Z9 (by rw [uh Hmx];exact uh HP)
 replace kx:=bl kx hba
 replace ko:=bl ko hba
 replace kr:=bl kr hba
 replace HO:=Z9 ((uh HO).below hba)
 replace HP:=Z9 ((uh HP).below hba)
 replace BB:=bt BB hba
 clear hba
 rw [hW5]
 clear hW5
 generalize W4.heap.size=sv at *
 obtain ⟨ps,hps⟩:∃ q,ZR (st,(bn:Int),rk,may,gu,lo,hi,hd,ca,ut,wk)=q:=⟨_,rfl⟩
 have Hpt:=Z9 hps
 have Hp0:Hid (ZR (Z8 m.smiths k)=ps):=Z9 (by rw [uh Hrk];exact hps)
 clear hps
 obtain ⟨e0,e1,e2,e3,e4,e5,e6,e7,e8,e9,e10⟩:=(uh ks).c11
 go_wp2_with fail
 clear e0 e1 e2 e3 e4 e5 e6 e7 e8 e9 e10
 refine ck (YV (uh Hpt) _) fun w5 hb=> ?_
 replace kx:=bl kx hb
 replace ko:=bl ko hb
 replace kr:=bl kr hb
 replace HO:=Z9 ((uh HO).below hb)
 replace HP:=Z9 ((uh HP).below hb)
 replace ks:=bl ks hb
 replace BB:=bt BB hb
 clear hb
 have hfw:=uh HFew
 cases ps
 ·
  go_wp2_with fail
  refine (VP (m:=XV m k may) (uh kx) (uh HP) (fun k e=>by have:=(uh LX k e).2;omega) (uh kr) (uh BB) (by show (m.smiths.set k _).length<=800;have:=hfw.smiths;simp;omega) hfw.desks).mono ?_
  clear kr BB
  rintro e w6 ⟨rfl,HF9,kr,BB⟩
  obtain ⟨o0,o1,o2,o3,o4,o5⟩:=(uh kr).c6
  obtain ⟨f0,f1,f2,f3,f4,f5⟩:=(uh kr).f6
  go_wp2_with fail
  have hX0:X=(ZX (XV m k may),0):=by rw [<-uh HX];unfold Wv;rw [uh Hok,uh Hqw];simp only [if_true,Int.toNat_natCast];rw [uh Hpb];simp only [if_true];rw [uh Hp0];rfl
  have hnow:(ZX (XV m k may)).now=m.now:=(ZQ _ _).2.2.2.1
  exact bodyPost_ret (v:= .tuple #[.agg (S6 xa0 xp0 xa1 xp1 (some ⟨g2,0,none⟩) xp2 xa3 xp3 xa4 xp4 m),.int .i64 0]) (by simp [results,Tryz.results248,go_sem,setS,Xq,YH,pushS,XV, *]) rfl (Zr hX0 hnow (uh HF9) (uh BB))
 obtain ⟨q2,hq2⟩:∃ q,We may (bn:Int)=q:=⟨_,rfl⟩
 have Hq2:=Z9 hq2
 have Hq0:Hid (We may (Z8 m.smiths k).2.1=q2):=Z9 (by rw [uh Hrk];exact hq2)
 clear hq2
 have e1:=(uh ks).cell (i:=1) (v:= .int .i64 (bn:Int)) rfl
 go_wp2_with fail
 clear e1
 refine ck (Rh (uh Hq2) (by omega) hm1 (by omega) hbn7 _) fun w6 hb=> ?_
 replace kx:=bl kx hb
 replace ko:=bl ko hb
 replace kr:=bl kr hb
 replace HO:=Z9 ((uh HO).below hb)
 replace HP:=Z9 ((uh HP).below hb)
 replace ks:=bl ks hb
 replace BB:=bt BB hb
 clear hb
 cases q2
 rotate_left
 ·
  go_wp2_with fail
  refine (VP (m:=XV m k may) (uh kx) (uh HP) (fun k e=>by have:=(uh LX k e).2;omega) (uh kr) (uh BB) (by show (m.smiths.set k _).length<=800;have:=hfw.smiths;simp;omega) hfw.desks).mono ?_
  clear kr BB
  rintro e w7 ⟨rfl,HF9,kr,BB⟩
  obtain ⟨o0,o1,o2,o3,o4,o5⟩:=(uh kr).c6
  obtain ⟨f0,f1,f2,f3,f4,f5⟩:=(uh kr).f6
  go_wp2_with fail
  have hX0:X=(ZX (XV m k may),0):=by rw [<-uh HX];unfold Wv;rw [uh Hok,uh Hqw];simp only [if_true,Int.toNat_natCast];rw [uh Hpb];simp only [if_true];rw [uh Hp0,uh Hq0];rfl
  have hnow:(ZX (XV m k may)).now=m.now:=(ZQ _ _).2.2.2.1
  exact bodyPost_ret (v:= .tuple #[.agg (S6 xa0 xp0 xa1 xp1 (some ⟨g2,0,none⟩) xp2 xa3 xp3 xa4 xp4 m),.int .i64 0]) (by simp [results,Tryz.results248,go_sem,setS,Xq,YH,pushS,XV, *]) rfl (Zr hX0 hnow (uh HF9) (uh BB))
 obtain ⟨b,hb⟩:∃ q,YA (XV m k may) (k:Int)=q:=⟨_,rfl⟩
 have Hb:=Z9 hb
 clear hb
 obtain ⟨z0,z1,z2,z3,z4,z5⟩:=(uh kx).c6
 go_wp2_with fail
 clear z0 z1 z2 z3 z4 z5
 refine (WY (m:=XV m k may) (who:=k) (uh HP).smy (uh HSx) (uh HLp) (uh HAx)).mono ?_
 rw [uh Hb]
 rintro e w7 ⟨rfl,hb⟩
 replace kx:=bl kx hb
 replace ko:=bl ko hb
 replace kr:=bl kr hb
 replace HO:=Z9 ((uh HO).below hb)
 replace HP:=Z9 ((uh HP).below hb)
 replace ks:=bl ks hb
 replace BB:=bt BB hb
 clear hb
 by_cases hbn:b<0
 ·
  obtain ⟨x0,x1,x2,x3,x4,x5⟩:=(uh ko).c6
  obtain ⟨o0,o1,o2,o3,o4,o5⟩:=(uh kr).c6
  obtain ⟨f0,f1,f2,f3,f4,f5⟩:=(uh kr).f6
  go_wp2_with fail
  have hX0:X=(m,2):=by rw [<-uh HX];unfold Wv;rw [uh Hok,uh Hqw];simp only [if_true,Int.toNat_natCast];rw [uh Hpb];simp only [if_true];rw [uh Hp0,uh Hq0];simp only [Bool.not_false,Bool.and_self,if_true];rw [uh Hb,if_pos hbn]
  exact bodyPost_ret (v:= .tuple #[.agg (S6 b0 q0 b1 q1 b2 q2 b3 q3 b4 q4 m),.int .i64 2]) (by simp [results,Tryz.results248,go_sem, *]) rfl (Zr hX0 rfl (uh HO) (uh BB))
 obtain ⟨bb,hbb,rfl⟩:∃ bb:Nat,bb<m.desks.length/\b=(bb:Int):=by
  rcases Vt (XV m k may) (k:Int) with ⟨e,_⟩ | ⟨bb,hbl,e,_⟩
  ·rw [uh Hb] at e;omega
  ·exact ⟨bb,hbl,(uh Hb).symm.trans e⟩
 have hat:Z8 (XV m k may).smiths k=TQ (Z8 m.smiths k) may:=by
  show Z8 (m.smiths.set k _) k=_
  rw [ZK hk,if_pos rfl]
 go_wp2_with fail
 have hofX:∀ k,WW (.slice xa0 m.rooms.length xp0) (.slice xa1 m.guilds.length xp1) (.slice (some ⟨g2,0,none⟩) m.smiths.length xp2) (.slice xa3 m.desks.length xp3) (.slice xa4 m.paces.length xp4) xq k->k ≠ xb:=fun k e=>by have:=(uh LX k e).2;omega
 refine (Vb (m:=XV m k may) (k:=k) (bn:=bn) (b:=bb) (uh kx) (uh HP) (fun e=>hofX _ (.inr (.inr (.inr (.inl e)))) rfl) (fun e=>hofX _ (.inr (.inr (.inr (.inr (.inl e))))) rfl) (by show k<(m.smiths.set k _).length;simp;omega) (by rw [hat,uh Hrk];rfl) hbnl hbb).mono ?_
 rintro e w7 ⟨rfl,hf7,ht7⟩
 rw [hat] at hf7
 replace kx:=Z9 ((uh kx).two ht7 (fun e=>hofX _ (.inr (.inr (.inr (.inl e)))) rfl) (fun e=>hofX _ (.inr (.inr (.inr (.inr (.inl e))))) rfl))
 replace kr:=Z9 ((uh kr).two ht7 (fun e=>by have:=(uh LX _ (.inr (.inr (.inr (.inl e))))).1;omega) (fun e=>by have:=(uh LX _ (.inr (.inr (.inr (.inr (.inl e)))))).1;omega))
 replace BB:=Z9 ((uh BB).trans (ht7.below (uh BB).size (fun k e=>by have:=(uh LX k (.inr (.inr (.inr (.inl e))))).1;omega) (fun k e=>by have:=(uh LX k (.inr (.inr (.inr (.inr (.inl e)))))).1;omega)))
 replace HP:=Z9 hf7
 clear hf7 ht7 hat hofX HO ko ks
 go_wp2_with fail
 refine (VP (m:=setS (XV m k may) k (putS (XV m k may) (TQ (Z8 m.smiths k) may) (bb:Int))) (uh kx) (uh HP) (fun k e=>by have:=(uh LX k e).2;omega) (uh kr) (uh BB) (by show ((m.smiths.set k _).set k _).length<=800;have:=hfw.smiths;simp;omega) hfw.desks).mono ?_
 clear kr BB
 rintro e w9 ⟨rfl,HF9,kr,BB⟩
 obtain ⟨o0,o1,o2,o3,o4,o5⟩:=(uh kr).c6
 obtain ⟨f0,f1,f2,f3,f4,f5⟩:=(uh kr).f6
 go_wp2_with fail
 have hX0:X=(ZX (setS (XV m k may) k (putS (XV m k may) (TQ (Z8 m.smiths k) may) (bb:Int))),0):=by rw [<-uh HX];unfold Wv;rw [uh Hok,uh Hqw];simp only [if_true,Int.toNat_natCast];rw [uh Hpb];simp only [if_true];rw [uh Hp0,uh Hq0];simp only [Bool.not_false,Bool.and_self,if_true];rw [uh Hb,if_neg (by omega)]
 have hnow:(ZX (setS (XV m k may) k (putS (XV m k may) (TQ (Z8 m.smiths k) may) (bb:Int)))).now=m.now:=(ZQ _ _).2.2.2.1
 exact bodyPost_ret (v:= .tuple #[.agg (S6 xa0 xp0 xa1 xp1 (some ⟨g2,0,none⟩) xp2 xa3 xp3 xa4 xp4 m),.int .i64 0]) (by simp [results,Tryz.results248,go_sem,setS,Xq,YH,pushS,XV, *]) rfl (Zr hX0 hnow (uh HF9) (uh BB))
theorem PC  (who:Int) (lo:Int) (hi:Int) (h:Smy w v0 v1 v2 v3 v4 m) :
  Calls Tryz.prog 249 #[.agg #[v0,v1,v2,v3,v4,.int .i64 m.now],.int .i64 who,.int .i64 lo,.int .i64 hi] w fun e w'=>TC w.heap.size (Vf m who lo hi).1 (Vf m who lo hi).2 e w'/\Below w.heap.size w w':=by
 obtain ⟨X,hX⟩:∃ x,Vf m who lo hi=x:=⟨_,rfl⟩
 rw [hX]
 have HX:=Z9 hX
 clear hX
 have Hv0:=Z9 h
 obtain ⟨a0,p0,a1,p1,a2,p2,a3,p3,a4,p4,rfl,rfl,rfl,rfl,rfl,_,_,_,_,_,_,_,_,_,_⟩:=h.five
 clear h
 obtain ⟨ok,hok⟩:∃ q,ZP m=q:=⟨_,rfl⟩
 have Hok:=Z9 hok
 clear hok
 go_enter Tryz.func249,Tryz.ntmps249
 go_wp2_with fail
 obtain ⟨W,hW,kb,kr,BB⟩:=YS w 32 (S6 a0 p0 a1 p1 a2 p2 a3 p3 a4 p4 m) 32 E6
 have Hv:=Z9 ((uh Hv0).below (uh BB))
 clear Hv0
 rw [hW]
 clear hW
 refine ck (XX (uh Hok) (uh Hv)) fun w1 hb=> ?_
 replace kb:=bl kb hb
 replace kr:=bl kr hb
 replace Hv:=Z9 ((uh Hv).below hb)
 replace BB:=bt BB hb
 clear hb
 cases ok
 ·
  obtain ⟨c0,c1,c2,c3,c4,c5⟩:=(uh kb).c6
  go_wp2_with fail
  clear c0 c1 c2 c3 c4 c5
  refine ck (Yy (uh Hv)) fun w2 hb=> ?_
  replace kb:=bl kb hb
  replace kr:=bl kr hb
  replace Hv:=Z9 ((uh Hv).below hb)
  replace BB:=bt BB hb
  clear hb
  obtain ⟨o0,o1,o2,o3,o4,o5⟩:=(uh kr).c6
  obtain ⟨f0,f1,f2,f3,f4,f5⟩:=(uh kr).f6
  go_wp2_with fail
  have hX0:X=(YJ,3):=by rw [<-uh HX];unfold Vf;rw [uh Hok];rfl
  exact bodyPost_ret (v:= .tuple #[.agg E6,.int .i64 3]) (by simp [results,Tryz.results249,go_sem, *]) rfl (Zr hX0 rfl (Y1 _ _) (uh BB))
 have hlo:=ZY (uh Hok)
 have HLo:=Z9 hlo
 have HFew:=Z9 (XJ hlo)
 clear hlo
 obtain ⟨c0,c1,c2,c3,c4,c5⟩:=(uh kb).c6
 go_wp2_with fail
 clear c0 c1 c2 c3 c4 c5
 refine (U2 (uh Hv) (uh HFew) (uh kb) (uh kr) (uh BB)).mono ?_
 clear kb kr Hv BB
 rintro e w2 ⟨b0,q0,b1,q1,b2,q2,b3,q3,b4,q4,oq,rfl,W2,ob,hW2,hob2,kb,kr,Hv,HO,ko,LO,hob,BB⟩
 go_upto_region 4 with fail
 (try rw [hW2])
 (try rw [hob2])
 clear hW2 hob2
 obtain ⟨qw,hqw⟩:∃ q,UP m who=q:=⟨_,rfl⟩
 have Hqw:=Z9 hqw
 clear hqw
 obtain ⟨c0,c1,c2,c3,c4,c5⟩:=(uh kb).c6
 go_wp2_with fail
 clear c0 c1 c2 c3 c4 c5
 refine ck (Va (uh Hqw) (uh Hv)) fun w3 hb=> ?_
 replace kb:=bl kb hb
 replace kr:=bl kr hb
 replace Hv:=Z9 ((uh Hv).below hb)
 replace HO:=Z9 ((uh HO).below hb)
 replace ko:=bl ko hb
 replace BB:=bt BB hb
 clear hb
 cases qw
 ·
  obtain ⟨x0,x1,x2,x3,x4,x5⟩:=(uh ko).c6
  obtain ⟨o0,o1,o2,o3,o4,o5⟩:=(uh kr).c6
  obtain ⟨f0,f1,f2,f3,f4,f5⟩:=(uh kr).f6
  go_wp2_with fail
  have hX0:X=(m,1):=by rw [<-uh HX];unfold Vf;rw [uh Hok,uh Hqw];rfl
  exact bodyPost_ret (v:= .tuple #[.agg (S6 b0 q0 b1 q1 b2 q2 b3 q3 b4 q4 m),.int .i64 1]) (by simp [results,Tryz.results249,go_sem, *]) rfl (Zr hX0 rfl (uh HO) (uh BB))
 obtain ⟨k,rfl,hk,hs0⟩:=Xj (uh Hqw)
 have hk1:(k:Int)<(m.smiths.length:Int):=by omega
 obtain ⟨pb,hpb⟩:∃ q,YG lo hi=q:=⟨_,rfl⟩
 have Hpb:=Z9 hpb
 clear hpb
 go_wp2_with fail
 refine (Y3 lo hi _).mono ?_
 rw [uh Hpb]
 rintro e w9 ⟨rfl,hw9⟩
 subst w9
 cases pb
 ·
  obtain ⟨x0,x1,x2,x3,x4,x5⟩:=(uh ko).c6
  obtain ⟨o0,o1,o2,o3,o4,o5⟩:=(uh kr).c6
  obtain ⟨f0,f1,f2,f3,f4,f5⟩:=(uh kr).f6
  go_wp2_with fail
  have hX0:X=(m,3):=by rw [<-uh HX];unfold Vf;rw [uh Hok,uh Hqw];simp only [if_true];rw [uh Hpb];rfl
  exact bodyPost_ret (v:= .tuple #[.agg (S6 b0 q0 b1 q1 b2 q2 b3 q3 b4 q4 m),.int .i64 3]) (by simp [results,Tryz.results249,go_sem, *]) rfl (Zr hX0 rfl (uh HO) (uh BB))
 obtain ⟨g2,hga,_,_,hc2,hz2⟩:=RecAt.view ZT (by omega) (uh HO).smiths rfl (by omega)
 cases hga
 have hg2o:=(uh LO g2 (.inr (.inr (.inr (.inl rfl)))))
 have x2:=(uh ko).cell (i:=2) (v:= .slice (some ⟨g2,0,none⟩) m.smiths.length q2) rfl
 have s0:=hc2 k hk 5 _ rfl
 have f0:=hz2 (k*11+5)
 have hp0:=(uh HO).putS rfl (j:=k) (i:=5) hk (by omega) (.int .i64 lo) (((Z8 m.smiths k).1,(Z8 m.smiths k).2.1,(Z8 m.smiths k).2.2.1,(Z8 m.smiths k).2.2.2.1,(Z8 m.smiths k).2.2.2.2.1,lo,(Z8 m.smiths k).2.2.2.2.2.2)) rfl
 have hl1:(m.smiths.set k (((Z8 m.smiths k).1,(Z8 m.smiths k).2.1,(Z8 m.smiths k).2.2.1,(Z8 m.smiths k).2.2.2.1,(Z8 m.smiths k).2.2.2.2.1,lo,(Z8 m.smiths k).2.2.2.2.2.2))).length=m.smiths.length:=by simp
 have hr1:Z8 (m.smiths.set k (((Z8 m.smiths k).1,(Z8 m.smiths k).2.1,(Z8 m.smiths k).2.2.1,(Z8 m.smiths k).2.2.2.1,(Z8 m.smiths k).2.2.2.2.1,lo,(Z8 m.smiths k).2.2.2.2.2.2))) k=(((Z8 m.smiths k).1,(Z8 m.smiths k).2.1,(Z8 m.smiths k).2.2.1,(Z8 m.smiths k).2.2.2.1,(Z8 m.smiths k).2.2.2.2.1,lo,(Z8 m.smiths k).2.2.2.2.2.2)):=by rw [ZK hk,if_pos rfl]
 have hp1:=hp0.putS hl1.symm (j:=k) (i:=6) (by show k<(m.smiths.set k _).length;omega) (by omega) (.int .i64 hi) (G8 (Z8 m.smiths k) lo hi) (by show ZV (G8 (Z8 m.smiths k) lo hi)=(ZV (Z8 (m.smiths.set k (((Z8 m.smiths k).1,(Z8 m.smiths k).2.1,(Z8 m.smiths k).2.2.1,(Z8 m.smiths k).2.2.2.1,(Z8 m.smiths k).2.2.2.2.1,lo,(Z8 m.smiths k).2.2.2.2.2.2))) k)).set 6 _;rw [hr1];rfl)
 obtain ⟨_,hga,_,_,hd1,hy1⟩:=RecAt.view ZT (by omega) hp0.smiths hl1.symm (by show 0<(m.smiths.set k _).length;omega)
 cases hga
 have s1:=hd1 k (by show k<(m.smiths.set k _).length;omega) 6 _ rfl
 have f1:=hy1 (k*11+6)
 simp only [List.set_set] at hp1
 have x2':=((uh ko).other (a:=⟨g2,k*11+5,none⟩) (by show ob ≠ g2;omega) (.int .i64 lo)).cell (i:=2) (v:= .slice (some ⟨g2,0,none⟩) m.smiths.length q2) rfl
 have HP:=Z9 hp1
 clear hc2 hz2 HO hp0 hp1
 go_upto_region 10 with fail
 clear s0 s1 f0 f1 x2
 replace ko:Hid (Blk (((w3).setCell ⟨g2,k*11+5,none⟩ (.int .i64 lo)).setCell ⟨g2,k*11+6,none⟩ (.int .i64 hi)) ob 32 (S6 b0 q0 b1 q1 (some ⟨g2,0,none⟩) q2 b3 q3 b4 q4 m)):=Z9 (((uh ko).other (a:=⟨g2,k*11+5,none⟩) (by show ob ≠ g2;omega) (.int .i64 lo)).other (a:=⟨g2,k*11+6,none⟩) (by show ob ≠ g2;omega) (.int .i64 hi))
 replace kr:Hid (Blk (((w3).setCell ⟨g2,k*11+5,none⟩ (.int .i64 lo)).setCell ⟨g2,k*11+6,none⟩ (.int .i64 hi)) (w.heap.size+1) 32 E6):=Z9 (((uh kr).other (a:=⟨g2,k*11+5,none⟩) (by show w.heap.size+1 ≠ g2;omega) (.int .i64 lo)).other (a:=⟨g2,k*11+6,none⟩) (by show w.heap.size+1 ≠ g2;omega) (.int .i64 hi))
 replace BB:Hid (Below w.heap.size w (((w3).setCell ⟨g2,k*11+5,none⟩ (.int .i64 lo)).setCell ⟨g2,k*11+6,none⟩ (.int .i64 hi))):=Z9 (((uh BB).setCell (p:=⟨g2,k*11+5,none⟩) (by show w.heap.size<=g2;omega) (.int .i64 lo)).setCell (p:=⟨g2,k*11+6,none⟩) (by show w.heap.size<=g2;omega) (.int .i64 hi))
 clear kb Hv
 generalize ((w3).setCell ⟨g2,k*11+5,none⟩ (.int .i64 lo)).setCell ⟨g2,k*11+6,none⟩ (.int .i64 hi)=W3 at *
 have hfw:=uh HFew
 go_wp2_with fail
 refine (VP (m:=setS m k (G8 (Z8 m.smiths k) lo hi)) (uh ko) (uh HP) (fun k e=>by have:=(uh LO k e).2;omega) (uh kr) (uh BB) (by show (m.smiths.set k _).length<=800;have:=hfw.smiths;simp;omega) hfw.desks).mono ?_
 clear kr BB
 rintro e w4 ⟨rfl,HF9,kr,BB⟩
 obtain ⟨o0,o1,o2,o3,o4,o5⟩:=(uh kr).c6
 obtain ⟨f0,f1,f2,f3,f4,f5⟩:=(uh kr).f6
 go_wp2_with fail
 have hX0:X=(ZX (setS m k (G8 (Z8 m.smiths k) lo hi)),0):=by rw [<-uh HX];unfold Vf;rw [uh Hok,uh Hqw];simp only [if_true,Int.toNat_natCast];rw [uh Hpb];rfl
 have hnow:(ZX (setS m k (G8 (Z8 m.smiths k) lo hi))).now=m.now:=(ZQ _ _).2.2.2.1
 exact bodyPost_ret (v:= .tuple #[.agg (S6 b0 q0 b1 q1 (some ⟨g2,0,none⟩) q2 b3 q3 b4 q4 m),.int .i64 0]) (by simp [results,Tryz.results249,go_sem,setS,Xq,YH,pushS, *]) rfl (Zr hX0 hnow (uh HF9) (uh BB))
theorem QF (h:Loose m):0<m.paces.length:=by
 rw [XC h]
 have hd:=h.head
 unfold Y2 at hd
 simp only [Bool.and_eq_true,decide_eq_true_eq] at hd
 have:=(Zy hd.1).1
 omega
theorem P0 {R n₀:Nat}  {qs:List (Z2 × Value)} {nw:Int} (hn:m.now=nw) (kb:Blk w R 32 #[v0,v1,v2,v3,v4,.int .i64 nw]) (hf:FullSmy n₀ w v0 v1 v2 v3 v4 m qs) (h2:v2.ownBlock ≠ some R) (h3:v3.ownBlock ≠ some R) (hl:m.smiths.length<=800) (hd:m.desks.length<=1000) :
  Calls Tryz.prog 44 #[.pointer (some ⟨R,0,none⟩)] w fun e w'=>e= .returned (.tuple #[.agg #[v0,v1,v2,v3,v4,.int .i64 nw],.int .i64 0])/\FullSmy n₀ w' v0 v1 v2 v3 v4 (ZX m) qs/\Two v2.ownBlock v3.ownBlock w w':=by
 subst hn
 exact SY kb hf h2 h3 hl hd
theorem GV  (h:Smy w v0 v1 v2 v3 v4 m) (hok:ZP m=true) :
  Calls Tryz.prog 252 #[.agg #[v0,v1,v2,v3,v4,.int .i64 m.now]] w fun e w'=>TC w.heap.size (Gq m) 0 e w'/\Below w.heap.size w w':=by
 obtain ⟨X,hX⟩:∃ x,Gq m=x:=⟨_,rfl⟩
 rw [hX]
 have HX:=Z9 hX
 clear hX
 have Hv0:=Z9 h
 obtain ⟨a0,p0,a1,p1,a2,p2,a3,p3,a4,p4,rfl,rfl,rfl,rfl,rfl,_,_,_,_,_,_,_,_,_,_⟩:=h.five
 clear h
 have Hok:=Z9 hok
 clear hok
 go_enter Tryz.func252,Tryz.ntmps252
 go_wp2_with fail
 have kb:Hid (Blk ((w.alloc (.cells (S6 a0 p0 a1 p1 a2 p2 a3 p3 a4 p4 m) 32)).alloc (.cells E6 32)) w.heap.size 32 (S6 a0 p0 a1 p1 a2 p2 a3 p3 a4 p4 m)):=Z9 ((Blk.new w _ _).alloc _)
 have kr:Hid (Blk ((w.alloc (.cells (S6 a0 p0 a1 p1 a2 p2 a3 p3 a4 p4 m) 32)).alloc (.cells E6 32)) (w.heap.size+1) 32 E6):=Z9 (by
  have k:=Blk.new (w.alloc (.cells (S6 a0 p0 a1 p1 a2 p2 a3 p3 a4 p4 m) 32)) 32 E6
  rw [World.size_alloc] at k
  exact k)
 have BB:Hid (Below w.heap.size w ((w.alloc (.cells (S6 a0 p0 a1 p1 a2 p2 a3 p3 a4 p4 m) 32)).alloc (.cells E6 32))):=Z9 (((ba _ _)).alloc (by simp) _)
 have Hv:=Z9 ((uh Hv0).below (uh BB))
 generalize (w.alloc (.cells (S6 a0 p0 a1 p1 a2 p2 a3 p3 a4 p4 m) 32)).alloc (.cells E6 32)=w1 at *
 have hlo:=ZY (uh Hok)
 have HLo:=Z9 hlo
 have HFew:=Z9 (XJ hlo)
 clear hlo
 have hWs:w.heap.size+2<=w1.heap.size:=by have:=(uh kr).lt;omega
 refine (YE (uh Hv) (uh HFew)).mono ?_
 rintro e w2 ⟨y0,y1,y2,y3,y4,oq,rfl,ho,hb⟩
 have k9:=ho.smy
 obtain ⟨b0,q0,b1,q1,b2,q2,b3,q3,b4,q4,rfl,rfl,rfl,rfl,rfl,_,_,_,_,_,_,_,_,_,_⟩:=k9.five
 clear k9
 replace kb:=bl kb hb
 replace kr:=bl kr hb
 replace Hv:=Z9 ((uh Hv).below hb)
 replace BB:=bt BB hb
 have HO:=Z9 (ho.mono hWs)
 have LO:Hid (∀ k,WW (.slice b0 m.rooms.length q0) (.slice b1 m.guilds.length q1) (.slice b2 m.smiths.length q2) (.slice b3 m.desks.length q3) (.slice b4 m.paces.length q4) oq k->w.heap.size+2<=k/\k<w2.heap.size):=Z9 (fun k e=>(uh HO).own e)
 have hsz9:=hb.size
 clear ho hb
 go_upto_region 2 with fail
 obtain ⟨W2,hW2,hba,ko⟩:=YO w2 32 (S6 b0 q0 b1 q1 b2 q2 b3 q3 b4 q4 m)
 replace kb:=bl kb hba
 replace kr:=bl kr hba
 replace Hv:=Z9 ((uh Hv).below hba)
 replace HO:=Z9 ((uh HO).below hba)
 replace BB:=bt BB hba
 have hob:w.heap.size+2<=w2.heap.size:=Nat.le_trans hWs hsz9
 clear hba hsz9 hWs
 rw [hW2]
 clear hW2
 generalize w2.heap.size=ob at *
 have hpp:=QF (uh HLo)
 have hpr:=XC (uh HLo)
 have HSn:=Z9 (uh HLo).sane
 have hp9:=(uh HFew).paces
 obtain ⟨g4,hga,_,hg4w,_,_⟩:=RecAt.view Zb (by omega) (uh HO).paces rfl (by omega)
 cases hga
 have hg4o:=(uh LO g4 (.inr (.inr (.inr (.inr (.inr rfl))))))
 have Hpr:=Z9 hpr
 clear hpr hp9
 go_wp2_with fail
 go_loopw [5] (fun i wr=> ∃ k:Nat,k<=m.paces.length/\i= .int .i64 k/\FullSmy (w.heap.size+2) wr (.slice b0 m.rooms.length q0) (.slice b1 m.guilds.length q1) (.slice b2 m.smiths.length q2) (.slice b3 m.desks.length q3) (.slice (some ⟨g4,0,none⟩) m.paces.length q4) (Q4 m k) oq/\Two none (some g4) W2 wr) (fun i _=>m.paces.length-(intOf i).toNat)
 case atStart=>exact ⟨0,Nat.zero_le _,rfl,uh HO,Two.refl _ _ _⟩
 case round=>
  obtain ⟨k,hk,rfl,hf1,htw⟩:=hrel
  have hbw:=(uh BB).trans (htw.below (uh BB).size (fun _ e=>by cases e) (fun j e=>by cases e;omega))
  have B1:=Z9 hbw
  have Hv1:=Z9 ((uh Hv0).below hbw)
  have kb1:=Z9 ((uh kb).two htw (by simp) (fun e=>by cases e;omega))
  have ko1:=Z9 ((uh ko).two htw (by simp) (fun e=>by cases e;omega))
  have kr1:=Z9 ((uh kr).two htw (by simp) (fun e=>by cases e;omega))
  have HF1:=Z9 hf1
  have Tw:=Z9 htw
  clear hbw hf1 htw
  by_cases hlt:k<m.paces.length
  ·
   obtain ⟨c0,c1,c2,c3,c4,c5⟩:=(uh kb1).c6
   have x4:=(uh ko1).cell (i:=4) (v:= .slice (some ⟨g4,0,none⟩) m.paces.length q4) rfl
   have hkp1:(k:Int)<(m.paces.length:Int):=by omega
   go_wp2_with fail
   refine ZS (S:=fun w'=>w'.cell? ⟨w.heap.size,0,none⟩=some (.slice a0 m.rooms.length p0)/\w'.cell? ⟨w.heap.size,1,none⟩=some (.slice a1 m.guilds.length p1)/\w'.cell? ⟨w.heap.size,2,none⟩=some (.slice a2 m.smiths.length p2)/\w'.cell? ⟨w.heap.size,3,none⟩=some (.slice a3 m.desks.length p3)/\w'.cell? ⟨w.heap.size,4,none⟩=some (.slice a4 m.paces.length p4)/\w'.cell? ⟨w.heap.size,5,none⟩=some (.int .i64 m.now)/\w'.cell? ⟨ob,4,none⟩=some (.slice (some ⟨g4,0,none⟩) m.paces.length q4)) (by kernel_rfl) (List.cons_ne_nil _ _) (by kernel_rfl) ⟨c0,c1,c2,c3,c4,c5,x4⟩ (fun hHeld=> ?_)
   clear c0 c1 c2 c3 c4 c5 x4
   simp only [List.dropLast_cons_cons,List.dropLast_singleton,List.length_cons,List.length_nil,Nat.zero_add,Nat.reduceAdd]
   (refine tq 0 ?_;(try simp only [Act.put,sA,sZ,sS]))
   (refine tq 1 ?_;(try simp only [Act.put,sA,sZ,sS]))
   (refine tq 2 ?_;(try simp only [Act.put,sA,sZ,sS]))
   (refine tq 3 ?_;(try simp only [Act.put,sA,sZ,sS]))
   (refine tq 4 ?_;(try simp only [Act.put,sA,sZ,sS]))
   refine rd 5 rfl (fun K hK=> ?_)
   go_simp
   refine ck (Sb (r:=k) ((uh Hv1).below (Below.refl _ _).drew) (uh HSn) (by rw [<-uh Hpr];exact hlt)) fun w9 hb8=> ?_
   have hb9:Below wr.heap.size wr w9:=(Below.refl wr.heap.size wr).drew.trans hb8
   clear hb8
   have kb9:=(uh kb1).below hb9 (uh kb1).lt
   have ko9:=(uh ko1).below hb9 (uh ko1).lt
   refine hK.out _ _ ⟨kb9.cell (i:=0) rfl,kb9.cell (i:=1) rfl,kb9.cell (i:=2) rfl,kb9.cell (i:=3) rfl,kb9.cell (i:=4) rfl,kb9.cell (i:=5) rfl,ko9.cell (i:=4) rfl⟩ (fun hHeld=> ?_)
   clear hK K kb9 ko9
   (try simp only [Act.put,sA,sZ,sS])
   have HF9:=Z9 ((uh HF1).below hb9)
   have T9:=Z9 ((uh Tw).trans (Two.of_below hb9))
   have hal:m.paces.length=(Q4 m k).paces.length:=(Sj m k).2.2.2.2.2.symm
   obtain ⟨_,hga,_,_,hc4,hz4⟩:=RecAt.view Zb (by omega) (uh HF9).paces hal (by omega)
   cases hga
   have s0:=hc4 k (by omega) 0 _ rfl
   have f0:=hz4 k
   have hput:=(uh HF9).putP hal (j:=k) (by omega) (WV m k)
   simp only [Nat.add_zero,Nat.mul_one] at s0
   have HP:=Z9 hput
   clear hc4 hz4 hput hb9 hal
   (refine tq 6 ?_;(try simp only [Act.put,sA,sZ,sS]))
   refine wpAnyH_done (by kernel_rfl) ?_ _
   refine ZH rfl rfl ?_
   go_simp
   clear hHeld
   go_wp2_with fail
   go_roundw
   case rel=>exact ⟨k+1,by omega,by go_num,uh HP,(uh T9).trans (Two.of_set _ (.inr rfl) _ _)⟩
   case measure=>exact ms
  ·
   obtain rfl:k=m.paces.length:=by omega
   have c4:=(uh kb1).cell (i:=4) (v:= .slice a4 m.paces.length p4) rfl
   have hno:¬ ((m.paces.length:Nat):Int)<(m.paces.length:Int):=by omega
   obtain ⟨e1,e2,e3,e4,e5,e6⟩:=Sj m m.paces.length
   have hfw:=uh HFew
   go_wp2_with fail
   have hofR:∀ k,WW (.slice b0 m.rooms.length q0) (.slice b1 m.guilds.length q1) (.slice b2 m.smiths.length q2) (.slice b3 m.desks.length q3) (.slice (some ⟨g4,0,none⟩) m.paces.length q4) oq k->k ≠ ob:=fun k e=>by have:=(uh LO k e).2;omega
   refine (P0 (m:=Q4 m m.paces.length) e5 (uh ko1) (uh HF1) (fun e=>hofR _ (.inr (.inr (.inr (.inl e)))) rfl) (fun e=>hofR _ (.inr (.inr (.inr (.inr (.inl e))))) rfl) (by rw [e3];have:=hfw.smiths;omega) (by rw [e4];exact hfw.desks)).mono ?_
   rintro e w3 ⟨rfl,hf9,ht9⟩
   replace kr:=Z9 ((uh kr1).two ht9 (fun e=>by have:=(uh LO _ (.inr (.inr (.inr (.inl e))))).1;omega) (fun e=>by have:=(uh LO _ (.inr (.inr (.inr (.inr (.inl e)))))).1;omega))
   replace BB:=Z9 ((uh B1).trans (ht9.below (uh B1).size (fun k e=>by have:=(uh LO k (.inr (.inr (.inr (.inl e))))).1;omega) (fun k e=>by have:=(uh LO k (.inr (.inr (.inr (.inr (.inl e)))))).1;omega)))
   have hnow:(ZX (Q4 m m.paces.length)).now=m.now:=(ZQ _ _).2.2.2.1.trans e5
   have HF9:=Z9 hf9
   have Hn9:=Z9 hnow
   clear hf9 ht9 hofR e1 e2 e3 e4 e5 e6 hnow c4
   obtain ⟨o0,o1,o2,o3,o4,o5⟩:=(uh kr).c6
   obtain ⟨f0,f1,f2,f3,f4,f5⟩:=(uh kr).f6
   go_wp2_with fail
   refine bodyPost_ret (v:= .tuple #[.agg (S6 b0 q0 b1 q1 b2 q2 b3 q3 (some ⟨g4,0,none⟩) q4 m),.int .i64 0]) (by simp [results,Tryz.results252,go_sem, *]) rfl ⟨?_,?_⟩
   ·rw [<-uh HX];refine ⟨_,_,_,_,_,oq,by unfold Gq;rw [uh Hn9],?_⟩
    iterate 6 (refine FullSmy.set_off ?_ (fun k e=>by have:=(uh LO k e).1;omega) _ _)
    exact (uh HF9).mono (by omega)
   ·iterate 6 (refine Below.setCell ?_ (by show _<=w.heap.size+1;omega) _)
    exact uh BB
end Go.Proofs.YtffcgajndmhpkaaGreatDoor
