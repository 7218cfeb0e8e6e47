/- Part 32 of what the proof rests on. No condition but those that a theorem names. -/
import Derived.Test.YtamgfpdahadnfaaGreatDoorXf26
import Derived.Test.YtamgfpdahadnfaaGreatDoorXf27
import Derived.Test.YtamgfpdahadnfaaGreatDoorXf28
set_option maxHeartbeats 8000000
set_option maxRecDepth 100000
namespace Go.Proofs.YtamgfpdahadnfaaGreatDoor
open Go.ChangeShapes Go.WideShapes Go.ChangeAt Go.RowKit Go.Sort
set_option linter.unusedVariables false
set_option linter.unusedSimpArgs false
def Wd (m:Z6) (b:Int):Z6 × Int:=
 if ZF m then (if YP m b then (if (Z8 m.dk b.toNat).1 then (m,2) else (ZP (Zk m b.toNat true),0)) else (m,1)) else (Yc,3)
theorem SX {m:Z6} {b:Int} (h:YP m b=true):∃ k:Nat,b=(k:Int)/\k<m.dk.length:=by
 have:=ZJ (show inB b 0 ((m.dk.length:Int)-1)=true from h);exact ⟨b.toNat,by omega,by omega⟩
theorem MA {m:Z6} (h:ZF m=true) (b:Int):ZF (Wd m b).1=true:=by
 unfold Wd;rw [h];simp only [if_true]
 split
 ·rename_i hw
  obtain ⟨k,rfl,hk⟩:=SX hw;rw [show ((k:Int)).toNat=k by simp]
  split
  ·exact h
  ·exact YE (J1 (ZM h) hk)
 ·exact h
theorem RN {w:World} {v0 v1 v2 v3 v4:Value} {m:Z6} (bench:Int) (h:Smy w v0 v1 v2 v3 v4 m) :
  Calls Tryz.prog 34 #[.agg #[v0,v1,v2,v3,v4,.int .i64 m.now],.int .i64 bench] w fun e w'=>Ty w.heap.size (Wd m bench).1 (Wd m bench).2 e w'/\Below w.heap.size w w':=by
 obtain ⟨X,hX⟩:∃ x,Wd m bench=x:=⟨_,rfl⟩
 rw [hX];have HX:=Z9 hX;clear hX;have Hv0:=Z9 h;obtain ⟨a0,p0,a1,p1,a2,p2,a3,p3,a4,p4,rfl,rfl,rfl,rfl,rfl,_,_,_,_,_,_,_,_,_,_⟩:=h.five;clear h;obtain ⟨ok,hok⟩:∃ q,ZF m=q:=⟨_,rfl⟩
 have Hok:=Z9 hok;clear hok;go_enter Tryz.func34,Tryz.ntmps34;go_wp2_with fail;obtain ⟨W,hW,kb,kr,BB⟩:=YB w 32 (S6 a0 p0 a1 p1 a2 p2 a3 p3 a4 p4 m) 32 E6;have Hv:=Z9 ((uh Hv0).below (uh BB));clear Hv0;rw [hW];clear hW;refine ck (Xx (uh Hok) (uh Hv)) fun w1 hb=> ?_;replace kb:=bl kb hb;replace kr:=bl kr hb;replace Hv:=Z9 ((uh Hv).below hb);replace BB:=bt BB hb;clear hb;cases ok
 ·
  obtain ⟨c0,c1,c2,c3,c4,c5⟩:=(uh kb).c6;go_wp2_with fail;clear c0 c1 c2 c3 c4 c5;refine ck (XT (uh Hv)) fun w2 hb=> ?_;replace kb:=bl kb hb;replace kr:=bl kr hb;replace Hv:=Z9 ((uh Hv).below hb);replace BB:=bt BB hb;clear hb;obtain ⟨o0,o1,o2,o3,o4,o5⟩:=(uh kr).c6;obtain ⟨f0,f1,f2,f3,f4,f5⟩:=(uh kr).f6;go_wp2_with fail;have hX0:X=(Yc,3):=by rw [<-uh HX];unfold Wd;rw [uh Hok];rfl
  exact ZQ (v:= .tuple #[.agg E6,.int .i64 3]) (by simp [results,Tryz.results34,go_sem, *]) rfl (Za hX0 rfl (Yq _ _) (uh BB))
 have hlo:=ZM (uh Hok);have HLo:=Z9 hlo;have HFew:=Z9 (WJ hlo);clear hlo;obtain ⟨c0,c1,c2,c3,c4,c5⟩:=(uh kb).c6;go_wp2_with fail;clear c0 c1 c2 c3 c4 c5;refine (T0 (uh Hv) (uh HFew) (uh kb) (uh kr) (uh BB)).mono ?_;clear kb kr Hv BB;rintro e w2 ⟨b0,q0,b1,q1,b2,q2,b3,q3,b4,q4,oq,rfl,W2,ob,hW2,hob2,kb,kr,Hv,HO,ko,LO,hob,BB⟩;go_upto_region 4 with fail
 (try rw [hW2])
 (try rw [hob2])
 clear hW2 hob2;obtain ⟨qw,hqw⟩:∃ q,YP m bench=q:=⟨_,rfl⟩
 have Hqw:=Z9 hqw;clear hqw;obtain ⟨c0,c1,c2,c3,c4,c5⟩:=(uh kb).c6;go_wp2_with fail;clear c0 c1 c2 c3 c4 c5;refine ck (Sq (uh Hqw) (uh Hv)) fun w3 hb=> ?_;replace kb:=bl kb hb;replace kr:=bl kr hb;replace Hv:=Z9 ((uh Hv).below hb);replace HO:=Z9 ((uh HO).below hb);replace ko:=bl ko hb;replace BB:=bt BB hb;clear hb;cases qw
 ·
  obtain ⟨x0,x1,x2,x3,x4,x5⟩:=(uh ko).c6;obtain ⟨o0,o1,o2,o3,o4,o5⟩:=(uh kr).c6;obtain ⟨f0,f1,f2,f3,f4,f5⟩:=(uh kr).f6;go_wp2_with fail;have hX0:X=(m,1):=by rw [<-uh HX];unfold Wd;rw [uh Hok,uh Hqw];rfl
  exact ZQ (v:= .tuple #[.agg (S6 b0 q0 b1 q1 b2 q2 b3 q3 b4 q4 m),.int .i64 1]) (by simp [results,Tryz.results34,go_sem, *]) rfl (Za hX0 rfl (uh HO) (uh BB))
 obtain ⟨k,rfl,hk⟩:=SX (uh Hqw);have hk1:(k:Int)<(m.dk.length:Int):=by omega
 obtain ⟨_,_,hde,_,_,r3⟩:=(uh Hv).dk;cases hde
 rcases r3 with e0 | ⟨db,off,rfl,hbw,hcl⟩
 ·rw [e0] at hk;simp at hk
 obtain ⟨d0,_,_⟩:=Y2 hcl hk;clear hcl;obtain ⟨op,hop⟩:∃ q,(Z8 m.dk k).1=q:=⟨_,rfl⟩
 rw [hop] at d0;have Hop:=Z9 hop;clear hop;have c3:=(uh kb).cell (i:=3) (v:= .slice (some ⟨db,off,none⟩) m.dk.length p3) rfl;cases op;rotate_left
 ·
  obtain ⟨x0,x1,x2,x3,x4,x5⟩:=(uh ko).c6;obtain ⟨o0,o1,o2,o3,o4,o5⟩:=(uh kr).c6;obtain ⟨f0,f1,f2,f3,f4,f5⟩:=(uh kr).f6;go_wp2_with fail;have hX0:X=(m,2):=by rw [<-uh HX];unfold Wd;rw [uh Hok,uh Hqw];simp only [if_true,Zy];rw [uh Hop];rfl
  exact ZQ (v:= .tuple #[.agg (S6 b0 q0 b1 q1 b2 q2 b3 q3 b4 q4 m),.int .i64 2]) (by simp [results,Tryz.results34,go_sem, *]) rfl (Za hX0 rfl (uh HO) (uh BB))
 obtain ⟨g3,hga,_,_,hc3,hz3⟩:=RecAt.view ZH (by omega) (uh HO).dk rfl (by omega);cases hga;have s0:=hc3 k hk 0 _ rfl;have f0:=hz3 (k*3);have x3:=(uh ko).cell (i:=3) (v:= .slice (some ⟨g3,0,none⟩) m.dk.length q3) rfl;have hput:=(uh HO).putD rfl (j:=k) (i:=0) hk (by omega) (.bool true) (true,(Z8 m.dk k).2) rfl;simp only [Nat.add_zero] at s0 hput;have hg3o:=(uh LO g3 (.inr (.inr (.inr (.inr (.inl rfl))))))
 clear hc3 hz3;go_upto_region 9 with fail;clear s0 f0 x3 c3 d0;have HP:=Z9 hput;clear hput HO;replace ko:Hid (Blk (w3.setCell ⟨g3,k*3,none⟩ (.bool true)) ob 32 (S6 b0 q0 b1 q1 b2 q2 (some ⟨g3,0,none⟩) q3 b4 q4 m)):=Z9 ((uh ko).other (a:=⟨g3,k*3,none⟩) (by show ob ≠ g3;omega) _);replace kr:Hid (Blk (w3.setCell ⟨g3,k*3,none⟩ (.bool true)) (w.heap.size+1) 32 E6):=Z9 ((uh kr).other (a:=⟨g3,k*3,none⟩) (by show w.heap.size+1 ≠ g3;omega) _);replace BB:Hid (Below w.heap.size w (w3.setCell ⟨g3,k*3,none⟩ (.bool true))):=Z9 ((uh BB).setCell (p:=⟨g3,k*3,none⟩) (by show w.heap.size<=g3;omega) _);clear kb Hv;generalize w3.setCell ⟨g3,k*3,none⟩ (.bool true)=W3 at *;have hfw:=uh HFew;go_wp2_with fail;refine (UR (m:=Zk m k true) (uh ko) (uh HP) (fun k e=>by have:=(uh LO k e).2;omega) (uh kr) (uh BB) (by show m.sm.length<=800;have:=hfw.sm;omega) (by show (m.dk.set k _).length<=_;rw [V5];exact hfw.dk)).mono ?_;clear kr BB;rintro e w4 ⟨rfl,HF9,kr,BB⟩;obtain ⟨o0,o1,o2,o3,o4,o5⟩:=(uh kr).c6;obtain ⟨f0,f1,f2,f3,f4,f5⟩:=(uh kr).f6;go_wp2_with fail;have hX0:X=(ZP (Zk m k true),0):=by rw [<-uh HX];unfold Wd;rw [uh Hok,uh Hqw];simp only [if_true,Zy];rw [uh Hop];rfl
 have hnow:(ZP (Zk m k true)).now=m.now:=(ZG _ _).2.2.2.1;exact ZQ (v:= .tuple #[.agg (S6 b0 q0 b1 q1 b2 q2 (some ⟨g3,0,none⟩) q3 b4 q4 m),.int .i64 0]) (by simp [results,Tryz.results34,go_sem,setS,TH,Zk,pushS, *]) rfl (Za hX0 hnow (uh HF9) (uh BB))
theorem NQ {w:World} {v0 v1 v2 v3 v4:Value} {m:Z6} (who:Int) (lo:Int) (hi:Int) (h:Smy w v0 v1 v2 v3 v4 m) :
  Calls Tryz.prog 28 #[.agg #[v0,v1,v2,v3,v4,.int .i64 m.now],.int .i64 who,.int .i64 lo,.int .i64 hi] w fun e w'=>Ty w.heap.size (Uj m who lo hi).1 (Uj m who lo hi).2 e w'/\Below w.heap.size w w':=by
 obtain ⟨X,hX⟩:∃ x,Uj m who lo hi=x:=⟨_,rfl⟩
 rw [hX];have HX:=Z9 hX;clear hX;have Hv0:=Z9 h;obtain ⟨a0,p0,a1,p1,a2,p2,a3,p3,a4,p4,rfl,rfl,rfl,rfl,rfl,_,_,_,_,_,_,_,_,_,_⟩:=h.five;clear h;obtain ⟨ok,hok⟩:∃ q,ZF m=q:=⟨_,rfl⟩
 have Hok:=Z9 hok;clear hok;go_enter Tryz.func28,Tryz.ntmps28;go_wp2_with fail;obtain ⟨W,hW,kb,kr,BB⟩:=YB w 32 (S6 a0 p0 a1 p1 a2 p2 a3 p3 a4 p4 m) 32 E6;have Hv:=Z9 ((uh Hv0).below (uh BB));clear Hv0;rw [hW];clear hW;refine ck (Xx (uh Hok) (uh Hv)) fun w1 hb=> ?_;replace kb:=bl kb hb;replace kr:=bl kr hb;replace Hv:=Z9 ((uh Hv).below hb);replace BB:=bt BB hb;clear hb;cases ok
 ·
  obtain ⟨c0,c1,c2,c3,c4,c5⟩:=(uh kb).c6;go_wp2_with fail;clear c0 c1 c2 c3 c4 c5;refine ck (XT (uh Hv)) fun w2 hb=> ?_;replace kb:=bl kb hb;replace kr:=bl kr hb;replace Hv:=Z9 ((uh Hv).below hb);replace BB:=bt BB hb;clear hb;obtain ⟨o0,o1,o2,o3,o4,o5⟩:=(uh kr).c6;obtain ⟨f0,f1,f2,f3,f4,f5⟩:=(uh kr).f6;go_wp2_with fail;have hX0:X=(Yc,3):=by rw [<-uh HX];unfold Uj;rw [uh Hok];rfl
  exact ZQ (v:= .tuple #[.agg E6,.int .i64 3]) (by simp [results,Tryz.results28,go_sem, *]) rfl (Za hX0 rfl (Yq _ _) (uh BB))
 have hlo:=ZM (uh Hok);have HLo:=Z9 hlo;have HFew:=Z9 (WJ hlo);clear hlo;obtain ⟨c0,c1,c2,c3,c4,c5⟩:=(uh kb).c6;go_wp2_with fail;clear c0 c1 c2 c3 c4 c5;refine (T0 (uh Hv) (uh HFew) (uh kb) (uh kr) (uh BB)).mono ?_;clear kb kr Hv BB;rintro e w2 ⟨b0,q0,b1,q1,b2,q2,b3,q3,b4,q4,oq,rfl,W2,ob,hW2,hob2,kb,kr,Hv,HO,ko,LO,hob,BB⟩;go_upto_region 4 with fail
 (try rw [hW2])
 (try rw [hob2])
 clear hW2 hob2;obtain ⟨qw,hqw⟩:∃ q,TJ m who=q:=⟨_,rfl⟩
 have Hqw:=Z9 hqw;clear hqw;obtain ⟨c0,c1,c2,c3,c4,c5⟩:=(uh kb).c6;go_wp2_with fail;clear c0 c1 c2 c3 c4 c5;refine ck (Ue (uh Hqw) (uh Hv)) fun w3 hb=> ?_;replace kb:=bl kb hb;replace kr:=bl kr hb;replace Hv:=Z9 ((uh Hv).below hb);replace HO:=Z9 ((uh HO).below hb);replace ko:=bl ko hb;replace BB:=bt BB hb;clear hb;cases qw
 ·
  obtain ⟨x0,x1,x2,x3,x4,x5⟩:=(uh ko).c6;obtain ⟨o0,o1,o2,o3,o4,o5⟩:=(uh kr).c6;obtain ⟨f0,f1,f2,f3,f4,f5⟩:=(uh kr).f6;go_wp2_with fail;have hX0:X=(m,1):=by rw [<-uh HX];unfold Uj;rw [uh Hok,uh Hqw];rfl
  exact ZQ (v:= .tuple #[.agg (S6 b0 q0 b1 q1 b2 q2 b3 q3 b4 q4 m),.int .i64 1]) (by simp [results,Tryz.results28,go_sem, *]) rfl (Za hX0 rfl (uh HO) (uh BB))
 obtain ⟨k,rfl,hk,hs0⟩:=Wr (uh Hqw);have hk1:(k:Int)<(m.sm.length:Int):=by omega
 obtain ⟨pb,hpb⟩:∃ q,Ya lo hi=q:=⟨_,rfl⟩
 have Hpb:=Z9 hpb;clear hpb;go_wp2_with fail;refine (YD lo hi _).mono ?_;rw [uh Hpb];rintro e w9 ⟨rfl,hw9⟩;subst w9;cases pb
 ·
  obtain ⟨x0,x1,x2,x3,x4,x5⟩:=(uh ko).c6;obtain ⟨o0,o1,o2,o3,o4,o5⟩:=(uh kr).c6;obtain ⟨f0,f1,f2,f3,f4,f5⟩:=(uh kr).f6;go_wp2_with fail;have hX0:X=(m,3):=by rw [<-uh HX];unfold Uj;rw [uh Hok,uh Hqw];simp only [if_true];rw [uh Hpb];rfl
  exact ZQ (v:= .tuple #[.agg (S6 b0 q0 b1 q1 b2 q2 b3 q3 b4 q4 m),.int .i64 3]) (by simp [results,Tryz.results28,go_sem, *]) rfl (Za hX0 rfl (uh HO) (uh BB))
 obtain ⟨g2,hga,_,_,hc2,hz2⟩:=RecAt.view ZT (by omega) (uh HO).sm rfl (by omega);cases hga;have hg2o:=(uh LO g2 (.inr (.inr (.inr (.inl rfl)))))
 have x2:=(uh ko).cell (i:=2) (v:= .slice (some ⟨g2,0,none⟩) m.sm.length q2) rfl;have s0:=hc2 k hk 5 _ rfl;have f0:=hz2 (k*11+5);have hp0:=(uh HO).putS rfl (j:=k) (i:=5) hk (by omega) (.int .i64 lo) (((Z8 m.sm k).1,(Z8 m.sm k).2.1,(Z8 m.sm k).2.2.1,(Z8 m.sm k).2.2.2.1,(Z8 m.sm k).2.2.2.2.1,lo,(Z8 m.sm k).2.2.2.2.2.2)) rfl;have hl1:(m.sm.set k (((Z8 m.sm k).1,(Z8 m.sm k).2.1,(Z8 m.sm k).2.2.1,(Z8 m.sm k).2.2.2.1,(Z8 m.sm k).2.2.2.2.1,lo,(Z8 m.sm k).2.2.2.2.2.2))).length=m.sm.length:=by simp
 have hr1:Z8 (m.sm.set k (((Z8 m.sm k).1,(Z8 m.sm k).2.1,(Z8 m.sm k).2.2.1,(Z8 m.sm k).2.2.2.1,(Z8 m.sm k).2.2.2.2.1,lo,(Z8 m.sm k).2.2.2.2.2.2))) k=(((Z8 m.sm k).1,(Z8 m.sm k).2.1,(Z8 m.sm k).2.2.1,(Z8 m.sm k).2.2.2.1,(Z8 m.sm k).2.2.2.2.1,lo,(Z8 m.sm k).2.2.2.2.2.2)):=by rw [ZI hk,if_pos rfl]
 have hp1:=hp0.putS hl1.symm (j:=k) (i:=6) (by show k<(m.sm.set k _).length;omega) (by omega) (.int .i64 hi) (Ez (Z8 m.sm k) lo hi) (by show ZV (Ez (Z8 m.sm k) lo hi)=(ZV (Z8 (m.sm.set k (((Z8 m.sm k).1,(Z8 m.sm k).2.1,(Z8 m.sm k).2.2.1,(Z8 m.sm k).2.2.2.1,(Z8 m.sm k).2.2.2.2.1,lo,(Z8 m.sm k).2.2.2.2.2.2))) k)).set 6 _;rw [hr1];rfl);obtain ⟨_,hga,_,_,hd1,hy1⟩:=RecAt.view ZT (by omega) hp0.sm hl1.symm (by show 0<(m.sm.set k _).length;omega);cases hga;have s1:=hd1 k (by show k<(m.sm.set k _).length;omega) 6 _ rfl;have f1:=hy1 (k*11+6);simp only [List.set_set] at hp1;have x2':=((uh ko).other (a:=⟨g2,k*11+5,none⟩) (by show ob ≠ g2;omega) (.int .i64 lo)).cell (i:=2) (v:= .slice (some ⟨g2,0,none⟩) m.sm.length q2) rfl;have HP:=Z9 hp1;clear hc2 hz2 HO hp0 hp1;go_upto_region 10 with fail;clear s0 s1 f0 f1 x2;replace ko:Hid (Blk (((w3).setCell ⟨g2,k*11+5,none⟩ (.int .i64 lo)).setCell ⟨g2,k*11+6,none⟩ (.int .i64 hi)) ob 32 (S6 b0 q0 b1 q1 (some ⟨g2,0,none⟩) q2 b3 q3 b4 q4 m)):=Z9 (((uh ko).other (a:=⟨g2,k*11+5,none⟩) (by show ob ≠ g2;omega) (.int .i64 lo)).other (a:=⟨g2,k*11+6,none⟩) (by show ob ≠ g2;omega) (.int .i64 hi));replace kr:Hid (Blk (((w3).setCell ⟨g2,k*11+5,none⟩ (.int .i64 lo)).setCell ⟨g2,k*11+6,none⟩ (.int .i64 hi)) (w.heap.size+1) 32 E6):=Z9 (((uh kr).other (a:=⟨g2,k*11+5,none⟩) (by show w.heap.size+1 ≠ g2;omega) (.int .i64 lo)).other (a:=⟨g2,k*11+6,none⟩) (by show w.heap.size+1 ≠ g2;omega) (.int .i64 hi));replace BB:Hid (Below w.heap.size w (((w3).setCell ⟨g2,k*11+5,none⟩ (.int .i64 lo)).setCell ⟨g2,k*11+6,none⟩ (.int .i64 hi))):=Z9 (((uh BB).setCell (p:=⟨g2,k*11+5,none⟩) (by show w.heap.size<=g2;omega) (.int .i64 lo)).setCell (p:=⟨g2,k*11+6,none⟩) (by show w.heap.size<=g2;omega) (.int .i64 hi));clear kb Hv;generalize ((w3).setCell ⟨g2,k*11+5,none⟩ (.int .i64 lo)).setCell ⟨g2,k*11+6,none⟩ (.int .i64 hi)=W3 at *;have hfw:=uh HFew;go_wp2_with fail;refine (UR (m:=setS m k (Ez (Z8 m.sm k) lo hi)) (uh ko) (uh HP) (fun k e=>by have:=(uh LO k e).2;omega) (uh kr) (uh BB) (by show (m.sm.set k _).length<=800;have:=hfw.sm;simp;omega) hfw.dk).mono ?_;clear kr BB;rintro e w4 ⟨rfl,HF9,kr,BB⟩;obtain ⟨o0,o1,o2,o3,o4,o5⟩:=(uh kr).c6;obtain ⟨f0,f1,f2,f3,f4,f5⟩:=(uh kr).f6;go_wp2_with fail;have hX0:X=(ZP (setS m k (Ez (Z8 m.sm k) lo hi)),0):=by rw [<-uh HX];unfold Uj;rw [uh Hok,uh Hqw];simp only [if_true,Zy];rw [uh Hpb];rfl
 have hnow:(ZP (setS m k (Ez (Z8 m.sm k) lo hi))).now=m.now:=(ZG _ _).2.2.2.1;exact ZQ (v:= .tuple #[.agg (S6 b0 q0 b1 q1 (some ⟨g2,0,none⟩) q2 b3 q3 b4 q4 m),.int .i64 0]) (by simp [results,Tryz.results28,go_sem,setS,TH,Zk,pushS, *]) rfl (Za hX0 hnow (uh HF9) (uh BB))
theorem JB {w:World} {v0 v1 v2 v3 v4:Value} {m:Z6} (who:Int) (h:Smy w v0 v1 v2 v3 v4 m) :
  Calls Tryz.prog 252 #[.agg #[v0,v1,v2,v3,v4,.int .i64 m.now],.int .i64 who] w fun e w'=>Ty w.heap.size (RI m who).1 (RI m who).2 e w'/\Below w.heap.size w w':=by
 obtain ⟨X,hX⟩:∃ x,RI m who=x:=⟨_,rfl⟩
 rw [hX];have HX:=Z9 hX;clear hX;have Hv0:=Z9 h;obtain ⟨a0,p0,a1,p1,a2,p2,a3,p3,a4,p4,rfl,rfl,rfl,rfl,rfl,_,_,_,_,_,_,_,_,_,_⟩:=h.five;clear h;obtain ⟨ok,hok⟩:∃ q,ZF m=q:=⟨_,rfl⟩
 have Hok:=Z9 hok;clear hok;go_enter Tryz.func252,Tryz.ntmps252;go_wp2_with fail;obtain ⟨W,hW,kb,kr,BB⟩:=YB w 32 (S6 a0 p0 a1 p1 a2 p2 a3 p3 a4 p4 m) 32 E6;have Hv:=Z9 ((uh Hv0).below (uh BB));clear Hv0;rw [hW];clear hW;refine ck (Xx (uh Hok) (uh Hv)) fun w1 hb=> ?_;replace kb:=bl kb hb;replace kr:=bl kr hb;replace Hv:=Z9 ((uh Hv).below hb);replace BB:=bt BB hb;clear hb;cases ok
 ·
  obtain ⟨c0,c1,c2,c3,c4,c5⟩:=(uh kb).c6;go_wp2_with fail;clear c0 c1 c2 c3 c4 c5;refine ck (XT (uh Hv)) fun w2 hb=> ?_;replace kb:=bl kb hb;replace kr:=bl kr hb;replace Hv:=Z9 ((uh Hv).below hb);replace BB:=bt BB hb;clear hb;obtain ⟨o0,o1,o2,o3,o4,o5⟩:=(uh kr).c6;obtain ⟨f0,f1,f2,f3,f4,f5⟩:=(uh kr).f6;go_wp2_with fail;have hX0:X=(Yc,3):=by rw [<-uh HX];unfold RI;rw [uh Hok];rfl
  exact ZQ (v:= .tuple #[.agg E6,.int .i64 3]) (by simp [results,Tryz.results252,go_sem, *]) rfl (Za hX0 rfl (Yq _ _) (uh BB))
 have hlo:=ZM (uh Hok);have HLo:=Z9 hlo;have HFew:=Z9 (WJ hlo);clear hlo;obtain ⟨c0,c1,c2,c3,c4,c5⟩:=(uh kb).c6;go_wp2_with fail;clear c0 c1 c2 c3 c4 c5;refine (T0 (uh Hv) (uh HFew) (uh kb) (uh kr) (uh BB)).mono ?_;clear kb kr Hv BB;rintro e w2 ⟨b0,q0,b1,q1,b2,q2,b3,q3,b4,q4,oq,rfl,W2,ob,hW2,hob2,kb,kr,Hv,HO,ko,LO,hob,BB⟩;go_upto_region 4 with fail
 (try rw [hW2])
 (try rw [hob2])
 clear hW2 hob2;obtain ⟨qw,hqw⟩:∃ q,TJ m who=q:=⟨_,rfl⟩
 have Hqw:=Z9 hqw;clear hqw;obtain ⟨c0,c1,c2,c3,c4,c5⟩:=(uh kb).c6;go_wp2_with fail;clear c0 c1 c2 c3 c4 c5;refine ck (Ue (uh Hqw) (uh Hv)) fun w3 hb=> ?_;replace kb:=bl kb hb;replace kr:=bl kr hb;replace Hv:=Z9 ((uh Hv).below hb);replace HO:=Z9 ((uh HO).below hb);replace ko:=bl ko hb;replace BB:=bt BB hb;clear hb;cases qw
 ·
  obtain ⟨x0,x1,x2,x3,x4,x5⟩:=(uh ko).c6;obtain ⟨o0,o1,o2,o3,o4,o5⟩:=(uh kr).c6;obtain ⟨f0,f1,f2,f3,f4,f5⟩:=(uh kr).f6;go_wp2_with fail;have hX0:X=(m,1):=by rw [<-uh HX];unfold RI;rw [uh Hok,uh Hqw];rfl
  exact ZQ (v:= .tuple #[.agg (S6 b0 q0 b1 q1 b2 q2 b3 q3 b4 q4 m),.int .i64 1]) (by simp [results,Tryz.results252,go_sem, *]) rfl (Za hX0 rfl (uh HO) (uh BB))
 obtain ⟨k,rfl,hk,hs0⟩:=Wr (uh Hqw);have hk1:(k:Int)<(m.sm.length:Int):=by omega
 obtain ⟨_,_,hse,_,_,r2⟩:=(uh Hv).sm;cases hse
 rcases r2 with e0 | ⟨sb,off,rfl,hbw,hcl⟩
 ·rw [e0] at hk;simp at hk
 obtain ⟨d0,d1,d2,d3,d4,d5,d6,d7,d8,d9,d10⟩:=Zx hcl hk;clear hcl;obtain ⟨ps,hps⟩:∃ q,ZR (Z8 m.sm k)=q:=⟨_,rfl⟩
 have Hps:=Z9 hps;obtain ⟨⟨st,be,rk,my,gu,lo,hi,hd,ca,ut,wk⟩,hrk⟩:∃ d,Z8 m.sm k=d:=⟨_,rfl⟩
 rw [hrk] at d0 d1 d2 d3 d4 d5 d6 d7 d8 d9 d10 hps;simp only at d0 d1 d2 d3 d4 d5 d6 d7 d8 d9 d10;have c2:=(uh kb).cell (i:=2) (v:= .slice (some ⟨sb,off,none⟩) m.sm.length p2) rfl;have Hpt:=Z9 hps;clear hps;go_wp2_with fail;refine ck (Yt (uh Hpt) _) fun w4 hb=> ?_;replace kb:=bl kb hb;replace kr:=bl kr hb;replace Hv:=Z9 ((uh Hv).below hb);replace HO:=Z9 ((uh HO).below hb);replace ko:=bl ko hb;replace BB:=bt BB hb;clear hb d0 d1 d2 d3 d4 d5 d6 d7 d8 d9 d10 c2;cases ps
 ·
  obtain ⟨x0,x1,x2,x3,x4,x5⟩:=(uh ko).c6;obtain ⟨o0,o1,o2,o3,o4,o5⟩:=(uh kr).c6;obtain ⟨f0,f1,f2,f3,f4,f5⟩:=(uh kr).f6;go_wp2_with fail;have hX0:X=(m,2):=by rw [<-uh HX];unfold RI;rw [uh Hok,uh Hqw];simp only [if_true,Zy];rw [uh Hps];rfl
  exact ZQ (v:= .tuple #[.agg (S6 b0 q0 b1 q1 b2 q2 b3 q3 b4 q4 m),.int .i64 2]) (by simp [results,Tryz.results252,go_sem, *]) rfl (Za hX0 rfl (uh HO) (uh BB))
 obtain ⟨g2,hga,_,_,hc2,hz2⟩:=RecAt.view ZT (by omega) (uh HO).sm rfl (by omega);cases hga;have s0:=hc2 k hk 0 _ rfl;have f0:=hz2 (k*11);have x2:=(uh ko).cell (i:=2) (v:= .slice (some ⟨g2,0,none⟩) m.sm.length q2) rfl;have hput:=(uh HO).putS rfl (j:=k) (i:=0) hk (by omega) (.int .i64 1) (stS (Z8 m.sm k) 1) rfl;simp only [Nat.add_zero] at s0 hput;have hg2o:=(uh LO g2 (.inr (.inr (.inr (.inl rfl)))))
 clear hc2 hz2;go_upto_region 9 with fail;clear s0 f0 x2;have HP:=Z9 hput;clear hput HO;replace ko:Hid (Blk (w4.setCell ⟨g2,k*11,none⟩ (.int .i64 1)) ob 32 (S6 b0 q0 b1 q1 (some ⟨g2,0,none⟩) q2 b3 q3 b4 q4 m)):=Z9 ((uh ko).other (a:=⟨g2,k*11,none⟩) (by show ob ≠ g2;omega) _);replace kr:Hid (Blk (w4.setCell ⟨g2,k*11,none⟩ (.int .i64 1)) (w.heap.size+1) 32 E6):=Z9 ((uh kr).other (a:=⟨g2,k*11,none⟩) (by show w.heap.size+1 ≠ g2;omega) _);replace BB:Hid (Below w.heap.size w (w4.setCell ⟨g2,k*11,none⟩ (.int .i64 1))):=Z9 ((uh BB).setCell (p:=⟨g2,k*11,none⟩) (by show w.heap.size<=g2;omega) _);clear kb Hv;generalize w4.setCell ⟨g2,k*11,none⟩ (.int .i64 1)=W3 at *;have hfw:=uh HFew;go_wp2_with fail;refine (UR (m:=setS m k (stS (Z8 m.sm k) 1)) (uh ko) (uh HP) (fun k e=>by have:=(uh LO k e).2;omega) (uh kr) (uh BB) (by show (m.sm.set k _).length<=800;have:=hfw.sm;simp;omega) hfw.dk).mono ?_;clear kr BB;rintro e w5 ⟨rfl,HF9,kr,BB⟩;obtain ⟨o0,o1,o2,o3,o4,o5⟩:=(uh kr).c6;obtain ⟨f0,f1,f2,f3,f4,f5⟩:=(uh kr).f6;go_wp2_with fail;have hX0:X=(ZP (setS m k (stS (Z8 m.sm k) 1)),0):=by rw [<-uh HX];unfold RI;rw [uh Hok,uh Hqw];simp only [if_true,Zy];rw [uh Hps];rfl
 have hnow:(ZP (setS m k (stS (Z8 m.sm k) 1))).now=m.now:=(ZG _ _).2.2.2.1;exact ZQ (v:= .tuple #[.agg (S6 b0 q0 b1 q1 (some ⟨g2,0,none⟩) q2 b3 q3 b4 q4 m),.int .i64 0]) (by simp [results,Tryz.results252,go_sem,setS,TH,Zk,pushS, *]) rfl (Za hX0 hnow (uh HF9) (uh BB))
theorem Gu {w:World} {v0 v1 v2 v3 v4:Value} {m:Z6} (who:Int) (gu:Int) (h:Smy w v0 v1 v2 v3 v4 m) (hok:ZF m=true) :
  Calls Tryz.prog 258 #[.agg #[v0,v1,v2,v3,v4,.int .i64 m.now],.int .i64 who,.int .i64 gu] w fun e w'=>Ty w.heap.size (Qs m who gu).1 (Qs m who gu).2 e w'/\Below w.heap.size w w':=by
 obtain ⟨X,hX⟩:∃ x,Qs m who gu=x:=⟨_,rfl⟩
 rw [hX];have HX:=Z9 hX;clear hX;have Hv0:=Z9 h;obtain ⟨a0,p0,a1,p1,a2,p2,a3,p3,a4,p4,rfl,rfl,rfl,rfl,rfl,_,_,_,_,_,_,_,_,_,_⟩:=h.five;clear h;have Hok:=Z9 hok;clear hok;go_enter Tryz.func258,Tryz.ntmps258;go_wp2_with fail;have kb:Hid (Blk ((w.alloc (.cells (S6 a0 p0 a1 p1 a2 p2 a3 p3 a4 p4 m) 32)).alloc (.cells E6 32)) w.heap.size 32 (S6 a0 p0 a1 p1 a2 p2 a3 p3 a4 p4 m)):=Z9 ((Blk.new w _ _).alloc _)
 have kr:Hid (Blk ((w.alloc (.cells (S6 a0 p0 a1 p1 a2 p2 a3 p3 a4 p4 m) 32)).alloc (.cells E6 32)) (w.heap.size+1) 32 E6):=Z9 (by
  have k:=Blk.new (w.alloc (.cells (S6 a0 p0 a1 p1 a2 p2 a3 p3 a4 p4 m) 32)) 32 E6;rw [Y8] at k
  exact k)
 have BB:Hid (Below w.heap.size w ((w.alloc (.cells (S6 a0 p0 a1 p1 a2 p2 a3 p3 a4 p4 m) 32)).alloc (.cells E6 32))):=Z9 (((ba _ _)).alloc (by simp) _);have Hv:=Z9 ((uh Hv0).below (uh BB));clear Hv0;generalize (w.alloc (.cells (S6 a0 p0 a1 p1 a2 p2 a3 p3 a4 p4 m) 32)).alloc (.cells E6 32)=w1 at *;have hlo:=ZM (uh Hok);have HLo:=Z9 hlo;have HFew:=Z9 (WJ hlo);clear hlo;have hWs:w.heap.size+2<=w1.heap.size:=by have:=(uh kr).lt;omega
 refine (XL (uh Hv) (uh HFew)).mono ?_;rintro e w2 ⟨y0,y1,y2,y3,y4,oq,rfl,ho,hb⟩;have k9:=ho.smy;obtain ⟨b0,q0,b1,q1,b2,q2,b3,q3,b4,q4,rfl,rfl,rfl,rfl,rfl,_,_,_,_,_,_,_,_,_,_⟩:=k9.five;clear k9;replace kb:=bl kb hb;replace kr:=bl kr hb;replace Hv:=Z9 ((uh Hv).below hb);replace BB:=bt BB hb;have HO:=Z9 (ho.mono hWs);have LO:Hid (∀ k,We (.slice b0 m.rm.length q0) (.slice b1 m.gd.length q1) (.slice b2 m.sm.length q2) (.slice b3 m.dk.length q3) (.slice b4 m.pc.length q4) oq k->w.heap.size+2<=k/\k<w2.heap.size):=Z9 (fun k e=>(uh HO).own e);have hsz9:=hb.size;clear ho hb;go_upto_region 2 with fail;obtain ⟨W2,hW2,hba,ko⟩:=Yz w2 32 (S6 b0 q0 b1 q1 b2 q2 b3 q3 b4 q4 m);replace kb:=bl kb hba;replace kr:=bl kr hba;replace Hv:=Z9 ((uh Hv).below hba);replace HO:=Z9 ((uh HO).below hba);replace BB:=bt BB hba;have hob:w.heap.size+2<=w2.heap.size:=XA hWs hsz9;clear hba hsz9 hWs;rw [hW2];clear hW2;generalize w2.heap.size=ob at *;obtain ⟨qw,hqw⟩:∃ q,TJ m who=q:=⟨_,rfl⟩
 have Hqw:=Z9 hqw;clear hqw;obtain ⟨c0,c1,c2,c3,c4,c5⟩:=(uh kb).c6;go_wp2_with fail;clear c0 c1 c2 c3 c4 c5;refine ck (Ue (uh Hqw) (uh Hv)) fun w3 hb=> ?_;replace kb:=bl kb hb;replace kr:=bl kr hb;replace Hv:=Z9 ((uh Hv).below hb);replace HO:=Z9 ((uh HO).below hb);replace ko:=bl ko hb;replace BB:=bt BB hb;clear hb;cases qw
 ·
  obtain ⟨x0,x1,x2,x3,x4,x5⟩:=(uh ko).c6;obtain ⟨o0,o1,o2,o3,o4,o5⟩:=(uh kr).c6;obtain ⟨f0,f1,f2,f3,f4,f5⟩:=(uh kr).f6;go_wp2_with fail;have hX0:X=(m,1):=by rw [<-uh HX];unfold Qs;rw [uh Hqw];rfl
  exact ZQ (v:= .tuple #[.agg (S6 b0 q0 b1 q1 b2 q2 b3 q3 b4 q4 m),.int .i64 1]) (by simp [results,Tryz.results258,go_sem, *]) rfl (Za hX0 rfl (uh HO) (uh BB))
 obtain ⟨k,rfl,hk,hs0⟩:=Wr (uh Hqw);have hk1:(k:Int)<(m.sm.length:Int):=by omega
 obtain ⟨qg,hqg⟩:∃ q,inB gu (-1) ((m.gd.length:Int)-1)=q:=⟨_,rfl⟩
 have Hqg:=Z9 hqg;clear hqg;have hgl:=(uh HFew).gd;have c1:=(uh kb).cell (i:=1) (v:= .slice a1 m.gd.length p1) rfl;go_wp2_with fail;refine (ZU _ _ _ _).mono ?_;rw [uh Hqg];rintro e w9 ⟨rfl,hw9⟩;subst w9;clear c1;cases qg
 ·
  obtain ⟨x0,x1,x2,x3,x4,x5⟩:=(uh ko).c6;obtain ⟨o0,o1,o2,o3,o4,o5⟩:=(uh kr).c6;obtain ⟨f0,f1,f2,f3,f4,f5⟩:=(uh kr).f6;go_wp2_with fail;have hX0:X=(m,3):=by rw [<-uh HX];unfold Qs;rw [uh Hqw];simp only [if_true];rw [uh Hqg];rfl
  exact ZQ (v:= .tuple #[.agg (S6 b0 q0 b1 q1 b2 q2 b3 q3 b4 q4 m),.int .i64 3]) (by simp [results,Tryz.results258,go_sem, *]) rfl (Za hX0 rfl (uh HO) (uh BB))
 obtain ⟨g2,hga,_,_,hc2,hz2⟩:=RecAt.view ZT (by omega) (uh HO).sm rfl (by omega);cases hga;have hg2o:=(uh LO g2 (.inr (.inr (.inr (.inl rfl)))))
 have x2:=(uh ko).cell (i:=2) (v:= .slice (some ⟨g2,0,none⟩) m.sm.length q2) rfl;have s0:=hc2 k hk 4 _ rfl;have f0:=hz2 (k*11+4);have hp0:=(uh HO).putS rfl (j:=k) (i:=4) hk (by omega) (.int .i64 gu) (OJ (Z8 m.sm k) gu) rfl;have HP:=Z9 hp0;clear hc2 hz2 HO hp0;go_upto_region 7 with fail;clear s0 f0 x2;replace ko:Hid (Blk ((w3).setCell ⟨g2,k*11+4,none⟩ (.int .i64 gu)) ob 32 (S6 b0 q0 b1 q1 (some ⟨g2,0,none⟩) q2 b3 q3 b4 q4 m)):=Z9 ((uh ko).other (a:=⟨g2,k*11+4,none⟩) (by show ob ≠ g2;omega) (.int .i64 gu));replace kr:Hid (Blk ((w3).setCell ⟨g2,k*11+4,none⟩ (.int .i64 gu)) (w.heap.size+1) 32 E6):=Z9 ((uh kr).other (a:=⟨g2,k*11+4,none⟩) (by show w.heap.size+1 ≠ g2;omega) (.int .i64 gu));replace BB:Hid (Below w.heap.size w ((w3).setCell ⟨g2,k*11+4,none⟩ (.int .i64 gu))):=Z9 ((uh BB).setCell (p:=⟨g2,k*11+4,none⟩) (by show w.heap.size<=g2;omega) (.int .i64 gu));clear kb Hv;generalize (w3).setCell ⟨g2,k*11+4,none⟩ (.int .i64 gu)=W3 at *;have hfw:=uh HFew;go_wp2_with fail;refine (UR (m:=setS m k (OJ (Z8 m.sm k) gu)) (uh ko) (uh HP) (fun k e=>by have:=(uh LO k e).2;omega) (uh kr) (uh BB) (by show (m.sm.set k _).length<=800;have:=hfw.sm;simp;omega) hfw.dk).mono ?_;clear kr BB;rintro e w4 ⟨rfl,HF9,kr,BB⟩;obtain ⟨o0,o1,o2,o3,o4,o5⟩:=(uh kr).c6;obtain ⟨f0,f1,f2,f3,f4,f5⟩:=(uh kr).f6;go_wp2_with fail;have hX0:X=(ZP (setS m k (OJ (Z8 m.sm k) gu)),0):=by rw [<-uh HX];unfold Qs;rw [uh Hqw];simp only [if_true,Zy];rw [uh Hqg];rfl
 have hnow:(ZP (setS m k (OJ (Z8 m.sm k) gu))).now=m.now:=(ZG _ _).2.2.2.1;exact ZQ (v:= .tuple #[.agg (S6 b0 q0 b1 q1 (some ⟨g2,0,none⟩) q2 b3 q3 b4 q4 m),.int .i64 0]) (by simp [results,Tryz.results258,go_sem,setS,TH,Zk,pushS, *]) rfl (Za hX0 hnow (uh HF9) (uh BB))
theorem Ln {w:World} {v0 v1 v2 v3 v4:Value} {m:Z6} (who:Int) (h:Smy w v0 v1 v2 v3 v4 m) :
  Calls Tryz.prog 253 #[.agg #[v0,v1,v2,v3,v4,.int .i64 m.now],.int .i64 who] w fun e w'=>Ty w.heap.size (TD m who).1 (TD m who).2 e w'/\Below w.heap.size w w':=by
 obtain ⟨X,hX⟩:∃ x,TD m who=x:=⟨_,rfl⟩
 rw [hX];have HX:=Z9 hX;clear hX;have Hv0:=Z9 h;obtain ⟨a0,p0,a1,p1,a2,p2,a3,p3,a4,p4,rfl,rfl,rfl,rfl,rfl,_,_,_,_,_,_,_,_,_,_⟩:=h.five;clear h;obtain ⟨ok,hok⟩:∃ q,ZF m=q:=⟨_,rfl⟩
 have Hok:=Z9 hok;clear hok;go_enter Tryz.func253,Tryz.ntmps253;go_wp2_with fail;obtain ⟨W,hW,kb,kr,BB⟩:=YB w 32 (S6 a0 p0 a1 p1 a2 p2 a3 p3 a4 p4 m) 32 E6;have Hv:=Z9 ((uh Hv0).below (uh BB));clear Hv0;rw [hW];clear hW;refine ck (Xx (uh Hok) (uh Hv)) fun w1 hb=> ?_;replace kb:=bl kb hb;replace kr:=bl kr hb;replace Hv:=Z9 ((uh Hv).below hb);replace BB:=bt BB hb;clear hb;cases ok
 ·
  obtain ⟨c0,c1,c2,c3,c4,c5⟩:=(uh kb).c6;go_wp2_with fail;clear c0 c1 c2 c3 c4 c5;refine ck (XT (uh Hv)) fun w2 hb=> ?_;replace kb:=bl kb hb;replace kr:=bl kr hb;replace Hv:=Z9 ((uh Hv).below hb);replace BB:=bt BB hb;clear hb;obtain ⟨o0,o1,o2,o3,o4,o5⟩:=(uh kr).c6;obtain ⟨f0,f1,f2,f3,f4,f5⟩:=(uh kr).f6;go_wp2_with fail;have hX0:X=(Yc,3):=by rw [<-uh HX];unfold TD;rw [uh Hok];rfl
  exact ZQ (v:= .tuple #[.agg E6,.int .i64 3]) (by simp [results,Tryz.results253,go_sem, *]) rfl (Za hX0 rfl (Yq _ _) (uh BB))
 have hlo:=ZM (uh Hok);have HLo:=Z9 hlo;have HFew:=Z9 (WJ hlo);clear hlo;obtain ⟨c0,c1,c2,c3,c4,c5⟩:=(uh kb).c6;go_wp2_with fail;clear c0 c1 c2 c3 c4 c5;refine (T0 (uh Hv) (uh HFew) (uh kb) (uh kr) (uh BB)).mono ?_;clear kb kr Hv BB;rintro e w2 ⟨b0,q0,b1,q1,b2,q2,b3,q3,b4,q4,oq,rfl,W2,ob,hW2,hob2,kb,kr,Hv,HO,ko,LO,hob,BB⟩;go_upto_region 4 with fail
 (try rw [hW2])
 (try rw [hob2])
 clear hW2 hob2;obtain ⟨qw,hqw⟩:∃ q,TJ m who=q:=⟨_,rfl⟩
 have Hqw:=Z9 hqw;clear hqw;obtain ⟨c0,c1,c2,c3,c4,c5⟩:=(uh kb).c6;go_wp2_with fail;clear c0 c1 c2 c3 c4 c5;refine ck (Ue (uh Hqw) (uh Hv)) fun w3 hb=> ?_;replace kb:=bl kb hb;replace kr:=bl kr hb;replace Hv:=Z9 ((uh Hv).below hb);replace HO:=Z9 ((uh HO).below hb);replace ko:=bl ko hb;replace BB:=bt BB hb;clear hb;cases qw
 ·
  obtain ⟨x0,x1,x2,x3,x4,x5⟩:=(uh ko).c6;obtain ⟨o0,o1,o2,o3,o4,o5⟩:=(uh kr).c6;obtain ⟨f0,f1,f2,f3,f4,f5⟩:=(uh kr).f6;go_wp2_with fail;have hX0:X=(m,1):=by rw [<-uh HX];unfold TD;rw [uh Hok,uh Hqw];rfl
  exact ZQ (v:= .tuple #[.agg (S6 b0 q0 b1 q1 b2 q2 b3 q3 b4 q4 m),.int .i64 1]) (by simp [results,Tryz.results253,go_sem, *]) rfl (Za hX0 rfl (uh HO) (uh BB))
 obtain ⟨k,rfl,hk,hs0⟩:=Wr (uh Hqw);have hk1:(k:Int)<(m.sm.length:Int):=by omega
 obtain ⟨g2,hga,_,_,hc2,hz2⟩:=RecAt.view ZT (by omega) (uh HO).sm rfl (by omega);cases hga;have hg2o:=(uh LO g2 (.inr (.inr (.inr (.inl rfl)))))
 have x2:=(uh ko).cell (i:=2) (v:= .slice (some ⟨g2,0,none⟩) m.sm.length q2) rfl;obtain ⟨s0,s1,s2,s3,s4,s5,s6,s7,s8,s9,s10⟩:=AS (hc2 k hk);obtain ⟨g0,g1,g2,g3,g4,g5,g6,g7,g8,g9,g10⟩:=zY hz2 (k*11);simp only [Nat.add_zero] at s0 g0;have HP:=Z9 ((uh HO).putW rfl hk (0,0,0,0,0,0,0,0,0,0,0));clear hc2 hz2 HO;go_upto_region 7 with fail;clear x2 s0 g0 s1 g1 s2 g2 s3 g3 s4 g4 s5 g5 s6 g6 s7 g7 s8 g8 s9 g9 s10 g10;rw [AX];replace ko:=MR (g:=g2) (by omega) (ZV (0,0,0,0,0,0,0,0,0,0,0)) (o:=k*11) ko;replace kr:=MR (g:=g2) (by omega) (ZV (0,0,0,0,0,0,0,0,0,0,0)) (o:=k*11) kr;replace BB:=EZ (g:=g2) (by omega) (ZV (0,0,0,0,0,0,0,0,0,0,0)) (o:=k*11) BB;clear kb Hv;generalize PK w3 g2 (k*11) (ZV (0,0,0,0,0,0,0,0,0,0,0))=W3 at *;have hfw:=uh HFew;go_wp2_with fail;refine (UR (m:=setS m k Uv) (uh ko) (uh HP) (fun k e=>by have:=(uh LO k e).2;omega) (uh kr) (uh BB) (by show (m.sm.set k _).length<=800;have:=hfw.sm;simp;omega) hfw.dk).mono ?_;clear kr BB;rintro e w4 ⟨rfl,HF9,kr,BB⟩;obtain ⟨o0,o1,o2,o3,o4,o5⟩:=(uh kr).c6;obtain ⟨f0,f1,f2,f3,f4,f5⟩:=(uh kr).f6;go_wp2_with fail;have hX0:X=(ZP (setS m k Uv),0):=by rw [<-uh HX];unfold TD;rw [uh Hok,uh Hqw];simp only [if_true,Zy]
 have hnow:(ZP (setS m k Uv)).now=m.now:=(ZG _ _).2.2.2.1;exact ZQ (v:= .tuple #[.agg (S6 b0 q0 b1 q1 (some ⟨g2,0,none⟩) q2 b3 q3 b4 q4 m),.int .i64 0]) (by simp [results,Tryz.results253,go_sem,setS,TH,Zk,pushS, *]) rfl (Za hX0 hnow (uh HF9) (uh BB))
set_option maxRecDepth 100000
def Zo (m:Z6) (k who a b:Int):Z6 × Int:=
 if ZF m then (if k=1 then SZ m a b (-1) else if k=2 then RI m who else if k=3 then Tv m who else if k=4 then TD m who else if k=5 then Uo m who a else if k=6 then Vz m who a else if k=7 then Uj m who a b else if k=8 then Yr m a else if k=9 then Wd m a else if k=10 then R8 m a else if k=11 then Ub m a b else if k=12 then (DN m,0) else if k=13 then (VU m,0) else if k=14 then Qs m who a else (m,3)) else (Yc,3)
theorem Dg {m:Z6} (h:ZF m=true) (who a b:Int):Zo m 1 who a b=SZ m a b (-1):=by unfold Zo;rw [h];rfl
theorem Dh {m:Z6} (h:ZF m=true) (who a b:Int):Zo m 2 who a b=RI m who:=by unfold Zo;rw [h];rfl
theorem Di {m:Z6} (h:ZF m=true) (who a b:Int):Zo m 3 who a b=Tv m who:=by unfold Zo;rw [h];rfl
theorem Dj {m:Z6} (h:ZF m=true) (who a b:Int):Zo m 4 who a b=TD m who:=by unfold Zo;rw [h];rfl
theorem Dk {m:Z6} (h:ZF m=true) (who a b:Int):Zo m 5 who a b=Uo m who a:=by unfold Zo;rw [h];rfl
theorem Dl {m:Z6} (h:ZF m=true) (who a b:Int):Zo m 6 who a b=Vz m who a:=by unfold Zo;rw [h];rfl
theorem Dm {m:Z6} (h:ZF m=true) (who a b:Int):Zo m 7 who a b=Uj m who a b:=by unfold Zo;rw [h];rfl
theorem Dn {m:Z6} (h:ZF m=true) (who a b:Int):Zo m 8 who a b=Yr m a:=by unfold Zo;rw [h];rfl
theorem Dp {m:Z6} (h:ZF m=true) (who a b:Int):Zo m 9 who a b=Wd m a:=by unfold Zo;rw [h];rfl
theorem Gd {m:Z6} (h:ZF m=true) (who a b:Int):Zo m 10 who a b=R8 m a:=by unfold Zo;rw [h];rfl
theorem Ge {m:Z6} (h:ZF m=true) (who a b:Int):Zo m 11 who a b=Ub m a b:=by unfold Zo;rw [h];rfl
theorem Gf {m:Z6} (h:ZF m=true) (who a b:Int):Zo m 12 who a b=(DN m,0):=by unfold Zo;rw [h];rfl
theorem Gg {m:Z6} (h:ZF m=true) (who a b:Int):Zo m 13 who a b=(VU m,0):=by unfold Zo;rw [h];rfl
theorem Gh {m:Z6} (h:ZF m=true) (who a b:Int):Zo m 14 who a b=Qs m who a:=by unfold Zo;rw [h];rfl
theorem N9 {m:Z6} (h:ZF m=true) {k:Int} (hk:k<1\/14<k) (who a b:Int):Zo m k who a b=(m,3):=by
 unfold Zo;rw [if_pos h,if_neg (show ¬ k=1 by omega),if_neg (show ¬ k=2 by omega),if_neg (show ¬ k=3 by omega),if_neg (show ¬ k=4 by omega),if_neg (show ¬ k=5 by omega),if_neg (show ¬ k=6 by omega),if_neg (show ¬ k=7 by omega),if_neg (show ¬ k=8 by omega),if_neg (show ¬ k=9 by omega),if_neg (show ¬ k=10 by omega),if_neg (show ¬ k=11 by omega),if_neg (show ¬ k=12 by omega),if_neg (show ¬ k=13 by omega),if_neg (show ¬ k=14 by omega)]
theorem Jc {m:Z6} (h:ZF m=true) (k who a b:Int):ZF (Zo m k who a b).1=true:=by
 by_cases hk:k<1\/14<k
 ·rw [N9 h hk];exact h
 rcases (show k=1\/k=2\/k=3\/k=4\/k=5\/k=6\/k=7\/k=8\/k=9\/k=10\/k=11\/k=12\/k=13\/k=14 by omega) with rfl | rfl | rfl | rfl | rfl | rfl | rfl | rfl | rfl | rfl | rfl | rfl | rfl | rfl
 ·rw [Dg h];exact D2 h a b (-1)
 ·rw [Dh h];exact EW h who
 ·rw [Di h];exact Fw h who
 ·rw [Dj h];exact Gw h who
 ·rw [Dk h];exact EU h who a
 ·rw [Dl h];exact FD h who a
 ·rw [Dm h];exact GB h who a b
 ·rw [Dn h];exact Pp h a
 ·rw [Dp h];exact MA h a
 ·rw [Gd h];exact Fh h a
 ·rw [Ge h];exact Ga h a b
 ·rw [Gf h];exact Bu h
 ·rw [Gg h];exact (show ZF (VU m)=true by unfold VU;rw [h];exact Gy h)
 ·rw [Gh h];exact El h who a
set_option maxRecDepth 100000
def VW (m:Z6) (b:Int):Int:=if YP m b then (if (Z8 m.dk b.toNat).1 then 2 else 0) else 1
def RX (m:Z6) (b:Int):Z6:=Zk m b.toNat true
theorem zf (m:Z6) (b:Int):Wd m b=S0 m (RX m b) (VW m b):=by
 cases h:ZF m
 ·rw [LQ h];unfold Wd;rw [h];rfl
 unfold Wd VW;rw [h];simp only [if_true];by_cases hw:YP m b=true;rotate_left
 ·rw [if_neg hw,if_neg hw,QS h _ (by omega)]
 rw [if_pos hw,if_pos hw];obtain ⟨k,rfl,hk⟩:=SX hw;by_cases hp:(Z8 m.dk ((k:Int)).toNat).1=true
 ·rw [if_pos hp,if_pos hp,QS h _ (by omega)]
 ·rw [if_neg hp,if_neg hp,LR h]
  unfold RX;rw [Zy,KC (J1 (ZM h) hk)]
theorem JS (m:Z6) (b:Int):WR m.dk.length b=YP m b:=by
 unfold WR YP inB;rw [show decide (b<(m.dk.length:Int))=decide (b<=(m.dk.length:Int)-1) from decide_eq_decide.2 (by omega)];exact (Bool.decide_and _ _).symm
def putW (m:Z6) (s:Z3) (b:Int):Z3:=QE s b (Zr (Yn s) (YJ m s.2.1) (YJ m b))
structure Lk (A B:Z6):Prop where
 rm:B.rm=A.rm
 gd:B.gd=A.gd
 dk:B.dk=A.dk
 pc:B.pc=A.pc
 now:B.now=A.now
 len:B.sm.length=A.sm.length
 each:∀ i,(Z8 B.sm i).2=(Z8 A.sm i).2/\ZR (Z8 B.sm i)=ZR (Z8 A.sm i)
 same:∀ i,Z8 B.sm i=Z8 A.sm i\/ZR (Z8 A.sm i)=true
section
variable {A B : Z6}
theorem Lk.refl (A:Z6):Lk A A:=⟨rfl,rfl,rfl,rfl,rfl,rfl,fun _=>⟨rfl,rfl⟩,fun _=> .inl rfl⟩
theorem Lk.set (h:Lk A B) {k:Nat} (hk:k<A.sm.length) {s t:Z3} (e:t.2=s.2) (p:ZR t=ZR s) (q:t=s\/ZR s=true):Lk (setS A k s) (setS B k t):=by
 have hkB:k<B.sm.length:=by rw [h.len];exact hk
 refine ⟨h.rm,h.gd,h.dk,h.pc,h.now,by unfold setS;simp [h.len],fun i=> ?_,fun i=> ?_⟩
 ·show (Z8 (B.sm.set k t) i).2=(Z8 (A.sm.set k s) i).2/\ZR (Z8 (B.sm.set k t) i)=ZR (Z8 (A.sm.set k s) i)
  rw [ZI hkB,ZI hk];by_cases hi:i=k
  ·rw [if_pos hi,if_pos hi];exact ⟨e,p⟩
  ·rw [if_neg hi,if_neg hi];exact h.each i
 ·show Z8 (B.sm.set k t) i=Z8 (A.sm.set k s) i\/ZR (Z8 (A.sm.set k s) i)=true
  rw [ZI hkB,ZI hk];by_cases hi:i=k
  ·rw [if_pos hi,if_pos hi];exact q
  ·rw [if_neg hi,if_neg hi];exact h.same i
theorem Lk.want (h:Lk A B) (who:Int):Zu B who=Zu A who:=by
 unfold Zu Qz;rw [h.gd,(h.each _).1]
theorem Lk.at (h:Lk A B) (b:Int):atV B.sm b B.sm.length=atV A.sm b A.sm.length:=by
 rw [h.len];exact QM b _ (fun i hi=>⟨by rw [(h.each i).1],(h.each i).2,by unfold Yn;rw [(h.each i).1]⟩)
theorem Lk.used (h:Lk A B) (b but:Int):Zi B b but=Zi A b but:=by
 unfold Zi Vc;rw [h.at];have e:(fun (n:Int) (e:Z4)=>if e.2=but then n else n+Zu B e.2)=(fun (n:Int) (e:Z4)=>if e.2=but then n else n+Zu A e.2):=by funext n e;rw [h.want]
 rw [e]
theorem Lk.usedIn (h:Lk A B) (r:Int):∀ n,usedIn B r n=usedIn A r n
 | 0=>rfl
 | n+1=>by
  unfold Go.Proofs.YtamgfpdahadnfaaGreatDoor.usedIn;rw [Lk.usedIn h r n,h.used,h.dk,h.rm]
theorem Lk.coalIn (h:Lk A B) (r:Nat):coalIn B r=coalIn A r:=by
 unfold Go.Proofs.YtamgfpdahadnfaaGreatDoor.coalIn;rw [h.rm,h.dk,h.usedIn]
theorem Lk.coalTo (h:Lk A B):∀ n,coalTo B n=coalTo A n
 | 0=>rfl
 | n+1=>by
  unfold Go.Proofs.YtamgfpdahadnfaaGreatDoor.coalTo;rw [Lk.coalTo h n,h.coalIn]
theorem Qx {l:List Z3} {k:Nat} (hk:¬ k<l.length) (s:Z3):l.set k s=l:=List.set_eq_of_length_le (by omega)
theorem Lk.with (h:Lk A B) (who b:Int):Lk (Xu A who b) (Xu B who b):=by
 by_cases hk:who.toNat<A.sm.length
 ·exact h.set (s:=UB (Z8 A.sm who.toNat) b) (t:=UB (Z8 B.sm who.toNat) b) hk (by unfold UB;rw [(h.each _).1]) rfl (.inr rfl)
 ·have e1:Xu A who b=A:=by unfold Xu;rw [Qx hk]
  have e2:Xu B who b=B:=by unfold Xu;rw [Qx (by rw [h.len];exact hk)]
  rw [e1,e2];exact h
theorem Lk.cost (h:Lk A B) (who b:Int):Zl B who b=Zl A who b:=by
 unfold Zl QO;rw [(h.with who b).coalTo,(h.with who b).rm]
theorem Lk.may (h:Lk A B) (who:Int) (b:Nat):YK B who b=YK A who b:=by
 unfold YK;rw [h.dk,(h.each _).1]
theorem Lk.fit (h:Lk A B) (who:Int):∀ n,VE B who n=VE A who n
 | 0=>rfl
 | n+1=>by
  have e:Rj B who n=Rj A who n:=by unfold Rj;rw [h.may,h.want,h.used,h.rm]
  unfold VE;rw [Lk.fit h who n,e]
theorem Lk.most (h:Lk A B) (who:Int):∀ n,YN B who n=YN A who n
 | 0=>rfl
 | n+1=>by
  unfold YN;rw [Lk.most h who n,h.may,h.used,h.rm]
theorem Lk.crowd (h:Lk A B):Xk B=Xk A:=by
 have e:Ve B=Ve A:=by funext b;unfold Ve;rw [h.dk,h.used,h.rm]
 unfold Xk;rw [e,h.dk]
theorem Lk.best (h:Lk A B) (who:Int):XF B who=XF A who:=by
 funext a b
 unfold XF;rw [h.cost,(h.each _).1]
theorem Lk.chosen (h:Lk A B) (who:Int):Y1 B who=Y1 A who:=by
 have e:YT B who=YT A who:=by unfold YT;rw [h.dk,h.fit]
 unfold Y1 Xj;rw [h.crowd,e,h.best,h.cost,h.dk,h.most]
theorem Du {s:Z3} (h:ZR s=true):inB s.1 1 3=true:=by
 unfold ZR at h;simp only [Bool.or_eq_true,beq_iff_eq] at h
 rcases h with e | e<;>rw [e]<;>rfl
theorem EN {s t:Z3} (e:t.2=s.2) (ps:ZR s=true) (pt:ZR t=true) (h:YY s=true):YY t=true:=by
 unfold YY at h ⊢;rw [Du ps] at h;rw [e,Du pt];exact h
theorem Lk.here (h:Lk A B) {i:Nat} (hh:Yb A (Z8 A.sm i)=true):Yb B (Z8 B.sm i)=true:=by
 rcases h.same i with e | p
 ·rw [e]
  unfold Yb at hh ⊢;rw [h.gd,h.dk];exact hh
 ·rcases XP.1 hh with z | ⟨a,b,c⟩
  ·rw [z] at p;cases p
  ·refine XP.2 (.inr ⟨EN (h.each i).1 p (by rw [(h.each i).2];exact p) a,?_,?_⟩)
   ·rw [h.gd,(h.each i).1];exact b
   ·rw [h.dk,(h.each i).1];exact c
theorem Lk.loose (h:Lk A B) (hA:Loose A):Loose B:=by
 refine ⟨?_,fun j hj=> ?_,fun j hj=> ?_,fun i hi=>h.here (hA.here i (by rw [<-h.len];exact hi)),fun i hi=> ?_,?_⟩
 ·have:=hA.head
  unfold YG at this ⊢;rw [h.rm,h.gd,h.len,h.dk,h.pc,h.now];exact this
 ·rw [h.dk]
  exact hA.desk j (by rw [<-h.dk];exact hj)
 ·have:=hA.pace j (by rw [<-h.pc];exact hj)
  unfold Wm at this ⊢;rw [h.pc,h.rm];exact this
 ·have:=hA.seat i (by rw [<-h.len];exact hi)
  unfold XQ at this ⊢;rw [(h.each i).2,h.dk,(h.each i).1];exact this
 ·obtain ⟨j,hj,ho⟩:=hA.openD
  exact ⟨j,by rw [h.dk];exact hj,by rw [h.dk];exact ho⟩
theorem Lk.ne0 (h:Lk A B) {i:Nat} (hs:(Z8 B.sm i).1 ≠ 0):(Z8 A.sm i).1 ≠ 0:=by
 rcases h.same i with e | p
 ·rw [<-e];exact hs
 ·intro e
  unfold ZR at p;rw [e] at p;cases p
end
def Wc (m:Z6) (w:Nat):Z6:=if Y1 m (w:Int)= -1 then XU m w (Zn m.dk.length) else m
def Se (m:Z6) (w:Nat):Z6:=setS (Wc m w) w (putW (Wc m w) (Z8 (Wc m w).sm w) (Y1 (Wc m w) (w:Int)))
def Xb (m:Z6) (q:List Z4):Nat->Z6
 | 0=>m
 | k+1=>Se (Xb m q k) (Z7 q k).2.toNat
theorem Ar (s:Z3):U7 s s.2.2.2.1=s:=rfl
theorem AW {m:Z6} {k:Nat} (hk:k<m.sm.length):setS m k (Z8 m.sm k)=m:=by
 unfold setS
 have:m.sm.set k (Z8 m.sm k)=m.sm:=by
  refine RH (by simp) fun i hi=> ?_;rw [ZI hk];by_cases e:i=k
  ·rw [if_pos e,e]
  ·rw [if_neg e]
 rw [this]
theorem Shut.wide {m0 m:Z6} {b:Nat} {P:Nat->Prop} (h:Shut m0 b P m) (hb:b<m0.dk.length) {w:Nat} (hw:P w):Go.Proofs.YtamgfpdahadnfaaGreatDoor.closeX (ZC m0 b m0.dk.length) m w=Wc m w:=by
 obtain ⟨hwl,hp,hbe,hba⟩:=h.left w hw;obtain ⟨hpb,hg⟩:=h.pres hw;have hl:m.dk.length=m0.dk.length:=by rw [h.dk,XR]
 have hy:0<=(Z8 m.sm w).2.2.2.1:=by
  generalize Z8 m.sm w=s at *;obtain ⟨st,be,rk,my,gu,lo',hi',hd,ca,ut,wk⟩:=s;have:=(Zj hpb).2.2.2.1.1;show 0<=my;omega
 have hmay:∀ j,YK m (w:Int) j=true ↔ ((Z8 m.sm w).2.2.2.1.toNat.testBit j=true/\(Z8 m.dk j).1=true):=fun j=>by
  unfold YK;rw [Zy,LA hy,ZL];exact And.comm
 have hdo:∀ j,j<m0.dk.length->((ZC m0 b m0.dk.length).testBit j=true ↔ (Z8 m.dk j).1=true):=fun j hj=>by
  rw [VX,h.dk,TS hb];by_cases e:j=b
  ·rw [if_pos e];simp [e]
  ·rw [if_neg e];simp [hj,e]
 unfold Go.Proofs.YtamgfpdahadnfaaGreatDoor.closeX Wc TP;by_cases ha:(Z8 m.sm w).2.2.2.1.toNat &&& ZC m0 b m0.dk.length=0
 ·rw [if_pos ha]
  rcases VR m (w:Int) with ⟨e,_⟩ | ⟨j,hj,e,hm⟩
  ·rw [if_pos e]
  ·exfalso
   obtain ⟨h1,h2⟩:=(hmay j).1 hm
   have:((Z8 m.sm w).2.2.2.1.toNat &&& ZC m0 b m0.dk.length).testBit j=true:=by
    rw [Nat.testBit_and,h1,(hdo j (by omega)).2 h2];rfl
   rw [ha,Nat.zero_testBit] at this;cases this
 ·rw [if_neg ha]
  obtain ⟨j,hj⟩:=Rb ha;rw [Nat.testBit_and,ZL] at hj
  have hjl:j<m0.dk.length:=by
   have:=hj.2;rw [VX] at this;simp only [ZL,YZ] at this;exact this.1
  rcases VR m (w:Int) with ⟨e,hn⟩ | ⟨i,hi,e,hm⟩
  ·exfalso
   have:=hn j (by omega);rw [(hmay j).2 ⟨hj.1,(hdo j hjl).1 hj.2⟩] at this;cases this
  ·rw [if_neg (by omega)]
   unfold XU;rw [Ar,AW hwl]
theorem Lk.wide {A B:Z6} (h:Lk A B) {w:Nat} (hw:w<A.sm.length):Lk (Wc A w) (Wc B w):=by
 unfold Wc;rw [h.chosen,h.dk]
 split
 ·refine h.set hw ?_ ?_ ?_
  ·unfold U7;rw [(h.each w).1]
  ·have:=(h.each w).2
   unfold ZR U7 at *;exact this
  ·rcases h.same w with e | e
   ·exact .inl (by rw [e])
   ·exact .inr e
 ·exact h
theorem Lk.step {m0 A B:Z6} {b:Nat} {P:Nat->Prop} (h:Lk A B) (hs:Shut m0 b P A) (h0:Loose m0) (hb:b<m0.dk.length) {w:Nat} (hw:P w):Lk (Xv (ZC m0 b m0.dk.length) A w) (Se B w):=by
 obtain ⟨hwl,hp,hbe,hba⟩:=hs.left w hw;have hx:=hs.closeX h0 hw (ZC m0 b m0.dk.length);obtain ⟨_,hpx,_,_⟩:=hx.left w hw;unfold Xv OC Se;rw [hs.wide hb hw] at hpx ⊢;have hL:=h.wide hwl
 have hlw:w<(Wc A w).sm.length:=by
  have:=hx.left w hw;rw [hs.wide hb hw] at this;exact this.1
 rw [hL.chosen];refine hL.set hlw ?_ ?_ (.inr ?_)
 ·unfold putW putS QE Yn YJ
  rw [hL.dk,(hL.each w).1]
 ·show true=ZR (Z8 (Wc A w).sm w)
  exact hpx.symm
 ·exact hpx
theorem Am {m0:Z6} (h0:Loose m0) {b:Nat} (hb:b<m0.dk.length) (hop:ZC m0 b m0.dk.length ≠ 0):∀ k,k<=(atV m0.sm b m0.sm.length).length->
  Lk (YS (ZC m0 b m0.dk.length) (Zk m0 b false) (atV m0.sm b m0.sm.length) k) (Xb (Zk m0 b false) (atV m0.sm b m0.sm.length) k)
 | 0,_=>Lk.refl _
 | k+1,hk=>by
  have ih:=Am h0 hb hop k (by omega);have hsh:=SK h0 hb hop k (by omega);obtain ⟨i',hi',h1,h2,e2⟩:=(Yi m0.sm b _ m0.sm.length).1 (XV (show k<(atV m0.sm b m0.sm.length).length by omega));have hw:PZ (atV m0.sm b m0.sm.length) k i':=⟨k,Z2 _,by omega,by rw [e2]⟩
  unfold YS Xb;rw [e2];show Lk (Xv _ _ ((i':Int)).toNat) (Se _ ((i':Int)).toNat);rw [Zy];exact ih.step hsh h0 hb hw
def Xw (m:Z6) (b:Int):Int:=if YP m b then (if (Z8 m.dk b.toNat).1 then (if ZC m b.toNat m.dk.length=0 then 5 else 0) else 2) else 1
def Wf (m:Z6) (b:Int):Z6:=Xb (Zk m b.toNat false) (atV m.sm b m.sm.length) (atV m.sm b m.sm.length).length
theorem BF (m:Z6) (b:Int):Yr m b=S0 m (Wf m b) (Xw m b):=by
 cases h:ZF m
 ·rw [LQ h];unfold Yr;rw [h];rfl
 have hlo:=ZM h;unfold Yr Xw;rw [h];simp only [if_true];by_cases hw:YP m b=true;rotate_left
 ·rw [if_neg hw,if_neg hw,QS h _ (by omega)]
 rw [if_pos hw,if_pos hw];obtain ⟨k,rfl,hk⟩:=SX hw;rw [Zy];by_cases ho:(Z8 m.dk k).1=true;rotate_left
 ·rw [if_neg ho,if_neg ho,QS h _ (by omega)]
 rw [if_pos ho,if_pos ho];by_cases hop:ZC m k m.dk.length=0
 ·rw [if_pos hop,if_pos hop,QS h _ (by omega)]
 rw [if_neg hop,if_neg hop,LR h];have hlk:=Am hlo hk hop _ (Z2 _);have hL:=Qi hlo hk hop;unfold Wf;rw [Zy];generalize YS (ZC m k m.dk.length) (Zk m k false) (atV m.sm (k:Int) m.sm.length) (atV m.sm (k:Int) m.sm.length).length=A at *;generalize Xb (Zk m k false) (atV m.sm (k:Int) m.sm.length) (atV m.sm (k:Int) m.sm.length).length=B at *
 have ht:ZP B=ZP A:=CO hlk.rm hlk.gd hlk.dk hlk.pc hlk.now hlk.len (fun i hi=>by
  rcases hlk.same i with e | e
  ·exact .inl e
  ·right
   obtain ⟨a0,a1,_,_,_⟩:=hL.at hi e
   exact ⟨(hlk.each i).1,by rw [(hlk.each i).2,e],e,a0,a1⟩)
 rw [KC (hlk.loose hL),ht]
end Go.Proofs.YtamgfpdahadnfaaGreatDoor
namespace Go.Proofs.YtamgfpdahadnfaaGreatDoor
open Go.ChangeShapes Go.WideShapes Go.ChangeAt Go.RowKit Go.Sort
set_option linter.unusedVariables false
theorem zj {m:Z6} {k:Nat} (hk:k<m.sm.length) (x:Z3):Z8 (setS m k x).sm k=x:=by unfold setS;rw [ZI hk,if_pos rfl]
theorem AV (m:Z6) (k:Nat) (x:Z3):(setS m k x).sm.length=m.sm.length:=by unfold setS;simp
theorem CN (m:Z6):(ZP m).sm.length=m.sm.length:=(ZG m m.dk.length).2.2.2.2.1
theorem Nf (m:Z6):(ZP m).dk.length=m.dk.length:=(ZG m m.dk.length).2.2.2.2.2
theorem IX {m:Z6} (h:Loose m) {b:Nat} (hc:(Z8 m.dk b).1=false):atV m.sm (b:Int) m.sm.length=[]:=by
 apply List.eq_nil_iff_forall_not_mem.2;intro e he;obtain ⟨i,hi,hb,hp,_⟩:=(Yi m.sm (b:Int) e m.sm.length).1 he;have hs:=h.seat i hi;unfold XQ at hs;rw [hp,hb,Zy,hc] at hs;simp at hs
theorem EJ (m:Z6) (b:Int):(ZF m=false/\Wd m b=(Yc,3))\/(ZF m=true/\ ∃ c:Int,c ≠ 0/\Wd m b=(m,c))\/
  (ZF m=true/\ ∃ X,Wd m b=(X,0)/\ZF X=true/\Sp X b=true):=by
 cases h:ZF m
 ·left;unfold Wd;rw [h];exact ⟨rfl,rfl⟩
 right;have hr:=MA h b;unfold Wd at hr ⊢;rw [h] at hr ⊢;simp only [if_true] at hr ⊢;cases hw:YP m b
 ·rw [if_neg (by simp)];exact .inl ⟨by trivial,1,by omega,rfl⟩
 rw [hw] at hr;simp only [if_true] at hr ⊢;obtain ⟨k,rfl,hk⟩:=Pm hw;rw [Zy] at hr ⊢;cases hq:(Z8 m.dk k).1
 ·rw [hq] at hr
  simp only [Bool.false_eq_true,if_false] at hr ⊢;refine .inr ⟨by trivial,_,rfl,hr,?_⟩
  have hid:WH (ZP (Zk m k true)) k=true:=by
   rw [Pb (Zk m k true) (by rw [XR];exact hk)];unfold WH;rw [TS hk,if_pos rfl];show (true && decide ((atV m.sm (k:Int) m.sm.length).length=0))=true;rw [IX (ZM h) hq];rfl
  unfold Sp;rw [hr,show YP (ZP (Zk m k true)) (k:Int)=true from Zp (by omega) (by rw [Nf,XR];omega),Zy];unfold WH at hid;rw [hid];rfl
 ·exact .inl ⟨by trivial,2,by omega,rfl⟩
def MvR (m0:Z6) (b:Nat) (s t:Z3):Prop:=t=s\/(s.2.1=(b:Int)/\ZR s=true/\ZR t=true/\t.2.2.2.2.2.2.2.2.2.2=s.2.2.2.2.2.2.2.2.2.2/\ ∃ j:Nat,t.2.1=(j:Int)/\j<m0.dk.length/\Yn t-YJ m0 (j:Int)=Yn s-YJ m0 (b:Int))
theorem Cg {h f t:Int} (h0 : -1000000000000<=h/\h<=1000000000000) (f0 : -900000000000<=f/\f<=900000000000) (t0 : -900000000000<=t/\t<=900000000000):Zr h f t=h-f+t:=by
 unfold Zr Wi;rw [Zp (by omega) (by omega),Zp (by omega) (by omega),Zp (by omega) (by omega)];rfl
theorem Ns {m:Z6} (h:Loose m) {b:Nat} (hb:b<m.dk.length) : -900000000000<=YJ m (b:Int)/\YJ m (b:Int)<=900000000000:=by
 have:=h.desk b hb;unfold VB at this;have:=ZJ this;unfold YJ;rw [Zy];exact this
theorem JN {m0:Z6} (h0:Loose m0) {b:Nat} (hb:b<m0.dk.length) (hop:ZC m0 b m0.dk.length ≠ 0):∀ k,k<=(atV m0.sm b m0.sm.length).length-> ∀ i,i<m0.sm.length->
  MvR m0 b (Z8 m0.sm i) (Z8 (YS (ZC m0 b m0.dk.length) (Zk m0 b false) (atV m0.sm b m0.sm.length) k).sm i)
 | 0,_,i,hi=> .inl rfl
 | k+1,hk,i,hi=>by
  have ih:=JN h0 hb hop k (by omega) i hi;have hsh:=SK h0 hb hop k (by omega);obtain ⟨i',hi',h1,h2,e2⟩:=(Yi m0.sm b _ m0.sm.length).1 (XV (show k<(atV m0.sm b m0.sm.length).length by omega));have hw:PZ (atV m0.sm b m0.sm.length) k i':=⟨k,Z2 _,by omega,by rw [e2]⟩
  obtain ⟨j,hj,ej,_⟩:=hsh.chosen h0 hb hop hw;obtain ⟨hwl,hp,hbe,_⟩:=hsh.left i' hw;obtain ⟨hpb,_⟩:=hsh.pres hw;have hdk:=hsh.dk;unfold YS;rw [e2];show MvR m0 b _ (Z8 (Xv _ _ ((i':Int)).toNat).sm i);rw [Zy];generalize YS (ZC m0 b m0.dk.length) (Zk m0 b false) (atV m0.sm b m0.sm.length) k=x at *;unfold Xv;rw [ej];have hxl:i'<(closeX (ZC m0 b m0.dk.length) x i').sm.length:=by unfold closeX XU;rw [AV];exact hwl
  have hat:Z8 (closeX (ZC m0 b m0.dk.length) x i').sm i'=U7 (Z8 x.sm i') (TP (ZC m0 b m0.dk.length) x.dk.length (Z8 x.sm i').2.2.2.1):=by unfold closeX;rw [Sx hwl,if_pos rfl]
  have hmk:∀ c:Nat,YJ (closeX (ZC m0 b m0.dk.length) x i') (c:Int)=YJ m0 (c:Int):=fun c=>by
   unfold YJ;show (Z8 x.dk _).2.2=_;rw [hdk,Zy,Q4 hb]
  have hjm:j<m0.dk.length:=by rw [hdk,XR] at hj;exact hj
  by_cases e:i=i'
  ·subst e
   rw [zj hxl]
   have hkeep:(Z8 m0.sm i).2.1=(b:Int)/\ZR (Z8 m0.sm i)=true/\(Z8 x.sm i).2.2.2.2.2.2.2.2.2.2=(Z8 m0.sm i).2.2.2.2.2.2.2.2.2.2/\Yn (Z8 x.sm i)-YJ m0 (b:Int)=Yn (Z8 m0.sm i)-YJ m0 (b:Int):=by
    rcases ih with e9 | ⟨a1,a2,a3,a4,j9,a5,a6,a7⟩
    ·rw [e9];exact ⟨h1,h2,rfl,rfl⟩
    ·have:(j9:Int)=(b:Int):=by rw [<-a5,hbe]
     rw [this] at a7;exact ⟨a1,a2,a4,a7⟩
   obtain ⟨k1,k2,k3,k4⟩:=hkeep
   have hhd : -1000000000000<=Yn (Z8 x.sm i)/\Yn (Z8 x.sm i)<=1000000000000:=by
    generalize Z8 x.sm i=s at hpb;obtain ⟨st,be,rk,my,gu,lo',hi',hd,ca,ut,wk⟩:=s;exact (Zj hpb).2.2.2.2.2.2.1
   refine .inr ⟨k1,k2,?_,?_,j,rfl,hjm,?_⟩
   ·rw [hat];exact hp
   ·rw [hat];exact k3
   ·have hb1:=Ns h0 hb
    have hb2:=Ns h0 hjm
    have hm1:YJ (closeX (ZC m0 b m0.dk.length) x i) (Z8 (closeX (ZC m0 b m0.dk.length) x i).sm i).2.1=YJ m0 (b:Int):=by
     rw [hat,show (U7 (Z8 x.sm i) (TP (ZC m0 b m0.dk.length) x.dk.length (Z8 x.sm i).2.2.2.1)).2.1=(b:Int) from hbe,hmk]
    have hh:Yn (Z8 (closeX (ZC m0 b m0.dk.length) x i).sm i)=Yn (Z8 x.sm i):=by rw [hat];rfl
    show Zr (Yn (Z8 (closeX (ZC m0 b m0.dk.length) x i).sm i)) (YJ (closeX (ZC m0 b m0.dk.length) x i) (Z8 (closeX (ZC m0 b m0.dk.length) x i).sm i).2.1) (YJ (closeX (ZC m0 b m0.dk.length) x i) (j:Int))-_=_;rw [hm1,hmk,hh,Cg hhd hb1 hb2];omega
  ·have:Z8 (setS (closeX (ZC m0 b m0.dk.length) x i') i' (putS (closeX (ZC m0 b m0.dk.length) x i') (Z8 (closeX (ZC m0 b m0.dk.length) x i').sm i') (j:Int))).sm i=Z8 x.sm i:=by
    unfold setS;rw [ZI hxl,if_neg e];unfold closeX;rw [Sx hwl,if_neg e]
   rw [this];exact ih
theorem I4 (m:Z6) (b:Int):(ZF m=false/\Yr m b=(Yc,3))\/(ZF m=true/\ ∃ c:Int,c ≠ 0/\Yr m b=(m,c))\/
  (ZF m=true/\ ∃ (X:Z6) (bn:Nat),b=(bn:Int)/\bn<m.dk.length/\Yr m b=(X,0)/\ZF X=true/\X.sm.length=m.sm.length/\X.dk.length=m.dk.length/\(Z8 X.dk bn).1=false/\atV X.sm b X.sm.length=[]/\
   ∀ i,i<m.sm.length->ZR (Z8 X.sm i)=ZR (Z8 m.sm i)/\((Z8 m.sm i).2.1 ≠ b->(Z8 X.sm i).2.1=(Z8 m.sm i).2.1/\(Z8 X.sm i).2.2.2.1=(Z8 m.sm i).2.2.2.1)/\(Z8 X.sm i).2.2.2.2.2.2.2.2.2.2=(Z8 m.sm i).2.2.2.2.2.2.2.2.2.2/\
    (ZR (Z8 m.sm i)=true->(Z8 m.sm i).2.1=b-> ∃ j:Nat,(Z8 X.sm i).2.1=(j:Int)/\j<m.dk.length/\Yn (Z8 X.sm i)-YJ m (j:Int)=Yn (Z8 m.sm i)-YJ m b)):=by
 cases h:ZF m
 ·left;unfold Yr;rw [h];exact ⟨rfl,rfl⟩
 right;have hr:=Pp h b;have hlo:=ZM h;unfold Yr at hr ⊢;rw [h] at hr ⊢;simp only [if_true] at hr ⊢;cases hw:YP m b
 ·rw [if_neg (by simp)];exact .inl ⟨by trivial,1,by omega,rfl⟩
 rw [hw] at hr;simp only [if_true] at hr ⊢;obtain ⟨k,rfl,hk⟩:=Pm hw;rw [Zy] at hr ⊢;cases hq:(Z8 m.dk k).1
 ·simp only [Bool.false_eq_true,if_false];exact .inl ⟨by trivial,2,by omega,rfl⟩
 rw [hq] at hr;simp only [if_true] at hr ⊢;by_cases hop:ZC m k m.dk.length=0
 ·rw [if_pos hop];exact .inl ⟨by trivial,5,by omega,rfl⟩
 rw [if_neg hop] at hr ⊢;have hsl:=Qi hlo hk hop;have hst:=SK hlo hk hop _ (Z2 _);have hrel:=JN hlo hk hop _ (Z2 _);generalize YS (ZC m k m.dk.length) (Zk m k false) (atV m.sm k m.sm.length) (atV m.sm k m.sm.length).length=x at *;have hxd:x.dk.length=m.dk.length:=by rw [hst.dk,XR]
 have hcl:(Z8 (ZP x).dk k).1=false:=by
  have h1:=(Pb x (b:=k) (by omega))
  have h2:(Z8 x.dk k).1=false:=by rw [hst.dk,TS hk,if_pos rfl]
  cases hc:(Z8 (ZP x).dk k).1
  ·rfl
  ·exfalso
   have ha:atV x.sm (k:Int) x.sm.length=[]:=IX hsl h2;have hb:atV (ZP x).sm (k:Int) (ZP x).sm.length=atV x.sm (k:Int) x.sm.length:=Q6 x x.dk.length (k:Int);unfold WH at h1;rw [hc,h2,hb,ha] at h1;simp at h1
 refine .inr ⟨by trivial,_,k,rfl,hk,rfl,hr,by rw [CN,hst.len],by rw [Nf];exact hxd,hcl,IX (ZM hr) hcl,fun i hi=> ?_⟩;have hix:i<x.sm.length:=by rw [hst.len];exact hi
 have ht:=Pc (m:=x) hix;have hp:=Kz (m:=x) hix;have f1:(Z8 (ZP x).sm i).2.1=(Z8 x.sm i).2.1:=congrArg (·.1) ht;have f2:(Z8 (ZP x).sm i).2.2.2.1=(Z8 x.sm i).2.2.2.1:=congrArg (·.2.2.1) ht;have f3:(Z8 (ZP x).sm i).2.2.2.2.2.2.2.2.2.2=(Z8 x.sm i).2.2.2.2.2.2.2.2.2.2:=congrArg (·.2.2.2.2.2.2.2.2.2) ht;have f4:Yn (Z8 (ZP x).sm i)=Yn (Z8 x.sm i):=congrArg (·.2.2.2.2.2.2.1) ht;rw [hp,f1,f2,f3,f4]
 rcases hrel i hi with e | ⟨a1,a2,a3,a4,j,a5,a6,a7⟩
 ·rw [e]
  refine ⟨rfl,fun _=>⟨rfl,rfl⟩,rfl,fun h1 h2=> ?_⟩;exact ⟨k,h2,hk,rfl⟩
 ·exact ⟨by rw [a2,a3],fun hn=>absurd a1 hn,a4,fun _ _=>⟨j,a5,a6,a7⟩⟩
end Go.Proofs.YtamgfpdahadnfaaGreatDoor
