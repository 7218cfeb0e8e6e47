/- Part 16 of what the proof rests on. No condition but those that a theorem names. -/
import Derived.Test.YtamgfpdahadnfaaGreatDoorXc12
import Derived.Test.YtamgfpdahadnfaaGreatDoorXc15
set_option maxHeartbeats 8000000
set_option maxRecDepth 100000
namespace Go.Proofs.YtamgfpdahadnfaaGreatDoor
open Go.ChangeShapes Go.WideShapes Go.ChangeAt Go.RowKit Go.Sort
set_option linter.unusedVariables false
set_option linter.unusedSimpArgs false
variable {w w' w0 w1 w2 w3 w₀ wr W W' X A B C : World} {v v0 v1 v2 v3 v4 u u0 u1 u2 u3 u4 : Value} {m : Z6}
theorem JQ  (who:Int) (h:Smy w v0 v1 v2 v3 v4 m) :
  Calls Tryz.prog 252 #[.agg #[v0,v1,v2,v3,v4,.int .i64 m.now],.int .i64 who] w fun e w'=>S5 w.heap.size (RR m who).1 (RR m who).2 e w'/\Below w.heap.size w w':=by
 obtain ⟨X,hX⟩:∃ x,RR m who=x:=⟨_,rfl⟩
 rw [hX];have HX:=Z9 hX;clear hX;have Hv0:=Z9 h;obtain ⟨a0,p0,a1,p1,a2,p2,a3,p3,a4,p4,rfl,rfl,rfl,rfl,rfl,_,_,_,_,_,_,_,_,_,_⟩:=h.five;clear h;obtain ⟨ok,hok⟩:∃ q,ZJ m=q:=⟨_,rfl⟩
 have Hok:=Z9 hok;clear hok;go_enter Tryz.func252,Tryz.ntmps252;go_wp2_with fail;obtain ⟨W,hW,kb,kr,BB⟩:=YD w 32 (S6 a0 p0 a1 p1 a2 p2 a3 p3 a4 p4 m) 32 E6;have Hv:=Z9 ((uh Hv0).below (uh BB));clear Hv0;rw [hW];clear hW;refine ck (Xt (uh Hok) (uh Hv)) fun w1 hb=> ?_;replace kb:=bl kb hb;replace kr:=bl kr hb;replace Hv:=Z9 ((uh Hv).below hb);replace BB:=bt BB hb;clear hb;cases ok
 ·
  obtain ⟨c0,c1,c2,c3,c4,c5⟩:=(uh kb).c6;go_wp2_with fail;clear c0 c1 c2 c3 c4 c5;refine ck (XV (uh Hv)) fun w2 hb=> ?_;replace kb:=bl kb hb;replace kr:=bl kr hb;replace Hv:=Z9 ((uh Hv).below hb);replace BB:=bt BB hb;clear hb;obtain ⟨o0,o1,o2,o3,o4,o5⟩:=(uh kr).c6;obtain ⟨f0,f1,f2,f3,f4,f5⟩:=(uh kr).f6;go_wp2_with fail;have hX0:X=(Ye,3):=by rw [<-uh HX];unfold RR;rw [uh Hok];rfl
  exact ZS (v:= .tuple #[.agg E6,.int .i64 3]) (by simp [results,Tryz.results252,go_sem, *]) rfl (Zb hX0 rfl (YM _ _) (uh BB))
 have hlo:=ZR (uh Hok);have HLo:=Z9 hlo;have HFew:=Z9 (Xn hlo);clear hlo;obtain ⟨c0,c1,c2,c3,c4,c5⟩:=(uh kb).c6;go_wp2_with fail;clear c0 c1 c2 c3 c4 c5;refine (T6 (uh Hv) (uh HFew) (uh kb) (uh kr) (uh BB)).mono ?_;clear kb kr Hv BB;rintro e w2 ⟨b0,q0,b1,q1,b2,q2,b3,q3,b4,q4,oq,rfl,W2,ob,hW2,hob2,kb,kr,Hv,HO,ko,LO,hob,BB⟩;go_upto_region 4 with fail
 (try rw [hW2])
 (try rw [hob2])
 clear hW2 hob2;obtain ⟨qw,hqw⟩:∃ q,WL m who=q:=⟨_,rfl⟩
 have Hqw:=Z9 hqw;clear hqw;obtain ⟨c0,c1,c2,c3,c4,c5⟩:=(uh kb).c6;go_wp2_with fail;clear c0 c1 c2 c3 c4 c5;refine ck (U8 (uh Hqw) (uh Hv)) fun w3 hb=> ?_;replace kb:=bl kb hb;replace kr:=bl kr hb;replace Hv:=Z9 ((uh Hv).below hb);replace HO:=Z9 ((uh HO).below hb);replace ko:=bl ko hb;replace BB:=bt BB hb;clear hb;cases qw
 ·
  obtain ⟨x0,x1,x2,x3,x4,x5⟩:=(uh ko).c6;obtain ⟨o0,o1,o2,o3,o4,o5⟩:=(uh kr).c6;obtain ⟨f0,f1,f2,f3,f4,f5⟩:=(uh kr).f6;go_wp2_with fail;have hX0:X=(m,1):=by rw [<-uh HX];unfold RR;rw [uh Hok,uh Hqw];rfl
  exact ZS (v:= .tuple #[.agg (S6 b0 q0 b1 q1 b2 q2 b3 q3 b4 q4 m),.int .i64 1]) (by simp [results,Tryz.results252,go_sem, *]) rfl (Zb hX0 rfl (uh HO) (uh BB))
 obtain ⟨k,rfl,hk,hs0⟩:=XS (uh Hqw);have hk1:(k:Int)<(m.sm.length:Int):=by omega
 obtain ⟨_,_,hse,_,_,r2⟩:=(uh Hv).sm;cases hse
 rcases r2 with e0 | ⟨sb,off,rfl,hbw,hcl⟩
 ·rw [e0] at hk;simp at hk
 obtain ⟨d0,d1,d2,d3,d4,d5,d6,d7,d8,d9,d10⟩:=ZA hcl hk;clear hcl;obtain ⟨ps,hps⟩:∃ q,ZK (Z8 m.sm k)=q:=⟨_,rfl⟩
 have Hps:=Z9 hps;obtain ⟨⟨st,be,rk,my,gu,lo,hi,hd,ca,ut,wk⟩,hrk⟩:∃ d,Z8 m.sm k=d:=⟨_,rfl⟩
 rw [hrk] at d0 d1 d2 d3 d4 d5 d6 d7 d8 d9 d10 hps;simp only at d0 d1 d2 d3 d4 d5 d6 d7 d8 d9 d10;have c2:=(uh kb).cell (i:=2) (v:= .slice (some ⟨sb,off,none⟩) m.sm.length p2) rfl;have Hpt:=Z9 hps;clear hps;go_wp2_with fail;refine ck (Yv (uh Hpt) _) fun w4 hb=> ?_;replace kb:=bl kb hb;replace kr:=bl kr hb;replace Hv:=Z9 ((uh Hv).below hb);replace HO:=Z9 ((uh HO).below hb);replace ko:=bl ko hb;replace BB:=bt BB hb;clear hb d0 d1 d2 d3 d4 d5 d6 d7 d8 d9 d10 c2;cases ps
 ·
  obtain ⟨x0,x1,x2,x3,x4,x5⟩:=(uh ko).c6;obtain ⟨o0,o1,o2,o3,o4,o5⟩:=(uh kr).c6;obtain ⟨f0,f1,f2,f3,f4,f5⟩:=(uh kr).f6;go_wp2_with fail;have hX0:X=(m,2):=by rw [<-uh HX];unfold RR;rw [uh Hok,uh Hqw];simp only [if_true,Zy];rw [uh Hps];rfl
  exact ZS (v:= .tuple #[.agg (S6 b0 q0 b1 q1 b2 q2 b3 q3 b4 q4 m),.int .i64 2]) (by simp [results,Tryz.results252,go_sem, *]) rfl (Zb hX0 rfl (uh HO) (uh BB))
 obtain ⟨g2,hga,_,_,hc2,hz2⟩:=RecAt.view ZT (by omega) (uh HO).sm rfl (by omega);cases hga;have s0:=hc2 k hk 0 _ rfl;have f0:=hz2 (k*11);have x2:=(uh ko).cell (i:=2) (v:= .slice (some ⟨g2,0,none⟩) m.sm.length q2) rfl;have hput:=(uh HO).putS rfl (j:=k) (i:=0) hk (by omega) (.int .i64 1) (stS (Z8 m.sm k) 1) rfl;simp only [Nat.add_zero] at s0 hput;have hg2o:=(uh LO g2 (.inr (.inr (.inr (.inl rfl)))))
 clear hc2 hz2;go_upto_region 9 with fail;clear s0 f0 x2;have HP:=Z9 hput;clear hput HO;replace ko:Hid (Blk (w4.setCell ⟨g2,k*11,none⟩ (.int .i64 1)) ob 32 (S6 b0 q0 b1 q1 (some ⟨g2,0,none⟩) q2 b3 q3 b4 q4 m)):=Z9 ((uh ko).other (a:=⟨g2,k*11,none⟩) (by show ob ≠ g2;omega) _);replace kr:Hid (Blk (w4.setCell ⟨g2,k*11,none⟩ (.int .i64 1)) (w.heap.size+1) 32 E6):=Z9 ((uh kr).other (a:=⟨g2,k*11,none⟩) (by show w.heap.size+1 ≠ g2;omega) _);replace BB:Hid (Below w.heap.size w (w4.setCell ⟨g2,k*11,none⟩ (.int .i64 1))):=Z9 ((uh BB).setCell (p:=⟨g2,k*11,none⟩) (by show w.heap.size<=g2;omega) _);clear kb Hv;generalize w4.setCell ⟨g2,k*11,none⟩ (.int .i64 1)=W3 at *;have hfw:=uh HFew;go_wp2_with fail;refine (UX (m:=setS m k (stS (Z8 m.sm k) 1)) (uh ko) (uh HP) (fun k e=>by have:=(uh LO k e).2;omega) (uh kr) (uh BB) (by show (m.sm.set k _).length<=800;have:=hfw.sm;simp;omega) hfw.dk).mono ?_;clear kr BB;rintro e w5 ⟨rfl,HF9,kr,BB⟩;obtain ⟨o0,o1,o2,o3,o4,o5⟩:=(uh kr).c6;obtain ⟨f0,f1,f2,f3,f4,f5⟩:=(uh kr).f6;go_wp2_with fail;have hX0:X=(ZM (setS m k (stS (Z8 m.sm k) 1)),0):=by rw [<-uh HX];unfold RR;rw [uh Hok,uh Hqw];simp only [if_true,Zy];rw [uh Hps];rfl
 have hnow:(ZM (setS m k (stS (Z8 m.sm k) 1))).now=m.now:=(ZH _ _).2.2.2.1;exact ZS (v:= .tuple #[.agg (S6 b0 q0 b1 q1 (some ⟨g2,0,none⟩) q2 b3 q3 b4 q4 m),.int .i64 0]) (by simp [results,Tryz.results252,go_sem,setS,TK,Yb,pushS, *]) rfl (Zb hX0 hnow (uh HF9) (uh BB))
theorem Lx  (who:Int) (h:Smy w v0 v1 v2 v3 v4 m) :
  Calls Tryz.prog 253 #[.agg #[v0,v1,v2,v3,v4,.int .i64 m.now],.int .i64 who] w fun e w'=>S5 w.heap.size (TG m who).1 (TG m who).2 e w'/\Below w.heap.size w w':=by
 obtain ⟨X,hX⟩:∃ x,TG m who=x:=⟨_,rfl⟩
 rw [hX];have HX:=Z9 hX;clear hX;have Hv0:=Z9 h;obtain ⟨a0,p0,a1,p1,a2,p2,a3,p3,a4,p4,rfl,rfl,rfl,rfl,rfl,_,_,_,_,_,_,_,_,_,_⟩:=h.five;clear h;obtain ⟨ok,hok⟩:∃ q,ZJ m=q:=⟨_,rfl⟩
 have Hok:=Z9 hok;clear hok;go_enter Tryz.func253,Tryz.ntmps253;go_wp2_with fail;obtain ⟨W,hW,kb,kr,BB⟩:=YD w 32 (S6 a0 p0 a1 p1 a2 p2 a3 p3 a4 p4 m) 32 E6;have Hv:=Z9 ((uh Hv0).below (uh BB));clear Hv0;rw [hW];clear hW;refine ck (Xt (uh Hok) (uh Hv)) fun w1 hb=> ?_;replace kb:=bl kb hb;replace kr:=bl kr hb;replace Hv:=Z9 ((uh Hv).below hb);replace BB:=bt BB hb;clear hb;cases ok
 ·
  obtain ⟨c0,c1,c2,c3,c4,c5⟩:=(uh kb).c6;go_wp2_with fail;clear c0 c1 c2 c3 c4 c5;refine ck (XV (uh Hv)) fun w2 hb=> ?_;replace kb:=bl kb hb;replace kr:=bl kr hb;replace Hv:=Z9 ((uh Hv).below hb);replace BB:=bt BB hb;clear hb;obtain ⟨o0,o1,o2,o3,o4,o5⟩:=(uh kr).c6;obtain ⟨f0,f1,f2,f3,f4,f5⟩:=(uh kr).f6;go_wp2_with fail;have hX0:X=(Ye,3):=by rw [<-uh HX];unfold TG;rw [uh Hok];rfl
  exact ZS (v:= .tuple #[.agg E6,.int .i64 3]) (by simp [results,Tryz.results253,go_sem, *]) rfl (Zb hX0 rfl (YM _ _) (uh BB))
 have hlo:=ZR (uh Hok);have HLo:=Z9 hlo;have HFew:=Z9 (Xn hlo);clear hlo;obtain ⟨c0,c1,c2,c3,c4,c5⟩:=(uh kb).c6;go_wp2_with fail;clear c0 c1 c2 c3 c4 c5;refine (T6 (uh Hv) (uh HFew) (uh kb) (uh kr) (uh BB)).mono ?_;clear kb kr Hv BB;rintro e w2 ⟨b0,q0,b1,q1,b2,q2,b3,q3,b4,q4,oq,rfl,W2,ob,hW2,hob2,kb,kr,Hv,HO,ko,LO,hob,BB⟩;go_upto_region 4 with fail
 (try rw [hW2])
 (try rw [hob2])
 clear hW2 hob2;obtain ⟨qw,hqw⟩:∃ q,WL m who=q:=⟨_,rfl⟩
 have Hqw:=Z9 hqw;clear hqw;obtain ⟨c0,c1,c2,c3,c4,c5⟩:=(uh kb).c6;go_wp2_with fail;clear c0 c1 c2 c3 c4 c5;refine ck (U8 (uh Hqw) (uh Hv)) fun w3 hb=> ?_;replace kb:=bl kb hb;replace kr:=bl kr hb;replace Hv:=Z9 ((uh Hv).below hb);replace HO:=Z9 ((uh HO).below hb);replace ko:=bl ko hb;replace BB:=bt BB hb;clear hb;cases qw
 ·
  obtain ⟨x0,x1,x2,x3,x4,x5⟩:=(uh ko).c6;obtain ⟨o0,o1,o2,o3,o4,o5⟩:=(uh kr).c6;obtain ⟨f0,f1,f2,f3,f4,f5⟩:=(uh kr).f6;go_wp2_with fail;have hX0:X=(m,1):=by rw [<-uh HX];unfold TG;rw [uh Hok,uh Hqw];rfl
  exact ZS (v:= .tuple #[.agg (S6 b0 q0 b1 q1 b2 q2 b3 q3 b4 q4 m),.int .i64 1]) (by simp [results,Tryz.results253,go_sem, *]) rfl (Zb hX0 rfl (uh HO) (uh BB))
 obtain ⟨k,rfl,hk,hs0⟩:=XS (uh Hqw);have hk1:(k:Int)<(m.sm.length:Int):=by omega
 obtain ⟨g2,hga,_,_,hc2,hz2⟩:=RecAt.view ZT (by omega) (uh HO).sm rfl (by omega);cases hga;have hg2o:=(uh LO g2 (.inr (.inr (.inr (.inl rfl)))))
 have x2:=(uh ko).cell (i:=2) (v:= .slice (some ⟨g2,0,none⟩) m.sm.length q2) rfl;obtain ⟨s0,s1,s2,s3,s4,s5,s6,s7,s8,s9,s10⟩:=CL (hc2 k hk);obtain ⟨g0,g1,g2,g3,g4,g5,g6,g7,g8,g9,g10⟩:=As hz2 (k*11);simp only [Nat.add_zero] at s0 g0;have HP:=Z9 ((uh HO).putW rfl hk (0,0,0,0,0,0,0,0,0,0,0));clear hc2 hz2 HO;go_upto_region 7 with fail;clear x2 s0 g0 s1 g1 s2 g2 s3 g3 s4 g4 s5 g5 s6 g6 s7 g7 s8 g8 s9 g9 s10 g10;rw [Bf];replace ko:=MY (g:=g2) (by omega) (ZU (0,0,0,0,0,0,0,0,0,0,0)) (o:=k*11) ko;replace kr:=MY (g:=g2) (by omega) (ZU (0,0,0,0,0,0,0,0,0,0,0)) (o:=k*11) kr;replace BB:=Fd (g:=g2) (by omega) (ZU (0,0,0,0,0,0,0,0,0,0,0)) (o:=k*11) BB;clear kb Hv;generalize PY w3 g2 (k*11) (ZU (0,0,0,0,0,0,0,0,0,0,0))=W3 at *;have hfw:=uh HFew;go_wp2_with fail;refine (UX (m:=setS m k Uy) (uh ko) (uh HP) (fun k e=>by have:=(uh LO k e).2;omega) (uh kr) (uh BB) (by show (m.sm.set k _).length<=800;have:=hfw.sm;simp;omega) hfw.dk).mono ?_;clear kr BB;rintro e w4 ⟨rfl,HF9,kr,BB⟩;obtain ⟨o0,o1,o2,o3,o4,o5⟩:=(uh kr).c6;obtain ⟨f0,f1,f2,f3,f4,f5⟩:=(uh kr).f6;go_wp2_with fail;have hX0:X=(ZM (setS m k Uy),0):=by rw [<-uh HX];unfold TG;rw [uh Hok,uh Hqw];simp only [if_true,Zy]
 have hnow:(ZM (setS m k Uy)).now=m.now:=(ZH _ _).2.2.2.1;exact ZS (v:= .tuple #[.agg (S6 b0 q0 b1 q1 (some ⟨g2,0,none⟩) q2 b3 q3 b4 q4 m),.int .i64 0]) (by simp [results,Tryz.results253,go_sem,setS,TK,Yb,pushS, *]) rfl (Zb hX0 hnow (uh HF9) (uh BB))
open Go.ChangeShapes Go.WideShapes Go.ChangeAt Go.RowKit Go.Sort Go.Deep
theorem Fm (rank:Int) (w:World):Calls Tryz.prog 76 #[.agg E11,.int .i64 rank] w fun e w'=>e= .returned (.tuple #[.agg E11,.bool false])/\Below w.heap.size w w':=by
 have Hs:Hid (Zw (0,0,0,0,0,0,0,0,0,0,0)=true):=Z9 rfl;go_enter Tryz.func76,Tryz.ntmps76;go_wp2_with fail;refine (Zk 0 0 0 0 0 0 0 0 0 0 0 _).mono ?_;rw [uh Hs];rintro e w1 ⟨rfl,hb⟩;have kb:Blk w1 w.heap.size 40 E11:=((Blk.new w 40 E11).alloc _).below hb (by simp;omega)
 have ko:Blk w1 (w.heap.size+1) 40 E11:=by
  have k:=Blk.new (w.alloc (.cells E11 40)) 40 E11;rw [Y1] at k;exact k.below hb (by simp)
 have hsz:w.heap.size+2<=w1.heap.size:=by have:=hb.size;simp at this;omega
 have hl0:w.heap.size<w1.heap.size:=by omega
 have hl1:w.heap.size+1<w1.heap.size:=by omega
 have B1:=Z9 ((((ZZ w.heap.size w).alloc (Z1 _) _).alloc (by simp) _).trans (hb.mono (by simp;omega)));have Kb:=Z9 kb;have Ko:=Z9 ko;obtain ⟨c0,c1,c2,c3,c4,c5,c6,c7,c8,c9,c10⟩:=kb.c11;obtain ⟨o0,o1,o2,o3,o4,o5,o6,o7,o8,o9,o10⟩:=ko.c11;obtain ⟨of0,of1,of2,of3,of4,of5,of6,of7,of8,of9,of10⟩:=ko.f11;clear hb kb ko;go_wp2_with fail;refine ZS (v:= .tuple #[.agg E11,.bool false]) (by simp [results,Tryz.results76,go_sem,o0,o1,o2,o3,o4,o5,o6,o7,o8,o9,o10]) rfl ⟨rfl,?_⟩
 iterate 11 (refine YO ?_ (by simp) _)
 exact uh B1
theorem Iy {st be rk my gu lo hi hd ca ut wk:Int} (rank:Int) (w:World) (hs:Zw (st,be,rk,my,gu,lo,hi,hd,ca,ut,wk)=false):Calls Tryz.prog 76 #[.agg (I11 st be rk my gu lo hi hd ca ut wk),.int .i64 rank] w fun e w'=>e= .returned (.tuple #[.agg E11,.bool false])/\Below w.heap.size w w':=by
 have Hs:=Z9 hs;clear hs;go_enter Tryz.func76,Tryz.ntmps76;go_wp2_with fail;refine (Zk st be rk my gu lo hi hd ca ut wk _).mono ?_;rw [uh Hs];rintro e w1 ⟨rfl,hb⟩;have kb:Blk w1 w.heap.size 40 (I11 st be rk my gu lo hi hd ca ut wk):=((Blk.new w 40 (I11 st be rk my gu lo hi hd ca ut wk)).alloc _).below hb (by simp;omega)
 have ko:Blk w1 (w.heap.size+1) 40 E11:=by
  have k:=Blk.new (w.alloc (.cells (I11 st be rk my gu lo hi hd ca ut wk) 40)) 40 E11;rw [Y1] at k;exact k.below hb (by simp)
 have hsz:w.heap.size+2<=w1.heap.size:=by have:=hb.size;simp at this;omega
 have hl0:w.heap.size<w1.heap.size:=by omega
 have hl1:w.heap.size+1<w1.heap.size:=by omega
 have B1:=Z9 ((((ZZ w.heap.size w).alloc (Z1 _) _).alloc (by simp) _).trans (hb.mono (by simp;omega)));have Kb:=Z9 kb;have Ko:=Z9 ko;obtain ⟨c0,c1,c2,c3,c4,c5,c6,c7,c8,c9,c10⟩:=kb.c11;obtain ⟨o0,o1,o2,o3,o4,o5,o6,o7,o8,o9,o10⟩:=ko.c11;obtain ⟨of0,of1,of2,of3,of4,of5,of6,of7,of8,of9,of10⟩:=ko.f11;clear hb kb ko;go_wp2_with fail;refine ZS (v:= .tuple #[.agg E11,.bool false]) (by simp [results,Tryz.results76,go_sem,o0,o1,o2,o3,o4,o5,o6,o7,o8,o9,o10]) rfl ⟨rfl,?_⟩
 iterate 11 (refine YO ?_ (by simp) _)
 exact uh B1
theorem Bo {st be rk my gu lo hi hd ca ut wk:Int} (rank:Int) (w:World) (hs:Zw (st,be,rk,my,gu,lo,hi,hd,ca,ut,wk)=true) (hst:(st ==0)=false) (hw:inB rank (-5) 5=false):Calls Tryz.prog 76 #[.agg (I11 st be rk my gu lo hi hd ca ut wk),.int .i64 rank] w fun e w'=>e= .returned (.tuple #[.agg (I11 st be rk my gu lo hi hd ca ut wk),.bool false])/\Below w.heap.size w w':=by
 have Hs:=Z9 hs;clear hs;go_enter Tryz.func76,Tryz.ntmps76;go_wp2_with fail;refine (Zk st be rk my gu lo hi hd ca ut wk _).mono ?_;rw [uh Hs];rintro e w1 ⟨rfl,hb⟩;have kb:Blk w1 w.heap.size 40 (I11 st be rk my gu lo hi hd ca ut wk):=((Blk.new w 40 (I11 st be rk my gu lo hi hd ca ut wk)).alloc _).below hb (by simp;omega)
 have ko:Blk w1 (w.heap.size+1) 40 E11:=by
  have k:=Blk.new (w.alloc (.cells (I11 st be rk my gu lo hi hd ca ut wk) 40)) 40 E11;rw [Y1] at k;exact k.below hb (by simp)
 have hsz:w.heap.size+2<=w1.heap.size:=by have:=hb.size;simp at this;omega
 have hl0:w.heap.size<w1.heap.size:=by omega
 have hl1:w.heap.size+1<w1.heap.size:=by omega
 have B1:=Z9 ((((ZZ w.heap.size w).alloc (Z1 _) _).alloc (by simp) _).trans (hb.mono (by simp;omega)));have Kb:=Z9 kb;have Ko:=Z9 ko;obtain ⟨c0,c1,c2,c3,c4,c5,c6,c7,c8,c9,c10⟩:=kb.c11;obtain ⟨o0,o1,o2,o3,o4,o5,o6,o7,o8,o9,o10⟩:=ko.c11;obtain ⟨of0,of1,of2,of3,of4,of5,of6,of7,of8,of9,of10⟩:=ko.f11;clear hb kb ko;go_wp2_with (go_at_call 102;refine (YN _ _).mono ?_;rintro e w' ⟨rfl,h9⟩;subst w')
 refine ZS (v:= .tuple #[.agg (I11 st be rk my gu lo hi hd ca ut wk),.bool false]) (by simp [results,Tryz.results76,go_sem,o0,o1,o2,o3,o4,o5,o6,o7,o8,o9,o10]) rfl ⟨rfl,?_⟩
 iterate 11 (refine YO ?_ (by simp) _)
 exact uh B1
theorem CT {st be rk my gu lo hi hd ca ut wk:Int} {rank x:Int} (hx:Zi rank=x) (x0:335<=x) (x1:x<=3125) (a0:0<=ca) (a1:ca<=3125) (hs:Zw (st,be,rk,my,gu,lo,hi,hd,ca,ut,wk)=true) (hst:(st ==0)=false) (hw:inB rank (-5) 5=true):Calls Tryz.prog 76 #[.agg (I11 st be rk my gu lo hi hd ca ut wk),.int .i64 rank] w fun e w'=>e= .returned (.tuple #[.agg (I11 st be rank my gu lo hi hd (ca%x) ut wk),.bool true])/\Below w.heap.size w w':=by
 have Hs:=Z9 hs;have Hx:=Z9 hx;have hne:¬ x=0:=by omega
 clear hx hs;go_enter Tryz.func76,Tryz.ntmps76;go_wp2_with fail;refine (Zk st be rk my gu lo hi hd ca ut wk _).mono ?_;rw [uh Hs];rintro e w1 ⟨rfl,hb⟩;have kb:Blk w1 w.heap.size 40 (I11 st be rk my gu lo hi hd ca ut wk):=((Blk.new w 40 (I11 st be rk my gu lo hi hd ca ut wk)).alloc _).below hb (by simp;omega)
 have ko:Blk w1 (w.heap.size+1) 40 E11:=by
  have k:=Blk.new (w.alloc (.cells (I11 st be rk my gu lo hi hd ca ut wk) 40)) 40 E11;rw [Y1] at k;exact k.below hb (by simp)
 have hsz:w.heap.size+2<=w1.heap.size:=by have:=hb.size;simp at this;omega
 have hl0:w.heap.size<w1.heap.size:=by omega
 have hl1:w.heap.size+1<w1.heap.size:=by omega
 have B1:=Z9 ((((ZZ w.heap.size w).alloc (Z1 _) _).alloc (by simp) _).trans (hb.mono (by simp;omega)));have Kb:=Z9 kb;have Ko:=Z9 ko;obtain ⟨c0,c1,c2,c3,c4,c5,c6,c7,c8,c9,c10⟩:=kb.c11;obtain ⟨o0,o1,o2,o3,o4,o5,o6,o7,o8,o9,o10⟩:=ko.c11;obtain ⟨of0,of1,of2,of3,of4,of5,of6,of7,of8,of9,of10⟩:=ko.f11;clear hb kb ko;have bf2:=(uh Kb).free 2;go_wp2_with (go_at_call 102;refine (YN _ _).mono ?_;rintro e w' ⟨rfl,h9⟩;subst w')
 have kb:Blk (w1.setCell ⟨w.heap.size,2,none⟩ (.int .i64 rank)) w.heap.size 40 (I11 st be rank my gu lo hi hd ca ut wk):=(uh Kb).set 2 (.int .i64 rank);have ko:Blk (w1.setCell ⟨w.heap.size,2,none⟩ (.int .i64 rank)) (w.heap.size+1) 40 E11:=(uh Ko).other (a:=⟨w.heap.size,2,none⟩) (by simp) _;have B2:=Z9 ((uh B1).setCell (p:=⟨w.heap.size,2,none⟩) (Z1 _) (.int .i64 rank));clear c0 o0 of0 c1 o1 of1 c2 o2 of2 c3 o3 of3 c4 o4 of4 c5 o5 of5 c6 o6 of6 c7 o7 of7 c8 o8 of8 c9 o9 of9 c10 o10 of10 bf2 Kb Ko B1 hsz hl0 hl1;generalize w1.setCell ⟨w.heap.size,2,none⟩ (.int .i64 rank)=W2 at *;obtain ⟨c0,c1,c2,c3,c4,c5,c6,c7,c8,c9,c10⟩:=kb.c11;obtain ⟨o0,o1,o2,o3,o4,o5,o6,o7,o8,o9,o10⟩:=ko.c11;obtain ⟨of0,of1,of2,of3,of4,of5,of6,of7,of8,of9,of10⟩:=ko.f11;have bf8:=kb.free 8;clear kb ko
 go_region_with (go_at_call 104;refine (Yy (uh Hx) _).mono ?_;rintro e w' ⟨rfl,h9⟩;subst w')
 all_goals
  go_wp2_with fail;refine ZS (v:= .tuple #[.agg (I11 st be rank my gu lo hi hd (ca%x) ut wk),.bool true]) (by simp [results,Tryz.results76,go_sem,o0,o1,o2,o3,o4,o5,o6,o7,o8,o9,o10]) rfl ⟨rfl,?_⟩;refine Below.drew ?_
  iterate 12 (refine YO ?_ (by simp) _)
  exact uh B2
theorem SV {x:Z3} (h:YR x=true):Zw x=true:=by unfold Zw;rw [h,Bool.or_true]
theorem NV {x:Z3} (rank:Int) (hg:U4 x=true):XL x rank=(Uy,false):=by
 have e:=U5 hg;subst e;rfl
theorem Pb {x:Z3} (rank:Int) (hg:U4 x=false) (hp:YR x=false):XL x rank=(Uy,false):=by unfold XL;rw [hp,hg];rfl
theorem Lq {x:Z3} {rank:Int} (hp:YR x=true) (hw:inB rank (-5) 5=false):XL x rank=(x,false):=by unfold XL;rw [hp,hw];rfl
theorem MT {x:Z3} {rank:Int} (hp:YR x=true) (hw:inB rank (-5) 5=true):XL x rank=(MR x rank,true):=by unfold XL;rw [hp,hw];rfl
theorem Bp {st:Int} (h:1<=st):(st ==0)=false:=by simp;omega
theorem Ni {x y:Z3} {rank:Int} {q:Bool} (h:XL x rank=(y,q)) (w:World):Calls Tryz.prog 76 #[.agg (ZU x).toArray,.int .i64 rank] w fun e w'=>e= .returned (.tuple #[.agg (ZU y).toArray,.bool q])/\Below w.heap.size w w':=by
 obtain ⟨st,be,rk,my,gu,lo,hi,hd,ca,ut,wk⟩:=x;have hz:=IQ rank;cases hg:U4 (st,be,rk,my,gu,lo,hi,hd,ca,ut,wk)
 ·cases hp:YR (st,be,rk,my,gu,lo,hi,hd,ca,ut,wk)
  ·rw [Pb rank hg hp] at h
   obtain ⟨rfl,rfl⟩:=Prod.mk.inj h;exact Iy rank w (by unfold Zw;rw [hg,hp];rfl)
  ·cases hw:inB rank (-5) 5
   ·rw [Lq hp hw] at h
    obtain ⟨rfl,rfl⟩:=Prod.mk.inj h;exact Bo rank w (SV hp) (Bp (Zo hp).1.1) hw
   ·rw [MT hp hw] at h
    obtain ⟨rfl,rfl⟩:=Prod.mk.inj h;obtain ⟨⟨s0,s1⟩,_,hr,_,_,_,⟨d0,d1⟩,⟨a0,a1⟩,_,⟨k0,k1⟩⟩:=Zo hp;have hr0:=Vu hr;have hr1:=(TA rk).2;have a2:ca<=3125:=by omega
    have x0:=Vu hw;have x1:=(TA rank).2;have hs:Zw (MR (st,be,rk,my,gu,lo,hi,hd,ca,ut,wk) rank)=true:=SV (PR hp hw);exact CT rfl x0 x1 a0 a2 (SV hp) (Bp s0) hw
 ·rw [NV rank hg] at h
  obtain ⟨rfl,rfl⟩:=Prod.mk.inj h;cases U5 hg;exact Fm rank w
theorem Nh  (who:Int) (rank:Int) (h:Smy w v0 v1 v2 v3 v4 m) :
  Calls Tryz.prog 26 #[.agg #[v0,v1,v2,v3,v4,.int .i64 m.now],.int .i64 who,.int .i64 rank] w fun e w'=>S5 w.heap.size (Uo m who rank).1 (Uo m who rank).2 e w'/\Below w.heap.size w w':=by
 obtain ⟨X,hX⟩:∃ x,Uo m who rank=x:=⟨_,rfl⟩
 rw [hX];have HX:=Z9 hX;clear hX;have Hv0:=Z9 h;obtain ⟨a0,p0,a1,p1,a2,p2,a3,p3,a4,p4,rfl,rfl,rfl,rfl,rfl,_,_,_,_,_,_,_,_,_,_⟩:=h.five;clear h;obtain ⟨ok,hok⟩:∃ q,ZJ m=q:=⟨_,rfl⟩
 have Hok:=Z9 hok;clear hok;go_enter Tryz.func26,Tryz.ntmps26;go_wp2_with fail;obtain ⟨W,hW,kb,kr,BB⟩:=YD w 32 (S6 a0 p0 a1 p1 a2 p2 a3 p3 a4 p4 m) 32 E6;have Hv:=Z9 ((uh Hv0).below (uh BB));clear Hv0;rw [hW];clear hW;refine ck (Xt (uh Hok) (uh Hv)) fun w1 hb=> ?_;replace kb:=bl kb hb;replace kr:=bl kr hb;replace Hv:=Z9 ((uh Hv).below hb);replace BB:=bt BB hb;clear hb;cases ok
 ·
  obtain ⟨c0,c1,c2,c3,c4,c5⟩:=(uh kb).c6;go_wp2_with fail;clear c0 c1 c2 c3 c4 c5;refine ck (XV (uh Hv)) fun w2 hb=> ?_;replace kb:=bl kb hb;replace kr:=bl kr hb;replace Hv:=Z9 ((uh Hv).below hb);replace BB:=bt BB hb;clear hb;obtain ⟨o0,o1,o2,o3,o4,o5⟩:=(uh kr).c6;obtain ⟨f0,f1,f2,f3,f4,f5⟩:=(uh kr).f6;go_wp2_with fail;have hX0:X=(Ye,3):=by rw [<-uh HX];unfold Uo;rw [uh Hok];rfl
  exact ZS (v:= .tuple #[.agg E6,.int .i64 3]) (by simp [results,Tryz.results26,go_sem, *]) rfl (Zb hX0 rfl (YM _ _) (uh BB))
 have hlo:=ZR (uh Hok);have HLo:=Z9 hlo;have HFew:=Z9 (Xn hlo);clear hlo;obtain ⟨c0,c1,c2,c3,c4,c5⟩:=(uh kb).c6;go_wp2_with fail;clear c0 c1 c2 c3 c4 c5;refine (T6 (uh Hv) (uh HFew) (uh kb) (uh kr) (uh BB)).mono ?_;clear kb kr Hv BB;rintro e w2 ⟨b0,q0,b1,q1,b2,q2,b3,q3,b4,q4,oq,rfl,W2,ob,hW2,hob2,kb,kr,Hv,HO,ko,LO,hob,BB⟩;go_upto_region 4 with fail
 (try rw [hW2])
 (try rw [hob2])
 clear hW2 hob2;obtain ⟨qw,hqw⟩:∃ q,WL m who=q:=⟨_,rfl⟩
 have Hqw:=Z9 hqw;clear hqw;obtain ⟨c0,c1,c2,c3,c4,c5⟩:=(uh kb).c6;go_wp2_with fail;clear c0 c1 c2 c3 c4 c5;refine ck (U8 (uh Hqw) (uh Hv)) fun w3 hb=> ?_;replace kb:=bl kb hb;replace kr:=bl kr hb;replace Hv:=Z9 ((uh Hv).below hb);replace HO:=Z9 ((uh HO).below hb);replace ko:=bl ko hb;replace BB:=bt BB hb;clear hb;cases qw
 ·
  obtain ⟨x0,x1,x2,x3,x4,x5⟩:=(uh ko).c6;obtain ⟨o0,o1,o2,o3,o4,o5⟩:=(uh kr).c6;obtain ⟨f0,f1,f2,f3,f4,f5⟩:=(uh kr).f6;go_wp2_with fail;have hX0:X=(m,1):=by rw [<-uh HX];unfold Uo;rw [uh Hok,uh Hqw];rfl
  exact ZS (v:= .tuple #[.agg (S6 b0 q0 b1 q1 b2 q2 b3 q3 b4 q4 m),.int .i64 1]) (by simp [results,Tryz.results26,go_sem, *]) rfl (Zb hX0 rfl (uh HO) (uh BB))
 obtain ⟨k,rfl,hk,hs0⟩:=XS (uh Hqw);have hk1:(k:Int)<(m.sm.length:Int):=by omega
 obtain ⟨_,_,hse,_,_,r2⟩:=(uh Hv).sm;cases hse
 rcases r2 with e0 | ⟨sb,off,rfl,hbw,hcl⟩
 ·rw [e0] at hk;simp at hk
 obtain ⟨d0,d1,d2,d3,d4,d5,d6,d7,d8,d9,d10⟩:=ZA hcl hk;clear hcl;obtain ⟨⟨⟨t0,t1,t2,t3,t4,t5,t6,t7,t8,t9,t10⟩,iq⟩,hre⟩:∃ q,XL (Z8 m.sm k) rank=q:=⟨_,rfl⟩
 have Hre:=Z9 hre;obtain ⟨⟨st,be,rk,my,gu,lo,hi,hd,ca,ut,wk⟩,hrk⟩:∃ d,Z8 m.sm k=d:=⟨_,rfl⟩
 rw [hrk] at d0 d1 d2 d3 d4 d5 d6 d7 d8 d9 d10 hre;simp only at d0 d1 d2 d3 d4 d5 d6 d7 d8 d9 d10;have c2:=(uh kb).cell (i:=2) (v:= .slice (some ⟨sb,off,none⟩) m.sm.length p2) rfl;have Hr2:=Z9 hre;clear hre;go_wp2_with fail;refine ck (Ni (uh Hr2) _) fun w4 hb=> ?_;replace kb:=bl kb hb;replace kr:=bl kr hb;replace Hv:=Z9 ((uh Hv).below hb);replace HO:=Z9 ((uh HO).below hb);replace ko:=bl ko hb;replace BB:=bt BB hb;clear hb d0 d1 d2 d3 d4 d5 d6 d7 d8 d9 d10 c2;simp only [ZU];go_upto_region 7 with fail;obtain ⟨W5,hW5,hba,ks⟩:=YP w4 40 (I11 t0 t1 t2 t3 t4 t5 t6 t7 t8 t9 t10);replace kb:=bl kb hba;replace kr:=bl kr hba;replace Hv:=Z9 ((uh Hv).below hba);replace HO:=Z9 ((uh HO).below hba);replace ko:=bl ko hba;replace BB:=bt BB hba;clear hba;rw [hW5];clear hW5;generalize w4.heap.size=sb5 at *;cases iq
 ·
  obtain ⟨x0,x1,x2,x3,x4,x5⟩:=(uh ko).c6;obtain ⟨o0,o1,o2,o3,o4,o5⟩:=(uh kr).c6;obtain ⟨f0,f1,f2,f3,f4,f5⟩:=(uh kr).f6;go_wp2_with fail;have hX0:X=(m,3):=by rw [<-uh HX];unfold Uo;rw [uh Hok,uh Hqw];simp only [if_true,Zy];rw [uh Hre];rfl
  exact ZS (v:= .tuple #[.agg (S6 b0 q0 b1 q1 b2 q2 b3 q3 b4 q4 m),.int .i64 3]) (by simp [results,Tryz.results26,go_sem, *]) rfl (Zb hX0 rfl (uh HO) (uh BB))
 obtain ⟨z0,z1,z2,z3,z4,z5,z6,z7,z8,z9,z10⟩:=(uh ks).c11;obtain ⟨g2,hga,_,_,hc2,hz2⟩:=RecAt.view ZT (by omega) (uh HO).sm rfl (by omega);cases hga;have hg2o:=(uh LO g2 (.inr (.inr (.inr (.inl rfl)))))
 have x2:=(uh ko).cell (i:=2) (v:= .slice (some ⟨g2,0,none⟩) m.sm.length q2) rfl;obtain ⟨s0,s1,s2,s3,s4,s5,s6,s7,s8,s9,s10⟩:=CL (hc2 k hk);obtain ⟨g0,g1,g2,g3,g4,g5,g6,g7,g8,g9,g10⟩:=As hz2 (k*11);simp only [Nat.add_zero] at s0 g0;have HP:=Z9 ((uh HO).putW rfl hk (t0,t1,t2,t3,t4,t5,t6,t7,t8,t9,t10));clear hc2 hz2 HO;go_upto_region 10 with fail;clear x2 s0 g0 s1 g1 s2 g2 s3 g3 s4 g4 s5 g5 s6 g6 s7 g7 s8 g8 s9 g9 s10 g10;rw [Bf];replace ko:=MY (g:=g2) (by omega) (ZU (t0,t1,t2,t3,t4,t5,t6,t7,t8,t9,t10)) (o:=k*11) ko;replace kr:=MY (g:=g2) (by omega) (ZU (t0,t1,t2,t3,t4,t5,t6,t7,t8,t9,t10)) (o:=k*11) kr;replace BB:=Fd (g:=g2) (by omega) (ZU (t0,t1,t2,t3,t4,t5,t6,t7,t8,t9,t10)) (o:=k*11) BB;clear kb Hv;generalize PY W5 g2 (k*11) (ZU (t0,t1,t2,t3,t4,t5,t6,t7,t8,t9,t10))=W3 at *;have hfw:=uh HFew;go_wp2_with fail;refine (UX (m:=setS m k (t0,t1,t2,t3,t4,t5,t6,t7,t8,t9,t10)) (uh ko) (uh HP) (fun k e=>by have:=(uh LO k e).2;omega) (uh kr) (uh BB) (by show (m.sm.set k _).length<=800;have:=hfw.sm;simp;omega) hfw.dk).mono ?_;clear kr BB;rintro e w5 ⟨rfl,HF9,kr,BB⟩;obtain ⟨o0,o1,o2,o3,o4,o5⟩:=(uh kr).c6;obtain ⟨f0,f1,f2,f3,f4,f5⟩:=(uh kr).f6;go_wp2_with fail;have hX0:X=(ZM (setS m k (t0,t1,t2,t3,t4,t5,t6,t7,t8,t9,t10)),0):=by rw [<-uh HX];unfold Uo;rw [uh Hok,uh Hqw];simp only [if_true,Zy];rw [uh Hre];rfl
 have hnow:(ZM (setS m k (t0,t1,t2,t3,t4,t5,t6,t7,t8,t9,t10))).now=m.now:=(ZH _ _).2.2.2.1;exact ZS (v:= .tuple #[.agg (S6 b0 q0 b1 q1 (some ⟨g2,0,none⟩) q2 b3 q3 b4 q4 m),.int .i64 0]) (by simp [results,Tryz.results26,go_sem,setS,TK,Yb,pushS, *]) rfl (Zb hX0 hnow (uh HF9) (uh BB))
theorem Sane.setS (h:Sane m) {k:Nat} (hk:k<m.sm.length) (s:Z3) (h0:s.1 ≠ 0-> -1<=s.2.2.2.2.1/\s.2.2.2.2.1<m.gd.length):Sane (setS m k s):=by
 have hset:∀ i,Z8 (Proofs.YtamgfpdahadnfaaGreatDoor.setS m k s).sm i=if i=k then s else Z8 m.sm i:=fun i=>ZF hk i
 refine ⟨h.hall,h.dk,⟨h.guilded.gd,fun i hi hne=> ?_,fun i hi hne=> ?_⟩,by show (m.sm.set k s).length<=12;simpa using h.few⟩
 ·have hi':i<m.sm.length:=by simpa [Proofs.YtamgfpdahadnfaaGreatDoor.setS] using hi
  rw [hset] at hne ⊢;by_cases e:i=k
  ·rw [if_pos e] at hne ⊢;exact (h0 hne).1
  ·rw [if_neg e] at hne ⊢;exact h.guilded.lo i hi' hne
 ·have hi':i<m.sm.length:=by simpa [Proofs.YtamgfpdahadnfaaGreatDoor.setS] using hi
  rw [hset] at hne ⊢;by_cases e:i=k
  ·rw [if_pos e] at hne ⊢;exact (h0 hne).2
  ·rw [if_neg e] at hne ⊢;exact h.guilded.hi i hi' hne
theorem NX  (who:Int) (may:Int) (h:Smy w v0 v1 v2 v3 v4 m) :
  Calls Tryz.prog 27 #[.agg #[v0,v1,v2,v3,v4,.int .i64 m.now],.int .i64 who,.int .i64 may] w fun e w'=>S5 w.heap.size (Vz m who may).1 (Vz m who may).2 e w'/\Below w.heap.size w w':=by
 obtain ⟨X,hX⟩:∃ x,Vz m who may=x:=⟨_,rfl⟩
 rw [hX];have HX:=Z9 hX;clear hX;have Hv0:=Z9 h;obtain ⟨a0,p0,a1,p1,a2,p2,a3,p3,a4,p4,rfl,rfl,rfl,rfl,rfl,_,_,_,_,_,_,_,_,_,_⟩:=h.five;clear h;obtain ⟨ok,hok⟩:∃ q,ZJ m=q:=⟨_,rfl⟩
 have Hok:=Z9 hok;clear hok;go_enter Tryz.func27,Tryz.ntmps27;go_wp2_with fail;obtain ⟨W,hW,kb,kr,BB⟩:=YD w 32 (S6 a0 p0 a1 p1 a2 p2 a3 p3 a4 p4 m) 32 E6;have Hv:=Z9 ((uh Hv0).below (uh BB));clear Hv0;rw [hW];clear hW;refine ck (Xt (uh Hok) (uh Hv)) fun w1 hb=> ?_;replace kb:=bl kb hb;replace kr:=bl kr hb;replace Hv:=Z9 ((uh Hv).below hb);replace BB:=bt BB hb;clear hb;cases ok
 ·
  obtain ⟨c0,c1,c2,c3,c4,c5⟩:=(uh kb).c6;go_wp2_with fail;clear c0 c1 c2 c3 c4 c5;refine ck (XV (uh Hv)) fun w2 hb=> ?_;replace kb:=bl kb hb;replace kr:=bl kr hb;replace Hv:=Z9 ((uh Hv).below hb);replace BB:=bt BB hb;clear hb;obtain ⟨o0,o1,o2,o3,o4,o5⟩:=(uh kr).c6;obtain ⟨f0,f1,f2,f3,f4,f5⟩:=(uh kr).f6;go_wp2_with fail;have hX0:X=(Ye,3):=by rw [<-uh HX];unfold Vz;rw [uh Hok];rfl
  exact ZS (v:= .tuple #[.agg E6,.int .i64 3]) (by simp [results,Tryz.results27,go_sem, *]) rfl (Zb hX0 rfl (YM _ _) (uh BB))
 have hlo:=ZR (uh Hok);have HLo:=Z9 hlo;have HFew:=Z9 (Xn hlo);clear hlo;obtain ⟨c0,c1,c2,c3,c4,c5⟩:=(uh kb).c6;go_wp2_with fail;clear c0 c1 c2 c3 c4 c5;refine (T6 (uh Hv) (uh HFew) (uh kb) (uh kr) (uh BB)).mono ?_;clear kb kr Hv BB;rintro e w2 ⟨b0,q0,b1,q1,b2,q2,b3,q3,b4,q4,oq,rfl,W2,ob,hW2,hob2,kb,kr,Hv,HO,ko,LO,hob,BB⟩;go_upto_region 4 with fail
 (try rw [hW2])
 (try rw [hob2])
 clear hW2 hob2;obtain ⟨qw,hqw⟩:∃ q,WL m who=q:=⟨_,rfl⟩
 have Hqw:=Z9 hqw;clear hqw;obtain ⟨c0,c1,c2,c3,c4,c5⟩:=(uh kb).c6;go_wp2_with fail;clear c0 c1 c2 c3 c4 c5;refine ck (U8 (uh Hqw) (uh Hv)) fun w3 hb=> ?_;replace kb:=bl kb hb;replace kr:=bl kr hb;replace Hv:=Z9 ((uh Hv).below hb);replace HO:=Z9 ((uh HO).below hb);replace ko:=bl ko hb;replace BB:=bt BB hb;clear hb;cases qw
 ·
  obtain ⟨x0,x1,x2,x3,x4,x5⟩:=(uh ko).c6;obtain ⟨o0,o1,o2,o3,o4,o5⟩:=(uh kr).c6;obtain ⟨f0,f1,f2,f3,f4,f5⟩:=(uh kr).f6;go_wp2_with fail;have hX0:X=(m,1):=by rw [<-uh HX];unfold Vz;rw [uh Hok,uh Hqw];rfl
  exact ZS (v:= .tuple #[.agg (S6 b0 q0 b1 q1 b2 q2 b3 q3 b4 q4 m),.int .i64 1]) (by simp [results,Tryz.results27,go_sem, *]) rfl (Zb hX0 rfl (uh HO) (uh BB))
 obtain ⟨k,rfl,hk,hs0⟩:=XS (uh Hqw);have hk1:(k:Int)<(m.sm.length:Int):=by omega
 obtain ⟨pb,hpb⟩:∃ q,inB may 1 255=q:=⟨_,rfl⟩
 have Hpb:=Z9 hpb;clear hpb;go_wp2_with fail;refine (ZV _ _ _ _).mono ?_;rw [uh Hpb];rintro e w9 ⟨rfl,hw9⟩;subst w9;cases pb
 ·
  obtain ⟨x0,x1,x2,x3,x4,x5⟩:=(uh ko).c6;obtain ⟨o0,o1,o2,o3,o4,o5⟩:=(uh kr).c6;obtain ⟨f0,f1,f2,f3,f4,f5⟩:=(uh kr).f6;go_wp2_with fail;have hX0:X=(m,3):=by rw [<-uh HX];unfold Vz;rw [uh Hok,uh Hqw];simp only [if_true];rw [uh Hpb];rfl
  exact ZS (v:= .tuple #[.agg (S6 b0 q0 b1 q1 b2 q2 b3 q3 b4 q4 m),.int .i64 3]) (by simp [results,Tryz.results27,go_sem, *]) rfl (Zb hX0 rfl (uh HO) (uh BB))
 obtain ⟨c0,c1,c2,c3,c4,c5⟩:=(uh kb).c6;go_wp2_with fail;clear c0 c1 c2 c3 c4 c5;have hobw:=(uh ko).lt;refine (XR (uh Hv) (uh HFew)).mono ?_;rintro e w4 ⟨y0,y1,y2,y3,y4,xq,rfl,ho,hb⟩;have k9:=ho.smy;obtain ⟨xa0,xp0,xa1,xp1,xa2,xp2,xa3,xp3,xa4,xp4,rfl,rfl,rfl,rfl,rfl,_,_,_,_,_,_,_,_,_,_⟩:=k9.five;clear k9;replace kb:=bl kb hb;replace kr:=bl kr hb;replace Hv:=Z9 ((uh Hv).below hb);replace HO:=Z9 ((uh HO).below hb);replace ko:=bl ko hb;replace BB:=bt BB hb;have hszx:=hb.size;have HY:=Z9 (ho.mono (n₁:=w.heap.size+2) (by omega));have LX:Hid (∀ k,Wa (.slice xa0 m.rm.length xp0) (.slice xa1 m.gd.length xp1) (.slice xa2 m.sm.length xp2) (.slice xa3 m.dk.length xp3) (.slice xa4 m.pc.length xp4) xq k->ob+1<=k/\k<w4.heap.size):=Z9 (fun k e=>by have:=ho.own e;omega);have hxb:ob+1<=w4.heap.size:=by omega
 clear ho hb hobw hszx;go_upto_region 9 with fail;obtain ⟨W3,hW3,hba,kx⟩:=YP w4 32 (S6 xa0 xp0 xa1 xp1 xa2 xp2 xa3 xp3 xa4 xp4 m);replace kb:=bl kb hba;replace kr:=bl kr hba;replace Hv:=Z9 ((uh Hv).below hba);replace HO:=Z9 ((uh HO).below hba);replace ko:=bl ko hba;replace HY:=Z9 ((uh HY).below hba);replace BB:=bt BB hba;clear hba;rw [hW3];clear hW3;generalize w4.heap.size=xb at *;obtain ⟨hA,bn,hbn,hbnl⟩:=TX (uh HLo) hk hs0;obtain ⟨_,hgu,_⟩:=(uh HLo).limits hk hs0;have hgl:=(uh HLo).sane.guilded.lo k hk hs0;obtain ⟨hm0,hm1⟩:=ZN (uh Hpb);have heig:=(uh HLo).sane.eight;have hbn7:(bn:Int)<=7:=by omega
 clear hA heig;obtain ⟨⟨st,be,rk,my,gu,lo,hi,hd,ca,ut,wk⟩,hrk⟩:∃ d,Z8 m.sm k=d:=⟨_,rfl⟩
 rw [hrk] at hbn hs0 hgu hgl;simp only at hbn hs0 hgu hgl;subst hbn;have hmx:Xv m k may=setS m k (st,(bn:Int),rk,may,gu,lo,hi,hd,ca,ut,wk):=by unfold Xv SG;rw [hrk]
 have HSx:Hid (Sane (Xv m k may)):=Z9 (by rw [hmx];exact (uh HLo).sane.setS hk _ (fun _=>⟨hgl,hgu⟩));have hr1:Z8 (m.sm.set k (st,(bn:Int),rk,may,gu,lo,hi,hd,ca,ut,wk)) k=(st,(bn:Int),rk,may,gu,lo,hi,hd,ca,ut,wk):=by rw [ZF hk,if_pos rfl]
 have HAx:Hid (Si (Xv m k may) k):=Z9 (by
  rw [hmx];refine ⟨by show k<(m.sm.set k _).length;simp;omega,?_,?_,?_⟩
  ·show (Z8 (m.sm.set k _) k).1 ≠ 0;rw [hr1];exact hs0
  ·show 0<=(Z8 (m.sm.set k _) k).2.2.2.1;rw [hr1];show (0:Int)<=may;omega
  ·show (Z8 (m.sm.set k _) k).2.2.2.1<=255;rw [hr1];exact hm1)
 have HLp:=Z9 (Tq (uh HLo));have Hrk:=Z9 hrk;have Hmx:=Z9 hmx;clear hrk hmx hgu hgl;obtain ⟨g2,hga,_,_,hc2,hz2⟩:=RecAt.view ZT (by omega) (uh HY).sm rfl (by omega);cases hga;have hg2o:=(uh LX g2 (.inr (.inr (.inr (.inl rfl)))))
 have x2:=(uh kx).cell (i:=2) (v:= .slice (some ⟨g2,0,none⟩) m.sm.length xp2) rfl;have s3:=hc2 k hk 3 _ rfl;have f3:=hz2 (k*11+3);have hput:=(uh HY).putS rfl (j:=k) (i:=3) hk (by omega) (.int .i64 may) (st,(bn:Int),rk,may,gu,lo,hi,hd,ca,ut,wk) (by rw [uh Hrk];rfl);have HP:=Z9 hput;clear hput hc2 hz2;go_upto_region 10 with fail;clear x2 s3 f3;replace kx:Hid (Blk (W3.setCell ⟨g2,k*11+3,none⟩ (.int .i64 may)) xb 32 (S6 xa0 xp0 xa1 xp1 (some ⟨g2,0,none⟩) xp2 xa3 xp3 xa4 xp4 m)):=Z9 ((uh kx).other (a:=⟨g2,k*11+3,none⟩) (by show xb ≠ g2;omega) (.int .i64 may));replace ko:Hid (Blk (W3.setCell ⟨g2,k*11+3,none⟩ (.int .i64 may)) ob 32 (S6 b0 q0 b1 q1 b2 q2 b3 q3 b4 q4 m)):=Z9 ((uh ko).other (a:=⟨g2,k*11+3,none⟩) (by show ob ≠ g2;omega) (.int .i64 may));replace kr:Hid (Blk (W3.setCell ⟨g2,k*11+3,none⟩ (.int .i64 may)) (w.heap.size+1) 32 E6):=Z9 ((uh kr).other (a:=⟨g2,k*11+3,none⟩) (by show (w.heap.size+1) ≠ g2;omega) (.int .i64 may));replace HO:Hid (FullSmy (w.heap.size+2) (W3.setCell ⟨g2,k*11+3,none⟩ (.int .i64 may)) (.slice b0 m.rm.length q0) (.slice b1 m.gd.length q1) (.slice b2 m.sm.length q2) (.slice b3 m.dk.length q3) (.slice b4 m.pc.length q4) m oq):=Z9 ((uh HO).set_off (fun k e=>by have:=(uh LO k e).2;omega) _ _);replace BB:Hid (Below w.heap.size w (W3.setCell ⟨g2,k*11+3,none⟩ (.int .i64 may))):=Z9 ((uh BB).setCell (p:=⟨g2,k*11+3,none⟩) (by show w.heap.size<=g2;omega) (.int .i64 may));clear kb Hv HY;generalize W3.setCell ⟨g2,k*11+3,none⟩ (.int .i64 may)=W4 at *;have hl1:(m.sm.set k (st,(bn:Int),rk,may,gu,lo,hi,hd,ca,ut,wk)).length=m.sm.length:=by simp
 obtain ⟨_,hga,_,_,hc4,_⟩:=RecAt.view ZT (by omega) (uh HP).sm hl1.symm (by show 0<(m.sm.set k _).length;omega);cases hga;have x2:=(uh kx).cell (i:=2) (v:= .slice (some ⟨g2,0,none⟩) m.sm.length xp2) rfl;have s0:=hc4 k (by show k<(m.sm.set k _).length;omega) 0 (.int .i64 st) (by show (ZU (Z8 (m.sm.set k (st,(bn:Int),rk,may,gu,lo,hi,hd,ca,ut,wk)) k))[0]?=_;rw [hr1];rfl);have s1:=hc4 k (by show k<(m.sm.set k _).length;omega) 1 (.int .i64 (bn:Int)) (by show (ZU (Z8 (m.sm.set k (st,(bn:Int),rk,may,gu,lo,hi,hd,ca,ut,wk)) k))[1]?=_;rw [hr1];rfl);have s2:=hc4 k (by show k<(m.sm.set k _).length;omega) 2 (.int .i64 rk) (by show (ZU (Z8 (m.sm.set k (st,(bn:Int),rk,may,gu,lo,hi,hd,ca,ut,wk)) k))[2]?=_;rw [hr1];rfl);have s3:=hc4 k (by show k<(m.sm.set k _).length;omega) 3 (.int .i64 may) (by show (ZU (Z8 (m.sm.set k (st,(bn:Int),rk,may,gu,lo,hi,hd,ca,ut,wk)) k))[3]?=_;rw [hr1];rfl);have s4:=hc4 k (by show k<(m.sm.set k _).length;omega) 4 (.int .i64 gu) (by show (ZU (Z8 (m.sm.set k (st,(bn:Int),rk,may,gu,lo,hi,hd,ca,ut,wk)) k))[4]?=_;rw [hr1];rfl);have s5:=hc4 k (by show k<(m.sm.set k _).length;omega) 5 (.int .i64 lo) (by show (ZU (Z8 (m.sm.set k (st,(bn:Int),rk,may,gu,lo,hi,hd,ca,ut,wk)) k))[5]?=_;rw [hr1];rfl);have s6:=hc4 k (by show k<(m.sm.set k _).length;omega) 6 (.int .i64 hi) (by show (ZU (Z8 (m.sm.set k (st,(bn:Int),rk,may,gu,lo,hi,hd,ca,ut,wk)) k))[6]?=_;rw [hr1];rfl);have s7:=hc4 k (by show k<(m.sm.set k _).length;omega) 7 (.int .i64 hd) (by show (ZU (Z8 (m.sm.set k (st,(bn:Int),rk,may,gu,lo,hi,hd,ca,ut,wk)) k))[7]?=_;rw [hr1];rfl);have s8:=hc4 k (by show k<(m.sm.set k _).length;omega) 8 (.int .i64 ca) (by show (ZU (Z8 (m.sm.set k (st,(bn:Int),rk,may,gu,lo,hi,hd,ca,ut,wk)) k))[8]?=_;rw [hr1];rfl);have s9:=hc4 k (by show k<(m.sm.set k _).length;omega) 9 (.int .i64 ut) (by show (ZU (Z8 (m.sm.set k (st,(bn:Int),rk,may,gu,lo,hi,hd,ca,ut,wk)) k))[9]?=_;rw [hr1];rfl);have s10:=hc4 k (by show k<(m.sm.set k _).length;omega) 10 (.int .i64 wk) (by show (ZU (Z8 (m.sm.set k (st,(bn:Int),rk,may,gu,lo,hi,hd,ca,ut,wk)) k))[10]?=_;rw [hr1];rfl);simp only [Nat.add_zero] at s0;clear hc4 hl1;go_upto_region 11 with fail;clear x2 s0 s1 s2 s3 s4 s5 s6 s7 s8 s9 s10;obtain ⟨W5,hW5,hba,ks⟩:=YP W4 40 (I11 st (bn:Int) rk may gu lo hi hd ca ut wk);replace HP:Hid (FullSmy (w.heap.size+2) W4 (.slice xa0 m.rm.length xp0) (.slice xa1 m.gd.length xp1) (.slice (some ⟨g2,0,none⟩) m.sm.length xp2) (.slice xa3 m.dk.length xp3) (.slice xa4 m.pc.length xp4) (Xv m k may) xq):=Z9 (by rw [uh Hmx];exact uh HP);replace kx:=bl kx hba;replace ko:=bl ko hba;replace kr:=bl kr hba;replace HO:=Z9 ((uh HO).below hba);replace HP:=Z9 ((uh HP).below hba);replace BB:=bt BB hba;clear hba;rw [hW5];clear hW5;generalize W4.heap.size=sv at *;obtain ⟨ps,hps⟩:∃ q,ZK (st,(bn:Int),rk,may,gu,lo,hi,hd,ca,ut,wk)=q:=⟨_,rfl⟩
 have Hpt:=Z9 hps;have Hp0:Hid (ZK (Z8 m.sm k)=ps):=Z9 (by rw [uh Hrk];exact hps);clear hps;obtain ⟨e0,e1,e2,e3,e4,e5,e6,e7,e8,e9,e10⟩:=(uh ks).c11;go_wp2_with fail;clear e0 e1 e2 e3 e4 e5 e6 e7 e8 e9 e10;refine ck (Yv (uh Hpt) _) fun w5 hb=> ?_;replace kx:=bl kx hb;replace ko:=bl ko hb;replace kr:=bl kr hb;replace HO:=Z9 ((uh HO).below hb);replace HP:=Z9 ((uh HP).below hb);replace ks:=bl ks hb;replace BB:=bt BB hb;clear hb;have hfw:=uh HFew;cases ps
 ·
  go_wp2_with fail;refine (UX (m:=Xv m k may) (uh kx) (uh HP) (fun k e=>by have:=(uh LX k e).2;omega) (uh kr) (uh BB) (by show (m.sm.set k _).length<=800;have:=hfw.sm;simp;omega) hfw.dk).mono ?_;clear kr BB;rintro e w6 ⟨rfl,HF9,kr,BB⟩;obtain ⟨o0,o1,o2,o3,o4,o5⟩:=(uh kr).c6;obtain ⟨f0,f1,f2,f3,f4,f5⟩:=(uh kr).f6;go_wp2_with fail;have hX0:X=(ZM (Xv m k may),0):=by rw [<-uh HX];unfold Vz;rw [uh Hok,uh Hqw];simp only [if_true,Zy];rw [uh Hpb];simp only [if_true];rw [uh Hp0];rfl
  have hnow:(ZM (Xv m k may)).now=m.now:=(ZH _ _).2.2.2.1;exact ZS (v:= .tuple #[.agg (S6 xa0 xp0 xa1 xp1 (some ⟨g2,0,none⟩) xp2 xa3 xp3 xa4 xp4 m),.int .i64 0]) (by simp [results,Tryz.results27,go_sem,setS,TK,Yb,pushS,Xv, *]) rfl (Zb hX0 hnow (uh HF9) (uh BB))
 obtain ⟨q2,hq2⟩:∃ q,VX may (bn:Int)=q:=⟨_,rfl⟩
 have Hq2:=Z9 hq2;have Hq0:Hid (VX may (Z8 m.sm k).2.1=q2):=Z9 (by rw [uh Hrk];exact hq2);clear hq2;have e1:=(uh ks).cell (i:=1) (v:= .int .i64 (bn:Int)) rfl;go_wp2_with fail;clear e1;refine ck (PH (uh Hq2) (by omega) hm1 (by omega) hbn7 _) fun w6 hb=> ?_;replace kx:=bl kx hb;replace ko:=bl ko hb;replace kr:=bl kr hb;replace HO:=Z9 ((uh HO).below hb);replace HP:=Z9 ((uh HP).below hb);replace ks:=bl ks hb;replace BB:=bt BB hb;clear hb;cases q2;rotate_left
 ·
  go_wp2_with fail;refine (UX (m:=Xv m k may) (uh kx) (uh HP) (fun k e=>by have:=(uh LX k e).2;omega) (uh kr) (uh BB) (by show (m.sm.set k _).length<=800;have:=hfw.sm;simp;omega) hfw.dk).mono ?_;clear kr BB;rintro e w7 ⟨rfl,HF9,kr,BB⟩;obtain ⟨o0,o1,o2,o3,o4,o5⟩:=(uh kr).c6;obtain ⟨f0,f1,f2,f3,f4,f5⟩:=(uh kr).f6;go_wp2_with fail;have hX0:X=(ZM (Xv m k may),0):=by rw [<-uh HX];unfold Vz;rw [uh Hok,uh Hqw];simp only [if_true,Zy];rw [uh Hpb];simp only [if_true];rw [uh Hp0,uh Hq0];rfl
  have hnow:(ZM (Xv m k may)).now=m.now:=(ZH _ _).2.2.2.1;exact ZS (v:= .tuple #[.agg (S6 xa0 xp0 xa1 xp1 (some ⟨g2,0,none⟩) xp2 xa3 xp3 xa4 xp4 m),.int .i64 0]) (by simp [results,Tryz.results27,go_sem,setS,TK,Yb,pushS,Xv, *]) rfl (Zb hX0 hnow (uh HF9) (uh BB))
 obtain ⟨b,hb⟩:∃ q,Y3 (Xv m k may) (k:Int)=q:=⟨_,rfl⟩
 have Hb:=Z9 hb;clear hb;obtain ⟨z0,z1,z2,z3,z4,z5⟩:=(uh kx).c6;go_wp2_with fail;clear z0 z1 z2 z3 z4 z5;refine (WD (m:=Xv m k may) (who:=k) (uh HP).smy (uh HSx) (uh HLp) (uh HAx)).mono ?_;rw [uh Hb];rintro e w7 ⟨rfl,hb⟩;replace kx:=bl kx hb;replace ko:=bl ko hb;replace kr:=bl kr hb;replace HO:=Z9 ((uh HO).below hb);replace HP:=Z9 ((uh HP).below hb);replace ks:=bl ks hb;replace BB:=bt BB hb;clear hb;by_cases hbn:b<0
 ·
  obtain ⟨x0,x1,x2,x3,x4,x5⟩:=(uh ko).c6;obtain ⟨o0,o1,o2,o3,o4,o5⟩:=(uh kr).c6;obtain ⟨f0,f1,f2,f3,f4,f5⟩:=(uh kr).f6;go_wp2_with fail;have hX0:X=(m,2):=by rw [<-uh HX];unfold Vz;rw [uh Hok,uh Hqw];simp only [if_true,Zy];rw [uh Hpb];simp only [if_true];rw [uh Hp0,uh Hq0];simp only [Bool.not_false,Bool.and_self,if_true];rw [uh Hb,if_pos hbn]
  exact ZS (v:= .tuple #[.agg (S6 b0 q0 b1 q1 b2 q2 b3 q3 b4 q4 m),.int .i64 2]) (by simp [results,Tryz.results27,go_sem, *]) rfl (Zb hX0 rfl (uh HO) (uh BB))
 obtain ⟨bb,hbb,rfl⟩:∃ bb:Nat,bb<m.dk.length/\b=(bb:Int):=by
  rcases XB (Xv m k may) (k:Int) with ⟨e,_⟩ | ⟨bb,hbl,e,_⟩
  ·rw [uh Hb] at e;omega
  ·exact ⟨bb,hbl,(uh Hb).symm.trans e⟩
 have hat:Z8 (Xv m k may).sm k=SG (Z8 m.sm k) may:=by
  show Z8 (m.sm.set k _) k=_;rw [ZF hk,if_pos rfl]
 go_wp2_with fail;have hofX:∀ k,Wa (.slice xa0 m.rm.length xp0) (.slice xa1 m.gd.length xp1) (.slice (some ⟨g2,0,none⟩) m.sm.length xp2) (.slice xa3 m.dk.length xp3) (.slice xa4 m.pc.length xp4) xq k->k ≠ xb:=fun k e=>by have:=(uh LX k e).2;omega
 refine (Ug (m:=Xv m k may) (k:=k) (bn:=bn) (b:=bb) (uh kx) (uh HP) (fun e=>hofX _ (.inr (.inr (.inr (.inl e)))) rfl) (fun e=>hofX _ (.inr (.inr (.inr (.inr (.inl e))))) rfl) (by show k<(m.sm.set k _).length;simp;omega) (by rw [hat,uh Hrk];rfl) hbnl hbb).mono ?_;rintro e w7 ⟨rfl,hf7,ht7⟩;rw [hat] at hf7;replace kx:=Z9 ((uh kx).two ht7 (fun e=>hofX _ (.inr (.inr (.inr (.inl e)))) rfl) (fun e=>hofX _ (.inr (.inr (.inr (.inr (.inl e))))) rfl));replace kr:=Z9 ((uh kr).two ht7 (fun e=>by have:=(uh LX _ (.inr (.inr (.inr (.inl e))))).1;omega) (fun e=>by have:=(uh LX _ (.inr (.inr (.inr (.inr (.inl e)))))).1;omega));replace BB:=Z9 ((uh BB).trans (ht7.below (uh BB).size (fun k e=>by have:=(uh LX k (.inr (.inr (.inr (.inl e))))).1;omega) (fun k e=>by have:=(uh LX k (.inr (.inr (.inr (.inr (.inl e)))))).1;omega)));replace HP:=Z9 hf7;clear hf7 ht7 hat hofX HO ko ks;go_wp2_with fail;refine (UX (m:=setS (Xv m k may) k (putS (Xv m k may) (SG (Z8 m.sm k) may) (bb:Int))) (uh kx) (uh HP) (fun k e=>by have:=(uh LX k e).2;omega) (uh kr) (uh BB) (by show ((m.sm.set k _).set k _).length<=800;have:=hfw.sm;simp;omega) hfw.dk).mono ?_;clear kr BB;rintro e w9 ⟨rfl,HF9,kr,BB⟩;obtain ⟨o0,o1,o2,o3,o4,o5⟩:=(uh kr).c6;obtain ⟨f0,f1,f2,f3,f4,f5⟩:=(uh kr).f6;go_wp2_with fail;have hX0:X=(ZM (setS (Xv m k may) k (putS (Xv m k may) (SG (Z8 m.sm k) may) (bb:Int))),0):=by rw [<-uh HX];unfold Vz;rw [uh Hok,uh Hqw];simp only [if_true,Zy];rw [uh Hpb];simp only [if_true];rw [uh Hp0,uh Hq0];simp only [Bool.not_false,Bool.and_self,if_true];rw [uh Hb,if_neg (by omega)]
 have hnow:(ZM (setS (Xv m k may) k (putS (Xv m k may) (SG (Z8 m.sm k) may) (bb:Int)))).now=m.now:=(ZH _ _).2.2.2.1;exact ZS (v:= .tuple #[.agg (S6 xa0 xp0 xa1 xp1 (some ⟨g2,0,none⟩) xp2 xa3 xp3 xa4 xp4 m),.int .i64 0]) (by simp [results,Tryz.results27,go_sem,setS,TK,Yb,pushS,Xv, *]) rfl (Zb hX0 hnow (uh HF9) (uh BB))
theorem N5  (who:Int) (lo:Int) (hi:Int) (h:Smy w v0 v1 v2 v3 v4 m) :
  Calls Tryz.prog 28 #[.agg #[v0,v1,v2,v3,v4,.int .i64 m.now],.int .i64 who,.int .i64 lo,.int .i64 hi] w fun e w'=>S5 w.heap.size (Uj m who lo hi).1 (Uj m who lo hi).2 e w'/\Below w.heap.size w w':=by
 obtain ⟨X,hX⟩:∃ x,Uj m who lo hi=x:=⟨_,rfl⟩
 rw [hX];have HX:=Z9 hX;clear hX;have Hv0:=Z9 h;obtain ⟨a0,p0,a1,p1,a2,p2,a3,p3,a4,p4,rfl,rfl,rfl,rfl,rfl,_,_,_,_,_,_,_,_,_,_⟩:=h.five;clear h;obtain ⟨ok,hok⟩:∃ q,ZJ m=q:=⟨_,rfl⟩
 have Hok:=Z9 hok;clear hok;go_enter Tryz.func28,Tryz.ntmps28;go_wp2_with fail;obtain ⟨W,hW,kb,kr,BB⟩:=YD w 32 (S6 a0 p0 a1 p1 a2 p2 a3 p3 a4 p4 m) 32 E6;have Hv:=Z9 ((uh Hv0).below (uh BB));clear Hv0;rw [hW];clear hW;refine ck (Xt (uh Hok) (uh Hv)) fun w1 hb=> ?_;replace kb:=bl kb hb;replace kr:=bl kr hb;replace Hv:=Z9 ((uh Hv).below hb);replace BB:=bt BB hb;clear hb;cases ok
 ·
  obtain ⟨c0,c1,c2,c3,c4,c5⟩:=(uh kb).c6;go_wp2_with fail;clear c0 c1 c2 c3 c4 c5;refine ck (XV (uh Hv)) fun w2 hb=> ?_;replace kb:=bl kb hb;replace kr:=bl kr hb;replace Hv:=Z9 ((uh Hv).below hb);replace BB:=bt BB hb;clear hb;obtain ⟨o0,o1,o2,o3,o4,o5⟩:=(uh kr).c6;obtain ⟨f0,f1,f2,f3,f4,f5⟩:=(uh kr).f6;go_wp2_with fail;have hX0:X=(Ye,3):=by rw [<-uh HX];unfold Uj;rw [uh Hok];rfl
  exact ZS (v:= .tuple #[.agg E6,.int .i64 3]) (by simp [results,Tryz.results28,go_sem, *]) rfl (Zb hX0 rfl (YM _ _) (uh BB))
 have hlo:=ZR (uh Hok);have HLo:=Z9 hlo;have HFew:=Z9 (Xn hlo);clear hlo;obtain ⟨c0,c1,c2,c3,c4,c5⟩:=(uh kb).c6;go_wp2_with fail;clear c0 c1 c2 c3 c4 c5;refine (T6 (uh Hv) (uh HFew) (uh kb) (uh kr) (uh BB)).mono ?_;clear kb kr Hv BB;rintro e w2 ⟨b0,q0,b1,q1,b2,q2,b3,q3,b4,q4,oq,rfl,W2,ob,hW2,hob2,kb,kr,Hv,HO,ko,LO,hob,BB⟩;go_upto_region 4 with fail
 (try rw [hW2])
 (try rw [hob2])
 clear hW2 hob2;obtain ⟨qw,hqw⟩:∃ q,WL m who=q:=⟨_,rfl⟩
 have Hqw:=Z9 hqw;clear hqw;obtain ⟨c0,c1,c2,c3,c4,c5⟩:=(uh kb).c6;go_wp2_with fail;clear c0 c1 c2 c3 c4 c5;refine ck (U8 (uh Hqw) (uh Hv)) fun w3 hb=> ?_;replace kb:=bl kb hb;replace kr:=bl kr hb;replace Hv:=Z9 ((uh Hv).below hb);replace HO:=Z9 ((uh HO).below hb);replace ko:=bl ko hb;replace BB:=bt BB hb;clear hb;cases qw
 ·
  obtain ⟨x0,x1,x2,x3,x4,x5⟩:=(uh ko).c6;obtain ⟨o0,o1,o2,o3,o4,o5⟩:=(uh kr).c6;obtain ⟨f0,f1,f2,f3,f4,f5⟩:=(uh kr).f6;go_wp2_with fail;have hX0:X=(m,1):=by rw [<-uh HX];unfold Uj;rw [uh Hok,uh Hqw];rfl
  exact ZS (v:= .tuple #[.agg (S6 b0 q0 b1 q1 b2 q2 b3 q3 b4 q4 m),.int .i64 1]) (by simp [results,Tryz.results28,go_sem, *]) rfl (Zb hX0 rfl (uh HO) (uh BB))
 obtain ⟨k,rfl,hk,hs0⟩:=XS (uh Hqw);have hk1:(k:Int)<(m.sm.length:Int):=by omega
 obtain ⟨pb,hpb⟩:∃ q,Ya lo hi=q:=⟨_,rfl⟩
 have Hpb:=Z9 hpb;clear hpb;go_wp2_with fail;refine (YF lo hi _).mono ?_;rw [uh Hpb];rintro e w9 ⟨rfl,hw9⟩;subst w9;cases pb
 ·
  obtain ⟨x0,x1,x2,x3,x4,x5⟩:=(uh ko).c6;obtain ⟨o0,o1,o2,o3,o4,o5⟩:=(uh kr).c6;obtain ⟨f0,f1,f2,f3,f4,f5⟩:=(uh kr).f6;go_wp2_with fail;have hX0:X=(m,3):=by rw [<-uh HX];unfold Uj;rw [uh Hok,uh Hqw];simp only [if_true];rw [uh Hpb];rfl
  exact ZS (v:= .tuple #[.agg (S6 b0 q0 b1 q1 b2 q2 b3 q3 b4 q4 m),.int .i64 3]) (by simp [results,Tryz.results28,go_sem, *]) rfl (Zb hX0 rfl (uh HO) (uh BB))
 obtain ⟨g2,hga,_,_,hc2,hz2⟩:=RecAt.view ZT (by omega) (uh HO).sm rfl (by omega);cases hga;have hg2o:=(uh LO g2 (.inr (.inr (.inr (.inl rfl)))))
 have x2:=(uh ko).cell (i:=2) (v:= .slice (some ⟨g2,0,none⟩) m.sm.length q2) rfl;have s0:=hc2 k hk 5 _ rfl;have f0:=hz2 (k*11+5);have hp0:=(uh HO).putS rfl (j:=k) (i:=5) hk (by omega) (.int .i64 lo) (((Z8 m.sm k).1,(Z8 m.sm k).2.1,(Z8 m.sm k).2.2.1,(Z8 m.sm k).2.2.2.1,(Z8 m.sm k).2.2.2.2.1,lo,(Z8 m.sm k).2.2.2.2.2.2)) rfl;have hl1:(m.sm.set k (((Z8 m.sm k).1,(Z8 m.sm k).2.1,(Z8 m.sm k).2.2.1,(Z8 m.sm k).2.2.2.1,(Z8 m.sm k).2.2.2.2.1,lo,(Z8 m.sm k).2.2.2.2.2.2))).length=m.sm.length:=by simp
 have hr1:Z8 (m.sm.set k (((Z8 m.sm k).1,(Z8 m.sm k).2.1,(Z8 m.sm k).2.2.1,(Z8 m.sm k).2.2.2.1,(Z8 m.sm k).2.2.2.2.1,lo,(Z8 m.sm k).2.2.2.2.2.2))) k=(((Z8 m.sm k).1,(Z8 m.sm k).2.1,(Z8 m.sm k).2.2.1,(Z8 m.sm k).2.2.2.1,(Z8 m.sm k).2.2.2.2.1,lo,(Z8 m.sm k).2.2.2.2.2.2)):=by rw [ZF hk,if_pos rfl]
 have hp1:=hp0.putS hl1.symm (j:=k) (i:=6) (by show k<(m.sm.set k _).length;omega) (by omega) (.int .i64 hi) (EI (Z8 m.sm k) lo hi) (by show ZU (EI (Z8 m.sm k) lo hi)=(ZU (Z8 (m.sm.set k (((Z8 m.sm k).1,(Z8 m.sm k).2.1,(Z8 m.sm k).2.2.1,(Z8 m.sm k).2.2.2.1,(Z8 m.sm k).2.2.2.2.1,lo,(Z8 m.sm k).2.2.2.2.2.2))) k)).set 6 _;rw [hr1];rfl);obtain ⟨_,hga,_,_,hd1,hy1⟩:=RecAt.view ZT (by omega) hp0.sm hl1.symm (by show 0<(m.sm.set k _).length;omega);cases hga;have s1:=hd1 k (by show k<(m.sm.set k _).length;omega) 6 _ rfl;have f1:=hy1 (k*11+6);simp only [List.set_set] at hp1;have x2':=((uh ko).other (a:=⟨g2,k*11+5,none⟩) (by show ob ≠ g2;omega) (.int .i64 lo)).cell (i:=2) (v:= .slice (some ⟨g2,0,none⟩) m.sm.length q2) rfl;have HP:=Z9 hp1;clear hc2 hz2 HO hp0 hp1;go_upto_region 10 with fail;clear s0 s1 f0 f1 x2;replace ko:Hid (Blk (((w3).setCell ⟨g2,k*11+5,none⟩ (.int .i64 lo)).setCell ⟨g2,k*11+6,none⟩ (.int .i64 hi)) ob 32 (S6 b0 q0 b1 q1 (some ⟨g2,0,none⟩) q2 b3 q3 b4 q4 m)):=Z9 (((uh ko).other (a:=⟨g2,k*11+5,none⟩) (by show ob ≠ g2;omega) (.int .i64 lo)).other (a:=⟨g2,k*11+6,none⟩) (by show ob ≠ g2;omega) (.int .i64 hi));replace kr:Hid (Blk (((w3).setCell ⟨g2,k*11+5,none⟩ (.int .i64 lo)).setCell ⟨g2,k*11+6,none⟩ (.int .i64 hi)) (w.heap.size+1) 32 E6):=Z9 (((uh kr).other (a:=⟨g2,k*11+5,none⟩) (by show w.heap.size+1 ≠ g2;omega) (.int .i64 lo)).other (a:=⟨g2,k*11+6,none⟩) (by show w.heap.size+1 ≠ g2;omega) (.int .i64 hi));replace BB:Hid (Below w.heap.size w (((w3).setCell ⟨g2,k*11+5,none⟩ (.int .i64 lo)).setCell ⟨g2,k*11+6,none⟩ (.int .i64 hi))):=Z9 (((uh BB).setCell (p:=⟨g2,k*11+5,none⟩) (by show w.heap.size<=g2;omega) (.int .i64 lo)).setCell (p:=⟨g2,k*11+6,none⟩) (by show w.heap.size<=g2;omega) (.int .i64 hi));clear kb Hv;generalize ((w3).setCell ⟨g2,k*11+5,none⟩ (.int .i64 lo)).setCell ⟨g2,k*11+6,none⟩ (.int .i64 hi)=W3 at *;have hfw:=uh HFew;go_wp2_with fail;refine (UX (m:=setS m k (EI (Z8 m.sm k) lo hi)) (uh ko) (uh HP) (fun k e=>by have:=(uh LO k e).2;omega) (uh kr) (uh BB) (by show (m.sm.set k _).length<=800;have:=hfw.sm;simp;omega) hfw.dk).mono ?_;clear kr BB;rintro e w4 ⟨rfl,HF9,kr,BB⟩;obtain ⟨o0,o1,o2,o3,o4,o5⟩:=(uh kr).c6;obtain ⟨f0,f1,f2,f3,f4,f5⟩:=(uh kr).f6;go_wp2_with fail;have hX0:X=(ZM (setS m k (EI (Z8 m.sm k) lo hi)),0):=by rw [<-uh HX];unfold Uj;rw [uh Hok,uh Hqw];simp only [if_true,Zy];rw [uh Hpb];rfl
 have hnow:(ZM (setS m k (EI (Z8 m.sm k) lo hi))).now=m.now:=(ZH _ _).2.2.2.1;exact ZS (v:= .tuple #[.agg (S6 b0 q0 b1 q1 (some ⟨g2,0,none⟩) q2 b3 q3 b4 q4 m),.int .i64 0]) (by simp [results,Tryz.results28,go_sem,setS,TK,Yb,pushS, *]) rfl (Zb hX0 hnow (uh HF9) (uh BB))
theorem O8 (h:Loose m):0<m.pc.length:=by
 rw [VV h];have hd:=h.head;unfold YA at hd;simp only [ZP,Y0] at hd;have:=(Zl hd.1).1;omega
theorem Ou {R n₀:Nat}  {qs:List (ZX × Value)} {nw:Int} (hn:m.now=nw) (kb:Blk w R 32 #[v0,v1,v2,v3,v4,.int .i64 nw]) (hf:FullSmy n₀ w v0 v1 v2 v3 v4 m qs) (h2:v2.ownBlock ≠ some R) (h3:v3.ownBlock ≠ some R) (hl:m.sm.length<=800) (hd:m.dk.length<=1000) :
  Calls Tryz.prog 51 #[.pointer (some ⟨R,0,none⟩)] w fun e w'=>e= .returned (.tuple #[.agg #[v0,v1,v2,v3,v4,.int .i64 nw],.int .i64 0])/\FullSmy n₀ w' v0 v1 v2 v3 v4 (ZM m) qs/\Two v2.ownBlock v3.ownBlock w w':=by
 subst hn;exact RF kb hf h2 h3 hl hd
theorem Ez  (h:Smy w v0 v1 v2 v3 v4 m) (hok:ZJ m=true) :
  Calls Tryz.prog 256 #[.agg #[v0,v1,v2,v3,v4,.int .i64 m.now]] w fun e w'=>S5 w.heap.size (D3 m) 0 e w'/\Below w.heap.size w w':=by
 obtain ⟨X,hX⟩:∃ x,D3 m=x:=⟨_,rfl⟩
 rw [hX];have HX:=Z9 hX;clear hX;have Hv0:=Z9 h;obtain ⟨a0,p0,a1,p1,a2,p2,a3,p3,a4,p4,rfl,rfl,rfl,rfl,rfl,_,_,_,_,_,_,_,_,_,_⟩:=h.five;clear h;have Hok:=Z9 hok;clear hok;go_enter Tryz.func256,Tryz.ntmps256;go_wp2_with fail;have kb:Hid (Blk ((w.alloc (.cells (S6 a0 p0 a1 p1 a2 p2 a3 p3 a4 p4 m) 32)).alloc (.cells E6 32)) w.heap.size 32 (S6 a0 p0 a1 p1 a2 p2 a3 p3 a4 p4 m)):=Z9 ((Blk.new w _ _).alloc _)
 have kr:Hid (Blk ((w.alloc (.cells (S6 a0 p0 a1 p1 a2 p2 a3 p3 a4 p4 m) 32)).alloc (.cells E6 32)) (w.heap.size+1) 32 E6):=Z9 (by
  have k:=Blk.new (w.alloc (.cells (S6 a0 p0 a1 p1 a2 p2 a3 p3 a4 p4 m) 32)) 32 E6;rw [Y1] at k
  exact k)
 have BB:Hid (Below w.heap.size w ((w.alloc (.cells (S6 a0 p0 a1 p1 a2 p2 a3 p3 a4 p4 m) 32)).alloc (.cells E6 32))):=Z9 (((ba _ _)).alloc (by simp) _);have Hv:=Z9 ((uh Hv0).below (uh BB));generalize (w.alloc (.cells (S6 a0 p0 a1 p1 a2 p2 a3 p3 a4 p4 m) 32)).alloc (.cells E6 32)=w1 at *;have hlo:=ZR (uh Hok);have HLo:=Z9 hlo;have HFew:=Z9 (Xn hlo);clear hlo;have hWs:w.heap.size+2<=w1.heap.size:=by have:=(uh kr).lt;omega
 refine (XR (uh Hv) (uh HFew)).mono ?_;rintro e w2 ⟨y0,y1,y2,y3,y4,oq,rfl,ho,hb⟩;have k9:=ho.smy;obtain ⟨b0,q0,b1,q1,b2,q2,b3,q3,b4,q4,rfl,rfl,rfl,rfl,rfl,_,_,_,_,_,_,_,_,_,_⟩:=k9.five;clear k9;replace kb:=bl kb hb;replace kr:=bl kr hb;replace Hv:=Z9 ((uh Hv).below hb);replace BB:=bt BB hb;have HO:=Z9 (ho.mono hWs);have LO:Hid (∀ k,Wa (.slice b0 m.rm.length q0) (.slice b1 m.gd.length q1) (.slice b2 m.sm.length q2) (.slice b3 m.dk.length q3) (.slice b4 m.pc.length q4) oq k->w.heap.size+2<=k/\k<w2.heap.size):=Z9 (fun k e=>(uh HO).own e);have hsz9:=hb.size;clear ho hb;go_upto_region 2 with fail;obtain ⟨W2,hW2,hba,ko⟩:=YP w2 32 (S6 b0 q0 b1 q1 b2 q2 b3 q3 b4 q4 m);replace kb:=bl kb hba;replace kr:=bl kr hba;replace Hv:=Z9 ((uh Hv).below hba);replace HO:=Z9 ((uh HO).below hba);replace BB:=bt BB hba;have hob:w.heap.size+2<=w2.heap.size:=XO hWs hsz9;clear hba hsz9 hWs;rw [hW2];clear hW2;generalize w2.heap.size=ob at *;have hpp:=O8 (uh HLo);have hpr:=VV (uh HLo);have HSn:=Z9 (uh HLo).sane;have hp9:=(uh HFew).pc;obtain ⟨g4,hga,_,hg4w,_,_⟩:=RecAt.view YE (by omega) (uh HO).pc rfl (by omega);cases hga;have hg4o:=(uh LO g4 (.inr (.inr (.inr (.inr (.inr rfl))))))
 have Hpr:=Z9 hpr;clear hpr hp9;go_wp2_with fail
 go_loopw [5] (fun i wr=> ∃ k:Nat,k<=m.pc.length/\i= .int .i64 k/\FullSmy (w.heap.size+2) wr (.slice b0 m.rm.length q0) (.slice b1 m.gd.length q1) (.slice b2 m.sm.length q2) (.slice b3 m.dk.length q3) (.slice (some ⟨g4,0,none⟩) m.pc.length q4) (Pu m k) oq/\Two none (some g4) W2 wr) (fun i _=>m.pc.length-(intOf i).toNat)
 case atStart=>exact ⟨0,Zz _,rfl,uh HO,Two.refl _ _ _⟩
 case round=>
  obtain ⟨k,hk,rfl,hf1,htw⟩:=hrel;have hbw:=(uh BB).trans (htw.below (uh BB).size (fun _ e=>by cases e) (fun j e=>by cases e;omega));have B1:=Z9 hbw;have Hv1:=Z9 ((uh Hv0).below hbw);have kb1:=Z9 ((uh kb).two htw (by simp) (fun e=>by cases e;omega));have ko1:=Z9 ((uh ko).two htw (by simp) (fun e=>by cases e;omega));have kr1:=Z9 ((uh kr).two htw (by simp) (fun e=>by cases e;omega));have HF1:=Z9 hf1;have Tw:=Z9 htw;clear hbw hf1 htw;by_cases hlt:k<m.pc.length
  ·
   obtain ⟨c0,c1,c2,c3,c4,c5⟩:=(uh kb1).c6;have x4:=(uh ko1).cell (i:=4) (v:= .slice (some ⟨g4,0,none⟩) m.pc.length q4) rfl;have hkp1:(k:Int)<(m.pc.length:Int):=by omega
   go_wp2_with fail;refine ZL (S:=fun w'=>w'.cell? ⟨w.heap.size,0,none⟩=some (.slice a0 m.rm.length p0)/\w'.cell? ⟨w.heap.size,1,none⟩=some (.slice a1 m.gd.length p1)/\w'.cell? ⟨w.heap.size,2,none⟩=some (.slice a2 m.sm.length p2)/\w'.cell? ⟨w.heap.size,3,none⟩=some (.slice a3 m.dk.length p3)/\w'.cell? ⟨w.heap.size,4,none⟩=some (.slice a4 m.pc.length p4)/\w'.cell? ⟨w.heap.size,5,none⟩=some (.int .i64 m.now)/\w'.cell? ⟨ob,4,none⟩=some (.slice (some ⟨g4,0,none⟩) m.pc.length q4)) (by kernel_rfl) (WU _ _) (by kernel_rfl) ⟨c0,c1,c2,c3,c4,c5,x4⟩ (fun hHeld=> ?_);clear c0 c1 c2 c3 c4 c5 x4;simp only [WV,WW,YQ,YC,Nat.zero_add,Nat.reduceAdd]
   iterate 5 refine tz ?_
   refine rd 5 rfl (fun K hK=> ?_);go_simp;refine ck (Lh (r:=k) ((uh Hv1).below (ZZ _ _).drew) (uh HSn) (by rw [<-uh Hpr];exact hlt)) fun w9 hb8=> ?_;have hb9:Below wr.heap.size wr w9:=(ZZ wr.heap.size wr).drew.trans hb8;clear hb8;have kb9:=(uh kb1).below hb9 (uh kb1).lt;have ko9:=(uh ko1).below hb9 (uh ko1).lt;refine hK.out _ _ ⟨kb9.cell (i:=0) rfl,kb9.cell (i:=1) rfl,kb9.cell (i:=2) rfl,kb9.cell (i:=3) rfl,kb9.cell (i:=4) rfl,kb9.cell (i:=5) rfl,ko9.cell (i:=4) rfl⟩ (fun hHeld=> ?_);clear hK K kb9 ko9
   (try simp only [Act.put,sA,sZ,sS])
   have HF9:=Z9 ((uh HF1).below hb9);have T9:=Z9 ((uh Tw).trans (Two.of_below hb9));have hal:m.pc.length=(Pu m k).pc.length:=(QU m k).2.2.2.2.2.symm;obtain ⟨_,hga,_,_,hc4,hz4⟩:=RecAt.view YE (by omega) (uh HF9).pc hal (by omega);cases hga;have s0:=hc4 k (by omega) 0 _ rfl;have f0:=hz4 k;have hput:=(uh HF9).putP hal (j:=k) (by omega) (SY m k);simp only [Nat.add_zero,Nat.mul_one] at s0;have HP:=Z9 hput;clear hc4 hz4 hput hb9 hal;refine tp 6 ?_;refine wpAnyH_done (by kernel_rfl) ?_ _;refine ZD rfl rfl ?_;go_simp;clear hHeld;go_wp2_with fail;go_roundw
   case rel=>exact ⟨k+1,by omega,by go_num,uh HP,(uh T9).trans (Two.of_set _ (.inr rfl) _ _)⟩
   case measure=>exact ms
  ·
   obtain rfl:k=m.pc.length:=by omega
   have c4:=(uh kb1).cell (i:=4) (v:= .slice a4 m.pc.length p4) rfl;have hno:¬ ((m.pc.length:Nat):Int)<(m.pc.length:Int):=by omega
   obtain ⟨e1,e2,e3,e4,e5,e6⟩:=QU m m.pc.length;have hfw:=uh HFew;go_wp2_with fail;have hofR:∀ k,Wa (.slice b0 m.rm.length q0) (.slice b1 m.gd.length q1) (.slice b2 m.sm.length q2) (.slice b3 m.dk.length q3) (.slice (some ⟨g4,0,none⟩) m.pc.length q4) oq k->k ≠ ob:=fun k e=>by have:=(uh LO k e).2;omega
   refine (Ou (m:=Pu m m.pc.length) e5 (uh ko1) (uh HF1) (fun e=>hofR _ (.inr (.inr (.inr (.inl e)))) rfl) (fun e=>hofR _ (.inr (.inr (.inr (.inr (.inl e))))) rfl) (by rw [e3];have:=hfw.sm;omega) (by rw [e4];exact hfw.dk)).mono ?_;rintro e w3 ⟨rfl,hf9,ht9⟩;replace kr:=Z9 ((uh kr1).two ht9 (fun e=>by have:=(uh LO _ (.inr (.inr (.inr (.inl e))))).1;omega) (fun e=>by have:=(uh LO _ (.inr (.inr (.inr (.inr (.inl e)))))).1;omega));replace BB:=Z9 ((uh B1).trans (ht9.below (uh B1).size (fun k e=>by have:=(uh LO k (.inr (.inr (.inr (.inl e))))).1;omega) (fun k e=>by have:=(uh LO k (.inr (.inr (.inr (.inr (.inl e)))))).1;omega)));have hnow:(ZM (Pu m m.pc.length)).now=m.now:=(ZH _ _).2.2.2.1.trans e5;have HF9:=Z9 hf9;have Hn9:=Z9 hnow;clear hf9 ht9 hofR e1 e2 e3 e4 e5 e6 hnow c4;obtain ⟨o0,o1,o2,o3,o4,o5⟩:=(uh kr).c6;obtain ⟨f0,f1,f2,f3,f4,f5⟩:=(uh kr).f6;go_wp2_with fail;refine ZS (v:= .tuple #[.agg (S6 b0 q0 b1 q1 b2 q2 b3 q3 (some ⟨g4,0,none⟩) q4 m),.int .i64 0]) (by simp [results,Tryz.results256,go_sem, *]) rfl ⟨?_,?_⟩
   ·rw [<-uh HX];refine ⟨_,_,_,_,_,oq,by unfold D3;rw [uh Hn9],?_⟩
    iterate 6 (refine FullSmy.set_off ?_ (fun k e=>by have:=(uh LO k e).1;omega) _ _)
    exact (uh HF9).mono (by omega)
   ·iterate 6 (refine YO ?_ (by show _<=w.heap.size+1;omega) _)
    exact uh BB
end Go.Proofs.YtamgfpdahadnfaaGreatDoor
