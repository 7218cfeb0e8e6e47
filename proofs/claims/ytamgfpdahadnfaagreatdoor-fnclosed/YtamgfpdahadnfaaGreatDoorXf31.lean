/- Part 31 of what the proof rests on. No condition but those that a theorem names. -/
import Derived.Test.YtamgfpdahadnfaaGreatDoorXf17
import Derived.Test.YtamgfpdahadnfaaGreatDoorXf26
set_option maxHeartbeats 8000000
set_option maxRecDepth 100000
namespace Go.Proofs.YtamgfpdahadnfaaGreatDoor
open Go.ChangeShapes Go.WideShapes Go.ChangeAt Go.RowKit Go.Sort
set_option linter.unusedVariables false
set_option linter.unusedSimpArgs false
variable {w w' w0 w1 w2 w3 w₀ wr W W' X A B C : World} {v v0 v1 v2 v3 v4 u u0 u1 u2 u3 u4 : Value} {m : Z6}
theorem FullSmy.pushS {n₀:Nat}  {qs:List (ZZ × Value)} {s:Z3} (h:FullSmy n₀ w v0 v1 v2 v3 v4 m qs) (hb:Below w.heap.size w w1) (hg:w1.grownBy w' v2.ownBlock) (hat:u.ownBlock=v2.ownBlock\/u.ownBlock=some w1.heap.size) (hr:SmithsAt n₀ w' u (m.sm++[s])):FullSmy n₀ w' v0 v1 u v3 v4 (pushS m s) qs:=by
 have hsz:=hb.size;have hk:∀ k,k<w.heap.size->v2.ownBlock ≠ some k->w'.heap[k]?=w.heap[k]?:=fun k hk hn=>(hg.block k (by omega) (Ne.symm hn)).trans (hb.block k hk)
 have hu:∀ {b:Nat},u.ownBlock=some b->v2.ownBlock=some b\/w.heap.size<=b:=fun {b} e=>by
  rcases hat with e' | e'
  ·exact .inl (e'.symm.trans e)
  ·right;rw [e'] at e;cases e;exact hsz
 refine ⟨h.hall.same2 fun k e=>hk k ?_ fun e'=> ?_,h.rm,RecAt.same h.gd fun k e=>hk k (RecAt.lt h.gd e).2 fun e'=>h.a12 k e e',hr,RecAt.same h.dk fun k e=>hk k (RecAt.lt h.dk e).2 fun e'=>h.a23 k e' e,RecAt.same h.pc fun k e=>hk k (RecAt.lt h.pc e).2 fun e'=>h.a24 k e' e,h.h1,⟨fun b e e'=> ?_,fun q hq b e e'=> ?_⟩,h.h3,h.h4,fun b e e'=> ?_,h.a13,h.a14,fun b e e'=> ?_,fun b e e'=> ?_,h.a34⟩
 ·exact (h.hall.lt e).2
 ·rcases e with e | ⟨q,hq,e⟩
  ·exact h.h2.1 k e' e
  ·exact h.h2.2 q hq k e' e
 ·rcases hu e with e2 | e2
  ·exact h.h2.1 b e2 e'
  ·have:=(h.hall.lt (.inl e')).2;omega
 ·rcases hu e with e2 | e2
  ·exact h.h2.2 q hq b e2 e'
  ·have:=(h.hall.lt (.inr ⟨q,hq,e'⟩)).2;omega
 ·rcases hu e' with e2 | e2
  ·exact h.a12 b e e2
  ·have:=(RecAt.lt h.gd e).2;omega
 ·rcases hu e with e2 | e2
  ·exact h.a23 b e2 e'
  ·have:=(RecAt.lt h.dk e').2;omega
 ·rcases hu e with e2 | e2
  ·exact h.a24 b e2 e'
  ·have:=(RecAt.lt h.pc e').2;omega
theorem JA  (rank:Int) (may:Int) (guild:Int) (h:Smy w v0 v1 v2 v3 v4 m) :
  Calls Tryz.prog 10 #[.agg #[v0,v1,v2,v3,v4,.int .i64 m.now],.int .i64 rank,.int .i64 may,.int .i64 guild] w fun e w'=>Ty w.heap.size (SZ m rank may guild).1 (SZ m rank may guild).2 e w'/\Below w.heap.size w w':=by
 obtain ⟨X,hX⟩:∃ x,SZ m rank may guild=x:=⟨_,rfl⟩
 rw [hX];have HX:=Z9 hX;clear hX;have Hv0:=Z9 h;obtain ⟨a0,p0,a1,p1,a2,p2,a3,p3,a4,p4,rfl,rfl,rfl,rfl,rfl,_,_,_,_,_,_,_,_,_,_⟩:=h.five;clear h;obtain ⟨ok,hok⟩:∃ q,ZF m=q:=⟨_,rfl⟩
 have Hok:=Z9 hok;clear hok;go_enter Tryz.func10,Tryz.ntmps10;go_wp2_with fail;obtain ⟨W,hW,kb,kr,BB⟩:=YB w 32 (S6 a0 p0 a1 p1 a2 p2 a3 p3 a4 p4 m) 32 E6;have Hv:=Z9 ((uh Hv0).below (uh BB));clear Hv0;rw [hW];clear hW;refine ck (Xx (uh Hok) (uh Hv)) fun w1 hb=> ?_;replace kb:=bl kb hb;replace kr:=bl kr hb;replace Hv:=Z9 ((uh Hv).below hb);replace BB:=bt BB hb;clear hb;cases ok
 ·
  obtain ⟨c0,c1,c2,c3,c4,c5⟩:=(uh kb).c6;go_wp2_with fail;clear c0 c1 c2 c3 c4 c5;refine ck (XT (uh Hv)) fun w2 hb=> ?_;replace kb:=bl kb hb;replace kr:=bl kr hb;replace Hv:=Z9 ((uh Hv).below hb);replace BB:=bt BB hb;clear hb;obtain ⟨o0,o1,o2,o3,o4,o5⟩:=(uh kr).c6;obtain ⟨f0,f1,f2,f3,f4,f5⟩:=(uh kr).f6;go_wp2_with fail;have hX0:X=(Yc,3):=by rw [<-uh HX];unfold SZ;rw [uh Hok];rfl
  exact ZQ (v:= .tuple #[.agg #[.slice none 0 0,.slice none 0 0,.slice none 0 0,.slice none 0 0,.slice none 0 0,.int .i64 0],.int .i64 3]) (by simp [results,Tryz.results10,go_sem, *]) rfl (Za hX0 rfl (Yq _ _) (uh BB))
 have hlo:=ZM (uh Hok);have HLo:=Z9 hlo;have HFew:=Z9 (WJ hlo);clear hlo;obtain ⟨c0,c1,c2,c3,c4,c5⟩:=(uh kb).c6;go_wp2_with fail;clear c0 c1 c2 c3 c4 c5;refine (T0 (uh Hv) (uh HFew) (uh kb) (uh kr) (uh BB)).mono ?_;clear kb kr Hv BB;rintro e w2 ⟨b0,q0,b1,q1,b2,q2,b3,q3,b4,q4,oq,rfl,W2,ob,hW2,hob2,kb,kr,Hv,HO,ko,LO,hob,BB⟩;go_upto_region 4 with fail
 (try rw [hW2])
 (try rw [hob2])
 clear hW2 hob2;go_upto_region 5 with fail;obtain ⟨W3,hW3,hba,ks⟩:=Yz W2 40 #[.int .i64 1,.int .i64 0,.int .i64 rank,.int .i64 may,.int .i64 guild,.int .i64 0,.int .i64 1024,.int .i64 0,.int .i64 0,.int .i64 0,.int .i64 0];replace kb:=bl kb hba;replace kr:=bl kr hba;replace Hv:=Z9 ((uh Hv).below hba);replace HO:=Z9 ((uh HO).below hba);replace ko:=bl ko hba;replace BB:=bt BB hba;clear hba;rw [hW3];clear hW3;generalize W2.heap.size=sv at *;obtain ⟨sk,hsk⟩:∃ q,Zs (Yd rank may guild)=q:=⟨_,rfl⟩
 have Hsk:=Z9 hsk;have Hsk2:Hid (Zs (1,0,rank,may,guild,0,1024,0,0,0,0)=sk):=Z9 hsk;clear hsk;obtain ⟨e0,e1,e2,e3,e4,e5,e6,e7,e8,e9,e10⟩:=(uh ks).c11;go_wp2_with fail;clear e0 e1 e2 e3 e4 e5 e6 e7 e8 e9 e10;refine (Zm 1 0 rank may guild 0 1024 0 0 0 0 _).mono ?_;rw [uh Hsk2];rintro e w3 ⟨rfl,hb⟩;replace kb:=bl kb hb;replace kr:=bl kr hb;replace Hv:=Z9 ((uh Hv).below hb);replace HO:=Z9 ((uh HO).below hb);replace ko:=bl ko hb;replace ks:=bl ks hb;replace BB:=bt BB hb;clear hb;cases sk
 ·
  obtain ⟨x0,x1,x2,x3,x4,x5⟩:=(uh ko).c6;obtain ⟨o0,o1,o2,o3,o4,o5⟩:=(uh kr).c6;obtain ⟨f0,f1,f2,f3,f4,f5⟩:=(uh kr).f6;go_wp2_with fail;have hX0:X=(m,3):=by rw [<-uh HX];unfold SZ;rw [uh Hok,uh Hsk];rfl
  exact ZQ (v:= .tuple #[.agg #[.slice b0 m.rm.length q0,.slice b1 m.gd.length q1,.slice b2 m.sm.length q2,.slice b3 m.dk.length q3,.slice b4 m.pc.length q4,.int .i64 m.now],.int .i64 3]) (by simp [results,Tryz.results10,go_sem, *]) rfl (Za hX0 rfl (uh HO) (uh BB))
 have hgl:=(uh HFew).gd;have c1:=(uh kb).cell (i:=1) (v:= .slice a1 m.gd.length p1) rfl;by_cases hg:guild<(m.gd.length:Int);rotate_left
 ·
  obtain ⟨x0,x1,x2,x3,x4,x5⟩:=(uh ko).c6;obtain ⟨o0,o1,o2,o3,o4,o5⟩:=(uh kr).c6;obtain ⟨f0,f1,f2,f3,f4,f5⟩:=(uh kr).f6;go_wp2_with fail;have hX0:X=(m,3):=by rw [<-uh HX];unfold SZ;rw [uh Hok,uh Hsk];simp only [if_true,Bool.true_and];rw [show decide (guild<(m.gd.length:Int))=false by simp;omega];rfl
  exact ZQ (v:= .tuple #[.agg #[.slice b0 m.rm.length q0,.slice b1 m.gd.length q1,.slice b2 m.sm.length q2,.slice b3 m.dk.length q3,.slice b4 m.pc.length q4,.int .i64 m.now],.int .i64 3]) (by simp [results,Tryz.results10,go_sem, *]) rfl (Za hX0 rfl (uh HO) (uh BB))
 have Hg:=Z9 hg;have c2:=(uh kb).cell (i:=2) (v:= .slice a2 m.sm.length p2) rfl;by_cases hl:m.sm.length=12
 ·
  have Hl:=Z9 hl;have hl1:((m.sm.length:Int) ==12)=true:=by rw [hl];rfl
  have hl2:decide ((m.sm.length:Int)=12)=true:=by rw [hl];rfl
  clear hl;obtain ⟨x0,x1,x2,x3,x4,x5⟩:=(uh ko).c6;obtain ⟨o0,o1,o2,o3,o4,o5⟩:=(uh kr).c6;obtain ⟨f0,f1,f2,f3,f4,f5⟩:=(uh kr).f6;go_wp2_with fail;have hX0:X=(m,4):=by rw [<-uh HX];unfold SZ;rw [uh Hok,uh Hsk];simp only [if_true,Bool.true_and];rw [show decide (guild<(m.gd.length:Int))=true from decide_eq_true (uh Hg)];simp only [if_true];rw [if_pos (uh Hl)]
  exact ZQ (v:= .tuple #[.agg #[.slice b0 m.rm.length q0,.slice b1 m.gd.length q1,.slice b2 m.sm.length q2,.slice b3 m.dk.length q3,.slice b4 m.pc.length q4,.int .i64 m.now],.int .i64 4]) (by simp [results,Tryz.results10,go_sem, *]) rfl (Za hX0 rfl (uh HO) (uh BB))
 have Hl:=Z9 hl;have hl0:¬ (m.sm.length:Int)=12:=by omega
 have hl1:((m.sm.length:Int) ==12)=false:=by simp [hl0]
 have hl2:decide ((m.sm.length:Int)=12)=false:=by simp [hl0]
 clear hl;obtain ⟨c0,c1,c2,c3,c4,c5⟩:=(uh kb).c6;go_wp2_with fail;clear c0 c1 c2 c3 c4 c5;have hobw:=(uh ko).lt;refine (XL (uh Hv) (uh HFew)).mono ?_;rintro e w4 ⟨y0,y1,y2,y3,y4,xq,rfl,ho,hb⟩;have k9:=ho.smy;obtain ⟨xa0,xp0,xa1,xp1,xa2,xp2,xa3,xp3,xa4,xp4,rfl,rfl,rfl,rfl,rfl,_,_,_,_,_,_,_,_,_,_⟩:=k9.five;clear k9;replace kb:=bl kb hb;replace kr:=bl kr hb;replace Hv:=Z9 ((uh Hv).below hb);replace HO:=Z9 ((uh HO).below hb);replace ko:=bl ko hb;replace ks:=bl ks hb;replace BB:=bt BB hb;have hszx:=hb.size;have HY:=Z9 (ho.mono (n₁:=w.heap.size+2) (by omega));have LX:Hid (∀ k,We (.slice xa0 m.rm.length xp0) (.slice xa1 m.gd.length xp1) (.slice xa2 m.sm.length xp2) (.slice xa3 m.dk.length xp3) (.slice xa4 m.pc.length xp4) xq k->ob+1<=k/\k<w4.heap.size):=Z9 (fun k e=>by have:=ho.own e;omega);have hxb:ob+1<=w4.heap.size:=by omega
 clear ho hb hobw hszx;go_upto_region 11 with fail;obtain ⟨W4,hW4,hba,kx⟩:=Yz w4 32 (S6 xa0 xp0 xa1 xp1 xa2 xp2 xa3 xp3 xa4 xp4 m);replace kb:=bl kb hba;replace kr:=bl kr hba;replace Hv:=Z9 ((uh Hv).below hba);replace HO:=Z9 ((uh HO).below hba);replace ko:=bl ko hba;replace ks:=bl ks hba;replace HY:=Z9 ((uh HY).below hba);replace BB:=bt BB hba;clear hba;rw [hW4];clear hW4;generalize w4.heap.size=xb at *;clear hl0 hl1 hl2 hg c1 c2
 have hx:Loose (pushS m (Yd rank may guild)):=by
  have h12:=YO (uh HLo)
  rcases GK (uh HLo) (uh Hsk) (uh Hg) with e | e
  ·exact e
  ·exact absurd (Nat.le_antisymm h12 e) (uh Hl)
 have hrn:Z8 (m.sm++[Yd rank may guild]) m.sm.length=Yd rank may guild:=by rw [Vu,if_pos rfl]
 have HAx:Hid (QG (pushS m (Yd rank may guild)) m.sm.length):=Z9 (P5 hx (by unfold pushS;simp) (by show (Z8 (m.sm++_) _).1 ≠ 0;rw [hrn];show (1:Int) ≠ 0;omega)).1;have HLx:=Z9 hx;obtain ⟨n1,hn1⟩:∃ n,n=m.sm.length+1:=⟨_,rfl⟩
 have Hn1:=Z9 hn1;have hn1n:m.sm.length<n1:=by omega
 have hnn:(m.sm.length:Int)<(n1:Int):=by omega
 clear hn1;have hsz4:w.heap.size+2<=W4.heap.size:=by have:=(uh kx).lt;omega
 clear hx;have x2:=(uh kx).cell (i:=2) (v:= .slice xa2 m.sm.length xp2) rfl;have fx:=(uh kx).free 2;obtain ⟨e0,e1,e2,e3,e4,e5,e6,e7,e8,e9,e10⟩:=(uh ks).c11;have hsl:=(uh HFew).sm;have hx2:∀ k,(Value.slice xa2 m.sm.length xp2).ownBlock=some k->k<xb:=fun k e=>(uh LX k (.inr (.inr (.inr (.inl e))))).2;go_upto_region 12 with (at_builtin;refine ZE tyS rfl (.tmp 50) (.tmp 52) 28 Tryz.underlying28 rfl (w.heap.size+2) _ _ m.sm [Yd rank may guild] rfl rfl (RecAt.later (uh HY).sm ((ba _ _))) (WB (Yd rank may guild) rfl (Z2 _) (by omega)) (by simp;omega) (by simp;omega) ?_;intro u9 w9 hp9 hg9 hat9;obtain ⟨a9,c9,hu9⟩:=RecAt.shape hp9;rw [show (m.sm++[Yd rank may guild]).length=n1 by rw [uh Hn1];simp] at hu9;subst hu9;have k9:=((uh kx).below ((Z1 _ _).alloc (Z2 _) (.cells #[.int .i64 1,.int .i64 0,.int .i64 rank,.int .i64 may,.int .i64 guild,.int .i64 0,.int .i64 1024,.int .i64 0,.int .i64 0,.int .i64 0,.int .i64 0] 40)) (uh kx).lt).same (hg9.block xb (by have:=(uh kx).lt;simp;omega) (fun e=>by have:=hx2 _ e.symm;omega));have o9:=k9.cell (i:=2) (v:= .slice xa2 m.sm.length xp2) rfl;have f9:=k9.free 2;have HP9:=Z9 hp9;have HG9:=Z9 hg9;have HT9:=Z9 hat9;clear hp9 hg9 hat9 k9)
 clear x2 fx o9 f9 e0 e1 e2 e3 e4 e5 e6 e7 e8 e9 e10;have hba:Below W4.heap.size W4 (W4.alloc (.cells #[.int .i64 1,.int .i64 0,.int .i64 rank,.int .i64 may,.int .i64 guild,.int .i64 0,.int .i64 1024,.int .i64 0,.int .i64 0,.int .i64 0,.int .i64 0] 40)):=ba _ _;have hP:=(uh HY).pushS hba (uh HG9) (uh HT9) (uh HP9);have hown:∀ k,k<W4.heap.size->(Value.slice xa2 m.sm.length xp2).ownBlock ≠ some k->w9.heap[k]?=W4.heap[k]?:=fun k hk hn=>((uh HG9).block k (by have:=hba.size;omega) (Ne.symm hn)).trans (hba.block k hk);have hx2o:∀ k,(Value.slice xa2 m.sm.length xp2).ownBlock=some k->ob+1<=k:=fun k e=>(uh LX k (.inr (.inr (.inr (.inl e))))).1;have hxbl:=(uh kx).lt
 have LX9:Hid (∀ k,We (.slice xa0 m.rm.length xp0) (.slice xa1 m.gd.length xp1) (.slice a9 n1 c9) (.slice xa3 m.dk.length xp3) (.slice xa4 m.pc.length xp4) xq k->ob+1<=k/\k ≠ xb):=Z9 (fun k e=>by
  rcases e with e | e | e | e | e | e
  ·have:=uh LX k (.inl e);omega
  ·have:=uh LX k (.inr (.inl e));omega
  ·have:=uh LX k (.inr (.inr (.inl e)));omega
  ·rcases uh HT9 with e' | e'
   ·have:=uh LX k (.inr (.inr (.inr (.inl (e'.symm.trans e)))));omega
   ·rw [e'] at e
    have e8:=Option.some.inj e;have:=hba.size;omega
  ·have:=uh LX k (.inr (.inr (.inr (.inr (.inl e)))));omega
  ·have:=uh LX k (.inr (.inr (.inr (.inr (.inr e)))));omega)
 replace kx:Hid (Blk (w9.setCell ⟨xb,2,none⟩ (.slice a9 n1 c9)) xb 32 #[.slice xa0 m.rm.length xp0,.slice xa1 m.gd.length xp1,.slice a9 n1 c9,.slice xa3 m.dk.length xp3,.slice xa4 m.pc.length xp4,.int .i64 m.now]):=Z9 (((uh kx).same (hown xb hxbl (fun e=>by have:=hx2 _ e;omega))).set 2 _);replace ko:Hid (Blk (w9.setCell ⟨xb,2,none⟩ (.slice a9 n1 c9)) ob 32 #[.slice b0 m.rm.length q0,.slice b1 m.gd.length q1,.slice b2 m.sm.length q2,.slice b3 m.dk.length q3,.slice b4 m.pc.length q4,.int .i64 m.now]):=Z9 (((uh ko).same (hown ob (uh ko).lt (fun e=>by have:=hx2o _ e;omega))).other (a:=⟨xb,2,none⟩) (by show ob ≠ xb;omega) _);replace kr:Hid (Blk (w9.setCell ⟨xb,2,none⟩ (.slice a9 n1 c9)) (w.heap.size+1) 32 #[.slice none 0 0,.slice none 0 0,.slice none 0 0,.slice none 0 0,.slice none 0 0,.int .i64 0]):=Z9 (((uh kr).same (hown (w.heap.size+1) (uh kr).lt (fun e=>by have:=hx2o _ e;omega))).other (a:=⟨xb,2,none⟩) (by show (w.heap.size+1) ≠ xb;omega) _);replace HO:Hid (FullSmy (w.heap.size+2) (w9.setCell ⟨xb,2,none⟩ (.slice a9 n1 c9)) (.slice b0 m.rm.length q0) (.slice b1 m.gd.length q1) (.slice b2 m.sm.length q2) (.slice b3 m.dk.length q3) (.slice b4 m.pc.length q4) m oq):=Z9 (((uh HO).keep (fun k e0=>hown k ((uh HO).own e0).2 (fun e=>by have:=hx2o k e;have:=(uh LO k e0).2;omega))).set_off (fun k e=>by have:=(uh LO k e).2;omega) _ _);have HP:Hid (FullSmy (w.heap.size+2) (w9.setCell ⟨xb,2,none⟩ (.slice a9 n1 c9)) (.slice xa0 m.rm.length xp0) (.slice xa1 m.gd.length xp1) (.slice a9 n1 c9) (.slice xa3 m.dk.length xp3) (.slice xa4 m.pc.length xp4) (pushS m (Yd rank may guild)) xq):=Z9 (hP.set_off (fun k e=>(uh LX9 k e).2) _ _);replace BB:Hid (Below w.heap.size w (w9.setCell ⟨xb,2,none⟩ (.slice a9 n1 c9))):=Z9 (((((uh BB).trans (hba.mono (uh BB).size)).trans ((Z1 _ _).grown (uh HG9) (by have:=hba.size;omega) (fun k e=>by have:=hx2o k e;omega)))).setCell (p:=⟨xb,2,none⟩) (by show w.heap.size<=xb;omega) _);clear LX HY HG9 HT9 HP9 hP hown hx2o hx2 hba hxbl kb Hv ks hsz4;have LX:=LX9;clear LX9;generalize w9.setCell ⟨xb,2,none⟩ (.slice a9 n1 c9)=W5 at *;have hl1:(m.sm++[Yd rank may guild]).length=n1:=by rw [uh Hn1];simp
 obtain ⟨g2,hga,_,_,_,_⟩:=RecAt.view ZT (by omega) (uh HP).sm hl1.symm (by show 0<(m.sm++[Yd rank may guild]).length;omega);cases hga;have hg2o:=(uh LX g2 (.inr (.inr (.inr (.inl rfl)))))
 obtain ⟨b,hb⟩:∃ q,LH m (Yd rank may guild)=q:=⟨_,rfl⟩
 have Hb:=Z9 hb;have Hb2:Hid (Y1 (pushS m (Yd rank may guild)) (m.sm.length:Int)=b):=Z9 hb;clear hb;obtain ⟨z0,z1,z2,z3,z4,z5⟩:=(uh kx).c6;go_wp2_with fail;clear z0 z1 z2 z3 z4 z5;refine (V8 (m:=pushS m (Yd rank may guild)) (who:=m.sm.length) (uh HP).smy (uh HLx).sane (Tl (uh HLx)) (uh HAx)).mono ?_;rw [uh Hb2];rintro e w5 ⟨rfl,hb⟩;replace kx:=bl kx hb;replace ko:=bl ko hb;replace kr:=bl kr hb;replace HO:=Z9 ((uh HO).below hb);replace HP:=Z9 ((uh HP).below hb);replace BB:=bt BB hb;clear hb;by_cases hbn:b<0
 ·
  obtain ⟨x0,x1,x2,x3,x4,x5⟩:=(uh ko).c6;obtain ⟨o0,o1,o2,o3,o4,o5⟩:=(uh kr).c6;obtain ⟨f0,f1,f2,f3,f4,f5⟩:=(uh kr).f6;go_wp2_with fail;have hX0:X=(m,2):=by rw [<-uh HX];unfold SZ;rw [uh Hok,uh Hsk];simp only [if_true,Bool.true_and];rw [show decide (guild<(m.gd.length:Int))=true from decide_eq_true (uh Hg)];simp only [if_true];rw [if_neg (uh Hl),uh Hb,if_pos hbn]
  exact ZQ (v:= .tuple #[.agg #[.slice b0 m.rm.length q0,.slice b1 m.gd.length q1,.slice b2 m.sm.length q2,.slice b3 m.dk.length q3,.slice b4 m.pc.length q4,.int .i64 m.now],.int .i64 2]) (by simp [results,Tryz.results10,go_sem, *]) rfl (Za hX0 rfl (uh HO) (uh BB))
 obtain ⟨bb,hbb,rfl⟩:∃ bb:Nat,bb<m.dk.length/\b=(bb:Int):=by
  rcases VR (pushS m (Yd rank may guild)) (m.sm.length:Int) with ⟨e,_⟩ | ⟨bb,hbl,e,_⟩
  ·rw [uh Hb2] at e;omega
  ·exact ⟨bb,hbl,(uh Hb2).symm.trans e⟩
 go_wp2_with fail;have hofX:∀ k,We (.slice xa0 m.rm.length xp0) (.slice xa1 m.gd.length xp1) (.slice (some ⟨g2,0,none⟩) n1 c9) (.slice xa3 m.dk.length xp3) (.slice xa4 m.pc.length xp4) xq k->k ≠ xb:=fun k e=>by have:=(uh LX k e).2;omega
 refine (Mq (m:=pushS m (Yd rank may guild)) (k:=m.sm.length) (uh kx) (uh HP) (fun e=>hofX _ (.inr (.inr (.inr (.inl e)))) rfl) (fun e=>hofX _ (.inr (.inr (.inr (.inr (.inl e))))) rfl) (by show m.sm.length<(m.sm++[Yd rank may guild]).length;omega) (bb:Int)).mono ?_;rintro e w7 ⟨rfl,hf7,ht7⟩
 have hW:((2,(bb:Int),(Z8 (pushS m (Yd rank may guild)).sm m.sm.length).2.2):Z3)=(2,(bb:Int),rank,may,guild,0,1024,0,0,0,0):=by
  show ((2,(bb:Int),(Z8 (m.sm++[Yd rank may guild]) m.sm.length).2.2):Z3)=_;rw [hrn];rfl
 rw [hW] at hf7;replace kx:=Z9 ((uh kx).two ht7 (fun e=>hofX _ (.inr (.inr (.inr (.inl e)))) rfl) (fun e=>hofX _ (.inr (.inr (.inr (.inr (.inl e))))) rfl));replace kr:=Z9 ((uh kr).two ht7 (fun e=>by have:=(uh LX _ (.inr (.inr (.inr (.inl e))))).1;omega) (fun e=>by have:=(uh LX _ (.inr (.inr (.inr (.inr (.inl e)))))).1;omega));replace BB:=Z9 ((uh BB).trans (ht7.below (uh BB).size (fun k e=>by have:=(uh LX k (.inr (.inr (.inr (.inl e))))).1;omega) (fun k e=>by have:=(uh LX k (.inr (.inr (.inr (.inr (.inl e)))))).1;omega)));replace HP:=Z9 hf7;clear hf7 ht7 hW hofX HO ko;obtain ⟨mk,hmk⟩:∃ q,(Z8 m.dk bb).2.2=q:=⟨_,rfl⟩
 have Hmk:Hid (YJ m (bb:Int)=mk):=Z9 (by unfold YJ;simpa using hmk);obtain ⟨g3,hga,_,_,hc3,_⟩:=RecAt.view ZH (by omega) (uh HP).dk rfl (by show 0<m.dk.length;omega);cases hga;have d2:=hc3 bb hbb 2 (.int .i64 mk) (by rw [<-hmk];rfl);clear hc3 hmk;have hl2:((m.sm++[Yd rank may guild]).set m.sm.length ((2:Int),(bb:Int),rank,may,guild,(0:Int),(1024:Int),(0:Int),(0:Int),(0:Int),(0:Int))).length=n1:=by rw [V5];exact hl1
 obtain ⟨_,hga,_,_,hc2,hz2⟩:=RecAt.view ZT (by omega) (uh HP).sm hl2.symm (by show 0<((m.sm++[Yd rank may guild]).set m.sm.length _).length;omega);cases hga;have hr2:Z8 ((m.sm++[Yd rank may guild]).set m.sm.length ((2:Int),(bb:Int),rank,may,guild,(0:Int),(1024:Int),(0:Int),(0:Int),(0:Int),(0:Int))) m.sm.length=((2:Int),(bb:Int),rank,may,guild,(0:Int),(1024:Int),(0:Int),(0:Int),(0:Int),(0:Int)):=by rw [ZI (by omega),if_pos rfl]
 have s7:=hc2 m.sm.length (by show m.sm.length<((m.sm++[Yd rank may guild]).set m.sm.length _).length;omega) 7 (.int .i64 0) (by show (ZV (Z8 ((m.sm++[Yd rank may guild]).set m.sm.length ((2:Int),(bb:Int),rank,may,guild,(0:Int),(1024:Int),(0:Int),(0:Int),(0:Int),(0:Int))) m.sm.length))[7]?=_;rw [hr2];rfl);have f7:=hz2 (m.sm.length*11+7);have hput:=(uh HP).putS hl2.symm (j:=m.sm.length) (i:=7) (by show m.sm.length<((m.sm++[Yd rank may guild]).set m.sm.length _).length;omega) (by omega) (.int .i64 mk) (QE (Yd rank may guild) (bb:Int) mk) (by show ZV _=(ZV (Z8 ((m.sm++[Yd rank may guild]).set m.sm.length ((2:Int),(bb:Int),rank,may,guild,(0:Int),(1024:Int),(0:Int),(0:Int),(0:Int),(0:Int))) m.sm.length)).set 7 _;rw [hr2];rfl);simp only [setS,List.set_set] at hput;have HQ:Hid (FullSmy (w.heap.size+2) (w7.setCell ⟨g2,m.sm.length*11+7,none⟩ (.int .i64 mk)) (.slice xa0 m.rm.length xp0) (.slice xa1 m.gd.length xp1) (.slice (some ⟨g2,0,none⟩) n1 c9) (.slice (some ⟨g3,0,none⟩) m.dk.length xp3) (.slice xa4 m.pc.length xp4) (setS (pushS m (Yd rank may guild)) m.sm.length (QE (Yd rank may guild) (bb:Int) mk)) xq):=Z9 hput;clear hput hc2 hz2 hr2 hl2;have x2:=(uh kx).cell (i:=2) (v:= .slice (some ⟨g2,0,none⟩) n1 c9) rfl;have x3:=(uh kx).cell (i:=3) (v:= .slice (some ⟨g3,0,none⟩) m.dk.length xp3) rfl;have hbb2:(bb:Int)<(m.dk.length:Int):=by omega
 go_wp2_with fail;refine ZS (S:=fun w'=>w'.cell? ⟨xb,2,none⟩=some (.slice (some ⟨g2,0,none⟩) n1 c9)/\w'.cell? ⟨xb,3,none⟩=some (.slice (some ⟨g3,0,none⟩) m.dk.length xp3)/\w'.cell? ⟨g3,bb*3+2,none⟩=some (.int .i64 mk)) (by kernel_rfl) (XM _ _) (by kernel_rfl) ⟨x2,x3,d2⟩ (fun hHeld=> ?_);simp only [XN,XO,Y4,YQ,Nat.zero_add,Nat.reduceAdd]
 iterate 11 refine tz ?_
 refine wpAnyH_done (by kernel_rfl) ?_ _;refine ZK rfl rfl ?_;go_simp;clear hHeld x2 x3 d2 s7 f7;go_wp2_with fail;replace kx:Hid (Blk ((w7.setCell ⟨g2,m.sm.length*11+7,none⟩ (.int .i64 mk)).drew) xb 32 #[.slice xa0 m.rm.length xp0,.slice xa1 m.gd.length xp1,.slice (some ⟨g2,0,none⟩) n1 c9,.slice (some ⟨g3,0,none⟩) m.dk.length xp3,.slice xa4 m.pc.length xp4,.int .i64 m.now]):=Z9 (((uh kx).other (a:=⟨g2,m.sm.length*11+7,none⟩) (by show xb ≠ g2;omega) (.int .i64 mk)).below (Z1 _ _).drew ((uh kx).other (a:=⟨g2,m.sm.length*11+7,none⟩) (by show xb ≠ g2;omega) (.int .i64 mk)).lt);replace kr:Hid (Blk ((w7.setCell ⟨g2,m.sm.length*11+7,none⟩ (.int .i64 mk)).drew) (w.heap.size+1) 32 #[.slice none 0 0,.slice none 0 0,.slice none 0 0,.slice none 0 0,.slice none 0 0,.int .i64 0]):=Z9 (((uh kr).other (a:=⟨g2,m.sm.length*11+7,none⟩) (by show (w.heap.size+1) ≠ g2;omega) (.int .i64 mk)).below (Z1 _ _).drew ((uh kr).other (a:=⟨g2,m.sm.length*11+7,none⟩) (by show (w.heap.size+1) ≠ g2;omega) (.int .i64 mk)).lt);replace BB:Hid (Below w.heap.size w ((w7.setCell ⟨g2,m.sm.length*11+7,none⟩ (.int .i64 mk)).drew)):=Z9 ((uh BB).setCell (p:=⟨g2,m.sm.length*11+7,none⟩) (by show w.heap.size<=g2;omega) (.int .i64 mk)).drew;replace HP:=Z9 ((uh HQ).below (Z1 _ _).drew);clear HQ;generalize (w7.setCell ⟨g2,m.sm.length*11+7,none⟩ (.int .i64 mk)).drew=W8 at *;have hfw:=uh HFew;refine (UR (m:=setS (pushS m (Yd rank may guild)) m.sm.length (QE (Yd rank may guild) (bb:Int) mk)) (uh kx) (uh HP) (fun k e=>by have:=(uh LX k e).2;omega) (uh kr) (uh BB) (by show ((m.sm++[Yd rank may guild]).set m.sm.length _).length<=800;have:=YO (uh HLo);simp;omega) hfw.dk).mono ?_;clear kr BB;rintro e w9 ⟨rfl,HF9,kr,BB⟩;obtain ⟨o0,o1,o2,o3,o4,o5⟩:=(uh kr).c6;obtain ⟨f0,f1,f2,f3,f4,f5⟩:=(uh kr).f6;go_wp2_with fail;have hX0:X=(ZP (setS (pushS m (Yd rank may guild)) m.sm.length (QE (Yd rank may guild) (bb:Int) mk)),0):=by rw [<-uh HX];unfold SZ;rw [uh Hok,uh Hsk];simp only [if_true,Bool.true_and];rw [show decide (guild<(m.gd.length:Int))=true from decide_eq_true (uh Hg)];simp only [if_true];rw [if_neg (uh Hl),uh Hb,if_neg (by omega),uh Hmk]
 have hnow:(ZP (setS (pushS m (Yd rank may guild)) m.sm.length (QE (Yd rank may guild) (bb:Int) mk))).now=m.now:=(ZG _ _).2.2.2.1;exact ZQ (v:= .tuple #[.agg #[.slice xa0 m.rm.length xp0,.slice xa1 m.gd.length xp1,.slice (some ⟨g2,0,none⟩) n1 c9,.slice (some ⟨g3,0,none⟩) m.dk.length xp3,.slice xa4 m.pc.length xp4,.int .i64 m.now],.int .i64 0]) (by simp [results,Tryz.results10,go_sem,setS,TH,Zk,pushS, *]) rfl (Za hX0 hnow (uh HF9) (uh BB))
theorem M6  (who:Int) (rank:Int) (h:Smy w v0 v1 v2 v3 v4 m) :
  Calls Tryz.prog 26 #[.agg #[v0,v1,v2,v3,v4,.int .i64 m.now],.int .i64 who,.int .i64 rank] w fun e w'=>Ty w.heap.size (Uo m who rank).1 (Uo m who rank).2 e w'/\Below w.heap.size w w':=by
 obtain ⟨X,hX⟩:∃ x,Uo m who rank=x:=⟨_,rfl⟩
 rw [hX];have HX:=Z9 hX;clear hX;have Hv0:=Z9 h;obtain ⟨a0,p0,a1,p1,a2,p2,a3,p3,a4,p4,rfl,rfl,rfl,rfl,rfl,_,_,_,_,_,_,_,_,_,_⟩:=h.five;clear h;obtain ⟨ok,hok⟩:∃ q,ZF m=q:=⟨_,rfl⟩
 have Hok:=Z9 hok;clear hok;go_enter Tryz.func26,Tryz.ntmps26;go_wp2_with fail;obtain ⟨W,hW,kb,kr,BB⟩:=YB w 32 (S6 a0 p0 a1 p1 a2 p2 a3 p3 a4 p4 m) 32 E6;have Hv:=Z9 ((uh Hv0).below (uh BB));clear Hv0;rw [hW];clear hW;refine ck (Xx (uh Hok) (uh Hv)) fun w1 hb=> ?_;replace kb:=bl kb hb;replace kr:=bl kr hb;replace Hv:=Z9 ((uh Hv).below hb);replace BB:=bt BB hb;clear hb;cases ok
 ·
  obtain ⟨c0,c1,c2,c3,c4,c5⟩:=(uh kb).c6;go_wp2_with fail;clear c0 c1 c2 c3 c4 c5;refine ck (XT (uh Hv)) fun w2 hb=> ?_;replace kb:=bl kb hb;replace kr:=bl kr hb;replace Hv:=Z9 ((uh Hv).below hb);replace BB:=bt BB hb;clear hb;obtain ⟨o0,o1,o2,o3,o4,o5⟩:=(uh kr).c6;obtain ⟨f0,f1,f2,f3,f4,f5⟩:=(uh kr).f6;go_wp2_with fail;have hX0:X=(Yc,3):=by rw [<-uh HX];unfold Uo;rw [uh Hok];rfl
  exact ZQ (v:= .tuple #[.agg E6,.int .i64 3]) (by simp [results,Tryz.results26,go_sem, *]) rfl (Za hX0 rfl (Yq _ _) (uh BB))
 have hlo:=ZM (uh Hok);have HLo:=Z9 hlo;have HFew:=Z9 (WJ hlo);clear hlo;obtain ⟨c0,c1,c2,c3,c4,c5⟩:=(uh kb).c6;go_wp2_with fail;clear c0 c1 c2 c3 c4 c5;refine (T0 (uh Hv) (uh HFew) (uh kb) (uh kr) (uh BB)).mono ?_;clear kb kr Hv BB;rintro e w2 ⟨b0,q0,b1,q1,b2,q2,b3,q3,b4,q4,oq,rfl,W2,ob,hW2,hob2,kb,kr,Hv,HO,ko,LO,hob,BB⟩;go_upto_region 4 with fail
 (try rw [hW2])
 (try rw [hob2])
 clear hW2 hob2;obtain ⟨qw,hqw⟩:∃ q,TJ m who=q:=⟨_,rfl⟩
 have Hqw:=Z9 hqw;clear hqw;obtain ⟨c0,c1,c2,c3,c4,c5⟩:=(uh kb).c6;go_wp2_with fail;clear c0 c1 c2 c3 c4 c5;refine ck (Ue (uh Hqw) (uh Hv)) fun w3 hb=> ?_;replace kb:=bl kb hb;replace kr:=bl kr hb;replace Hv:=Z9 ((uh Hv).below hb);replace HO:=Z9 ((uh HO).below hb);replace ko:=bl ko hb;replace BB:=bt BB hb;clear hb;cases qw
 ·
  obtain ⟨x0,x1,x2,x3,x4,x5⟩:=(uh ko).c6;obtain ⟨o0,o1,o2,o3,o4,o5⟩:=(uh kr).c6;obtain ⟨f0,f1,f2,f3,f4,f5⟩:=(uh kr).f6;go_wp2_with fail;have hX0:X=(m,1):=by rw [<-uh HX];unfold Uo;rw [uh Hok,uh Hqw];rfl
  exact ZQ (v:= .tuple #[.agg (S6 b0 q0 b1 q1 b2 q2 b3 q3 b4 q4 m),.int .i64 1]) (by simp [results,Tryz.results26,go_sem, *]) rfl (Za hX0 rfl (uh HO) (uh BB))
 obtain ⟨k,rfl,hk,hs0⟩:=Wr (uh Hqw);have hk1:(k:Int)<(m.sm.length:Int):=by omega
 obtain ⟨_,_,hse,_,_,r2⟩:=(uh Hv).sm;cases hse
 rcases r2 with e0 | ⟨sb,off,rfl,hbw,hcl⟩
 ·rw [e0] at hk;simp at hk
 obtain ⟨d0,d1,d2,d3,d4,d5,d6,d7,d8,d9,d10⟩:=Zx hcl hk;clear hcl;obtain ⟨⟨⟨t0,t1,t2,t3,t4,t5,t6,t7,t8,t9,t10⟩,iq⟩,hre⟩:∃ q,XH (Z8 m.sm k) rank=q:=⟨_,rfl⟩
 have Hre:=Z9 hre;obtain ⟨⟨st,be,rk,my,gu,lo,hi,hd,ca,ut,wk⟩,hrk⟩:∃ d,Z8 m.sm k=d:=⟨_,rfl⟩
 rw [hrk] at d0 d1 d2 d3 d4 d5 d6 d7 d8 d9 d10 hre;simp only at d0 d1 d2 d3 d4 d5 d6 d7 d8 d9 d10;have c2:=(uh kb).cell (i:=2) (v:= .slice (some ⟨sb,off,none⟩) m.sm.length p2) rfl;have Hr2:=Z9 hre;clear hre;go_wp2_with fail;refine ck (M7 (uh Hr2) _) fun w4 hb=> ?_;replace kb:=bl kb hb;replace kr:=bl kr hb;replace Hv:=Z9 ((uh Hv).below hb);replace HO:=Z9 ((uh HO).below hb);replace ko:=bl ko hb;replace BB:=bt BB hb;clear hb d0 d1 d2 d3 d4 d5 d6 d7 d8 d9 d10 c2;simp only [ZV];go_upto_region 7 with fail;obtain ⟨W5,hW5,hba,ks⟩:=Yz w4 40 (I11 t0 t1 t2 t3 t4 t5 t6 t7 t8 t9 t10);replace kb:=bl kb hba;replace kr:=bl kr hba;replace Hv:=Z9 ((uh Hv).below hba);replace HO:=Z9 ((uh HO).below hba);replace ko:=bl ko hba;replace BB:=bt BB hba;clear hba;rw [hW5];clear hW5;generalize w4.heap.size=sb5 at *;cases iq
 ·
  obtain ⟨x0,x1,x2,x3,x4,x5⟩:=(uh ko).c6;obtain ⟨o0,o1,o2,o3,o4,o5⟩:=(uh kr).c6;obtain ⟨f0,f1,f2,f3,f4,f5⟩:=(uh kr).f6;go_wp2_with fail;have hX0:X=(m,3):=by rw [<-uh HX];unfold Uo;rw [uh Hok,uh Hqw];simp only [if_true,Zy];rw [uh Hre];rfl
  exact ZQ (v:= .tuple #[.agg (S6 b0 q0 b1 q1 b2 q2 b3 q3 b4 q4 m),.int .i64 3]) (by simp [results,Tryz.results26,go_sem, *]) rfl (Za hX0 rfl (uh HO) (uh BB))
 obtain ⟨z0,z1,z2,z3,z4,z5,z6,z7,z8,z9,z10⟩:=(uh ks).c11;obtain ⟨g2,hga,_,_,hc2,hz2⟩:=RecAt.view ZT (by omega) (uh HO).sm rfl (by omega);cases hga;have hg2o:=(uh LO g2 (.inr (.inr (.inr (.inl rfl)))))
 have x2:=(uh ko).cell (i:=2) (v:= .slice (some ⟨g2,0,none⟩) m.sm.length q2) rfl;obtain ⟨s0,s1,s2,s3,s4,s5,s6,s7,s8,s9,s10⟩:=AS (hc2 k hk);obtain ⟨g0,g1,g2,g3,g4,g5,g6,g7,g8,g9,g10⟩:=zY hz2 (k*11);simp only [Nat.add_zero] at s0 g0;have HP:=Z9 ((uh HO).putW rfl hk (t0,t1,t2,t3,t4,t5,t6,t7,t8,t9,t10));clear hc2 hz2 HO;go_upto_region 10 with fail;clear x2 s0 g0 s1 g1 s2 g2 s3 g3 s4 g4 s5 g5 s6 g6 s7 g7 s8 g8 s9 g9 s10 g10;rw [AX];replace ko:=MR (g:=g2) (by omega) (ZV (t0,t1,t2,t3,t4,t5,t6,t7,t8,t9,t10)) (o:=k*11) ko;replace kr:=MR (g:=g2) (by omega) (ZV (t0,t1,t2,t3,t4,t5,t6,t7,t8,t9,t10)) (o:=k*11) kr;replace BB:=EZ (g:=g2) (by omega) (ZV (t0,t1,t2,t3,t4,t5,t6,t7,t8,t9,t10)) (o:=k*11) BB;clear kb Hv;generalize PK W5 g2 (k*11) (ZV (t0,t1,t2,t3,t4,t5,t6,t7,t8,t9,t10))=W3 at *;have hfw:=uh HFew;go_wp2_with fail;refine (UR (m:=setS m k (t0,t1,t2,t3,t4,t5,t6,t7,t8,t9,t10)) (uh ko) (uh HP) (fun k e=>by have:=(uh LO k e).2;omega) (uh kr) (uh BB) (by show (m.sm.set k _).length<=800;have:=hfw.sm;simp;omega) hfw.dk).mono ?_;clear kr BB;rintro e w5 ⟨rfl,HF9,kr,BB⟩;obtain ⟨o0,o1,o2,o3,o4,o5⟩:=(uh kr).c6;obtain ⟨f0,f1,f2,f3,f4,f5⟩:=(uh kr).f6;go_wp2_with fail;have hX0:X=(ZP (setS m k (t0,t1,t2,t3,t4,t5,t6,t7,t8,t9,t10)),0):=by rw [<-uh HX];unfold Uo;rw [uh Hok,uh Hqw];simp only [if_true,Zy];rw [uh Hre];rfl
 have hnow:(ZP (setS m k (t0,t1,t2,t3,t4,t5,t6,t7,t8,t9,t10))).now=m.now:=(ZG _ _).2.2.2.1;exact ZQ (v:= .tuple #[.agg (S6 b0 q0 b1 q1 (some ⟨g2,0,none⟩) q2 b3 q3 b4 q4 m),.int .i64 0]) (by simp [results,Tryz.results26,go_sem,setS,TH,Zk,pushS, *]) rfl (Za hX0 hnow (uh HF9) (uh BB))
end Go.Proofs.YtamgfpdahadnfaaGreatDoor
