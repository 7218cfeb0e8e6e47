/- Part 34 of what the proof rests on. No condition but those that a theorem names. -/
import Derived.Test.YtffcgajndmhpkaaGreatDoorXw18
set_option maxHeartbeats 8000000
set_option maxRecDepth 100000
namespace Go.Proofs.YtffcgajndmhpkaaGreatDoor
open Go.ChangeShapes Go.WideShapes Go.ChangeAt Go.RowKit Go.Sort
set_option linter.unusedVariables false
set_option linter.unusedSimpArgs false
variable {w w' w0 w1 w2 w3 w₀ wr W W' X A B C : World} {v v0 v1 v2 v3 v4 u u0 u1 u2 u3 u4 : Value} {m : Z4}
theorem FullSmy.pushS {n₀:Nat}  {qs:List (Z2 × Value)} {s:Z3} (h:FullSmy n₀ w v0 v1 v2 v3 v4 m qs) (hb:Below w.heap.size w w1) (hg:w1.grownBy w' v2.ownBlock) (hat:u.ownBlock=v2.ownBlock\/u.ownBlock=some w1.heap.size) (hr:SmithsAt n₀ w' u (m.smiths++[s])):FullSmy n₀ w' v0 v1 u v3 v4 (pushS m s) qs:=by
 have hsz:=hb.size
 have hk:∀ k,k<w.heap.size->v2.ownBlock ≠ some k->w'.heap[k]?=w.heap[k]?:=fun k hk hn=>(hg.block k (by omega) (Ne.symm hn)).trans (hb.block k hk)
 have hu:∀ {b:Nat},u.ownBlock=some b->v2.ownBlock=some b\/w.heap.size<=b:=fun {b} e=>by
  rcases hat with e' | e'
  ·exact .inl (e'.symm.trans e)
  ·right;rw [e'] at e;cases e;exact hsz
 refine ⟨h.hall.same2 fun k e=>hk k ?_ fun e'=> ?_,h.rooms,RecAt.same h.guilds fun k e=>hk k (RecAt.lt h.guilds e).2 fun e'=>h.a12 k e e',hr,RecAt.same h.desks fun k e=>hk k (RecAt.lt h.desks e).2 fun e'=>h.a23 k e' e,RecAt.same h.paces fun k e=>hk k (RecAt.lt h.paces e).2 fun e'=>h.a24 k e' e,h.h1,⟨fun b e e'=> ?_,fun q hq b e e'=> ?_⟩,h.h3,h.h4,fun b e e'=> ?_,h.a13,h.a14,fun b e e'=> ?_,fun b e e'=> ?_,h.a34⟩
 ·exact (h.hall.lt e).2
 ·rcases e with e | ⟨q,hq,e⟩
  ·exact h.h2.1 k e' e
  ·exact h.h2.2 q hq k e' e
 ·rcases hu e with e2 | e2
  ·exact h.h2.1 b e2 e'
  ·have:=(h.hall.lt (.inl e')).2;omega
 ·rcases hu e with e2 | e2
  ·exact h.h2.2 q hq b e2 e'
  ·have:=(h.hall.lt (.inr ⟨q,hq,e'⟩)).2;omega
 ·rcases hu e' with e2 | e2
  ·exact h.a12 b e e2
  ·have:=(RecAt.lt h.guilds e).2;omega
 ·rcases hu e with e2 | e2
  ·exact h.a23 b e2 e'
  ·have:=(RecAt.lt h.desks e').2;omega
 ·rcases hu e with e2 | e2
  ·exact h.a24 b e2 e'
  ·have:=(RecAt.lt h.paces e').2;omega
theorem LZ  (rank:Int) (may:Int) (guild:Int) (h:Smy w v0 v1 v2 v3 v4 m) :
  Calls Tryz.prog 243 #[.agg #[v0,v1,v2,v3,v4,.int .i64 m.now],.int .i64 rank,.int .i64 may,.int .i64 guild] w fun e w'=>TC w.heap.size (Ug m rank may guild).1 (Ug m rank may guild).2 e w'/\Below w.heap.size w w':=by
 obtain ⟨X,hX⟩:∃ x,Ug m rank may guild=x:=⟨_,rfl⟩
 rw [hX]
 have HX:=Z9 hX
 clear hX
 have Hv0:=Z9 h
 obtain ⟨a0,p0,a1,p1,a2,p2,a3,p3,a4,p4,rfl,rfl,rfl,rfl,rfl,_,_,_,_,_,_,_,_,_,_⟩:=h.five
 clear h
 obtain ⟨ok,hok⟩:∃ q,ZP m=q:=⟨_,rfl⟩
 have Hok:=Z9 hok
 clear hok
 go_enter Tryz.func243,Tryz.ntmps243
 go_wp2_with fail
 obtain ⟨W,hW,kb,kr,BB⟩:=YS w 32 (S6 a0 p0 a1 p1 a2 p2 a3 p3 a4 p4 m) 32 E6
 have Hv:=Z9 ((uh Hv0).below (uh BB))
 clear Hv0
 rw [hW]
 clear hW
 refine ck (XX (uh Hok) (uh Hv)) fun w1 hb=> ?_
 replace kb:=bl kb hb
 replace kr:=bl kr hb
 replace Hv:=Z9 ((uh Hv).below hb)
 replace BB:=bt BB hb
 clear hb
 cases ok
 ·
  obtain ⟨c0,c1,c2,c3,c4,c5⟩:=(uh kb).c6
  go_wp2_with fail
  clear c0 c1 c2 c3 c4 c5
  refine ck (Yy (uh Hv)) fun w2 hb=> ?_
  replace kb:=bl kb hb
  replace kr:=bl kr hb
  replace Hv:=Z9 ((uh Hv).below hb)
  replace BB:=bt BB hb
  clear hb
  obtain ⟨o0,o1,o2,o3,o4,o5⟩:=(uh kr).c6
  obtain ⟨f0,f1,f2,f3,f4,f5⟩:=(uh kr).f6
  go_wp2_with fail
  have hX0:X=(YJ,3):=by rw [<-uh HX];unfold Ug;rw [uh Hok];rfl
  exact bodyPost_ret (v:= .tuple #[.agg #[.slice none 0 0,.slice none 0 0,.slice none 0 0,.slice none 0 0,.slice none 0 0,.int .i64 0],.int .i64 3]) (by simp [results,Tryz.results243,go_sem, *]) rfl (Zr hX0 rfl (Y1 _ _) (uh BB))
 have hlo:=ZY (uh Hok)
 have HLo:=Z9 hlo
 have HFew:=Z9 (XJ hlo)
 clear hlo
 obtain ⟨c0,c1,c2,c3,c4,c5⟩:=(uh kb).c6
 go_wp2_with fail
 clear c0 c1 c2 c3 c4 c5
 refine (U2 (uh Hv) (uh HFew) (uh kb) (uh kr) (uh BB)).mono ?_
 clear kb kr Hv BB
 rintro e w2 ⟨b0,q0,b1,q1,b2,q2,b3,q3,b4,q4,oq,rfl,W2,ob,hW2,hob2,kb,kr,Hv,HO,ko,LO,hob,BB⟩
 go_upto_region 4 with fail
 (try rw [hW2])
 (try rw [hob2])
 clear hW2 hob2
 go_upto_region 5 with fail
 obtain ⟨W3,hW3,hba,ks⟩:=YO W2 39 #[.int .i64 1,.int .i64 0,.int .i64 rank,.int .i64 may,.int .i64 guild,.int .i64 0,.int .i64 1024,.int .i64 0,.int .i64 0,.int .i64 0,.int .i64 0]
 replace kb:=bl kb hba
 replace kr:=bl kr hba
 replace Hv:=Z9 ((uh Hv).below hba)
 replace HO:=Z9 ((uh HO).below hba)
 replace ko:=bl ko hba
 replace BB:=bt BB hba
 clear hba
 rw [hW3]
 clear hW3
 generalize W2.heap.size=sv at *
 obtain ⟨sk,hsk⟩:∃ q,ZE (YK rank may guild)=q:=⟨_,rfl⟩
 have Hsk:=Z9 hsk
 have Hsk2:Hid (ZE (1,0,rank,may,guild,0,1024,0,0,0,0)=sk):=Z9 hsk
 clear hsk
 obtain ⟨e0,e1,e2,e3,e4,e5,e6,e7,e8,e9,e10⟩:=(uh ks).c11
 go_wp2_with fail
 clear e0 e1 e2 e3 e4 e5 e6 e7 e8 e9 e10
 refine (ZA 1 0 rank may guild 0 1024 0 0 0 0 _).mono ?_
 rw [uh Hsk2]
 rintro e w3 ⟨rfl,hb⟩
 replace kb:=bl kb hb
 replace kr:=bl kr hb
 replace Hv:=Z9 ((uh Hv).below hb)
 replace HO:=Z9 ((uh HO).below hb)
 replace ko:=bl ko hb
 replace ks:=bl ks hb
 replace BB:=bt BB hb
 clear hb
 cases sk
 ·
  obtain ⟨x0,x1,x2,x3,x4,x5⟩:=(uh ko).c6
  obtain ⟨o0,o1,o2,o3,o4,o5⟩:=(uh kr).c6
  obtain ⟨f0,f1,f2,f3,f4,f5⟩:=(uh kr).f6
  go_wp2_with fail
  have hX0:X=(m,3):=by rw [<-uh HX];unfold Ug;rw [uh Hok,uh Hsk];rfl
  exact bodyPost_ret (v:= .tuple #[.agg #[.slice b0 m.rooms.length q0,.slice b1 m.guilds.length q1,.slice b2 m.smiths.length q2,.slice b3 m.desks.length q3,.slice b4 m.paces.length q4,.int .i64 m.now],.int .i64 3]) (by simp [results,Tryz.results243,go_sem, *]) rfl (Zr hX0 rfl (uh HO) (uh BB))
 have hgl:=(uh HFew).guilds
 have c1:=(uh kb).cell (i:=1) (v:= .slice a1 m.guilds.length p1) rfl
 by_cases hg:guild<(m.guilds.length:Int)
 rotate_left
 ·
  obtain ⟨x0,x1,x2,x3,x4,x5⟩:=(uh ko).c6
  obtain ⟨o0,o1,o2,o3,o4,o5⟩:=(uh kr).c6
  obtain ⟨f0,f1,f2,f3,f4,f5⟩:=(uh kr).f6
  go_wp2_with fail
  have hX0:X=(m,3):=by rw [<-uh HX];unfold Ug;rw [uh Hok,uh Hsk];simp only [if_true,Bool.true_and];rw [show decide (guild<(m.guilds.length:Int))=false by simp;omega];rfl
  exact bodyPost_ret (v:= .tuple #[.agg #[.slice b0 m.rooms.length q0,.slice b1 m.guilds.length q1,.slice b2 m.smiths.length q2,.slice b3 m.desks.length q3,.slice b4 m.paces.length q4,.int .i64 m.now],.int .i64 3]) (by simp [results,Tryz.results243,go_sem, *]) rfl (Zr hX0 rfl (uh HO) (uh BB))
 have Hg:=Z9 hg
 have c2:=(uh kb).cell (i:=2) (v:= .slice a2 m.smiths.length p2) rfl
 by_cases hl:m.smiths.length=12
 ·
  have Hl:=Z9 hl
  have hl1:((m.smiths.length:Int) ==12)=true:=by rw [hl];rfl
  have hl2:decide ((m.smiths.length:Int)=12)=true:=by rw [hl];rfl
  clear hl
  obtain ⟨x0,x1,x2,x3,x4,x5⟩:=(uh ko).c6
  obtain ⟨o0,o1,o2,o3,o4,o5⟩:=(uh kr).c6
  obtain ⟨f0,f1,f2,f3,f4,f5⟩:=(uh kr).f6
  go_wp2_with fail
  have hX0:X=(m,4):=by rw [<-uh HX];unfold Ug;rw [uh Hok,uh Hsk];simp only [if_true,Bool.true_and];rw [show decide (guild<(m.guilds.length:Int))=true from decide_eq_true (uh Hg)];simp only [if_true];rw [if_pos (uh Hl)]
  exact bodyPost_ret (v:= .tuple #[.agg #[.slice b0 m.rooms.length q0,.slice b1 m.guilds.length q1,.slice b2 m.smiths.length q2,.slice b3 m.desks.length q3,.slice b4 m.paces.length q4,.int .i64 m.now],.int .i64 4]) (by simp [results,Tryz.results243,go_sem, *]) rfl (Zr hX0 rfl (uh HO) (uh BB))
 have Hl:=Z9 hl
 have hl0:¬ (m.smiths.length:Int)=12:=by omega
 have hl1:((m.smiths.length:Int) ==12)=false:=by simp [hl0]
 have hl2:decide ((m.smiths.length:Int)=12)=false:=by simp [hl0]
 clear hl
 obtain ⟨c0,c1,c2,c3,c4,c5⟩:=(uh kb).c6
 go_wp2_with fail
 clear c0 c1 c2 c3 c4 c5
 have hobw:=(uh ko).lt
 refine (YE (uh Hv) (uh HFew)).mono ?_
 rintro e w4 ⟨y0,y1,y2,y3,y4,xq,rfl,ho,hb⟩
 have k9:=ho.smy
 obtain ⟨xa0,xp0,xa1,xp1,xa2,xp2,xa3,xp3,xa4,xp4,rfl,rfl,rfl,rfl,rfl,_,_,_,_,_,_,_,_,_,_⟩:=k9.five
 clear k9
 replace kb:=bl kb hb
 replace kr:=bl kr hb
 replace Hv:=Z9 ((uh Hv).below hb)
 replace HO:=Z9 ((uh HO).below hb)
 replace ko:=bl ko hb
 replace ks:=bl ks hb
 replace BB:=bt BB hb
 have hszx:=hb.size
 have HY:=Z9 (ho.mono (n₁:=w.heap.size+2) (by omega))
 have LX:Hid (∀ k,WW (.slice xa0 m.rooms.length xp0) (.slice xa1 m.guilds.length xp1) (.slice xa2 m.smiths.length xp2) (.slice xa3 m.desks.length xp3) (.slice xa4 m.paces.length xp4) xq k->ob+1<=k/\k<w4.heap.size):=Z9 (fun k e=>by have:=ho.own e;omega)
 have hxb:ob+1<=w4.heap.size:=by omega
 clear ho hb hobw hszx
 go_upto_region 11 with fail
 obtain ⟨W4,hW4,hba,kx⟩:=YO w4 32 (S6 xa0 xp0 xa1 xp1 xa2 xp2 xa3 xp3 xa4 xp4 m)
 replace kb:=bl kb hba
 replace kr:=bl kr hba
 replace Hv:=Z9 ((uh Hv).below hba)
 replace HO:=Z9 ((uh HO).below hba)
 replace ko:=bl ko hba
 replace ks:=bl ks hba
 replace HY:=Z9 ((uh HY).below hba)
 replace BB:=bt BB hba
 clear hba
 rw [hW4]
 clear hW4
 generalize w4.heap.size=xb at *
 clear hl0 hl1 hl2 hg c1 c2
 have hx:Loose (pushS m (YK rank may guild)):=by
  have h12:=Zk (uh HLo)
  rcases J2 (uh HLo) (uh Hsk) (uh Hg) with e | e
  ·exact e
  ·exact absurd (Nat.le_antisymm h12 e) (uh Hl)
 have hrn:Z8 (m.smiths++[YK rank may guild]) m.smiths.length=YK rank may guild:=by rw [Wn,if_pos rfl]
 have HAx:Hid (Sh (pushS m (YK rank may guild)) m.smiths.length):=Z9 (RM hx (by unfold pushS;simp) (by show (Z8 (m.smiths++_) _).1 ≠ 0;rw [hrn];show (1:Int) ≠ 0;omega)).1
 have HLx:=Z9 hx
 obtain ⟨n1,hn1⟩:∃ n,n=m.smiths.length+1:=⟨_,rfl⟩
 have Hn1:=Z9 hn1
 have hn1n:m.smiths.length<n1:=by omega
 have hnn:(m.smiths.length:Int)<(n1:Int):=by omega
 clear hn1
 have hsz4:w.heap.size+2<=W4.heap.size:=by have:=(uh kx).lt;omega
 clear hx
 have x2:=(uh kx).cell (i:=2) (v:= .slice xa2 m.smiths.length xp2) rfl
 have fx:=(uh kx).free 2
 obtain ⟨e0,e1,e2,e3,e4,e5,e6,e7,e8,e9,e10⟩:=(uh ks).c11
 have hsl:=(uh HFew).smiths
 have hx2:∀ k,(Value.slice xa2 m.smiths.length xp2).ownBlock=some k->k<xb:=fun k e=>(uh LX k (.inr (.inr (.inr (.inl e))))).2
 go_upto_region 12 with (at_builtin;refine ZO tyS rfl (.tmp 50) (.tmp 52) 28 Tryz.underlying28 rfl (w.heap.size+2) _ _ m.smiths [YK rank may guild] rfl rfl (RecAt.later (uh HY).smiths ((ba _ _))) (V6 (YK rank may guild) rfl (Nat.le_refl _) (by omega)) (by simp;omega) (by simp;omega) ?_;intro u9 w9 hp9 hg9 hat9;obtain ⟨a9,c9,hu9⟩:=RecAt.shape hp9;rw [show (m.smiths++[YK rank may guild]).length=n1 by rw [uh Hn1];simp] at hu9;subst hu9;have k9:=((uh kx).below ((Below.refl _ _).alloc (Nat.le_refl _) (.cells #[.int .i64 1,.int .i64 0,.int .i64 rank,.int .i64 may,.int .i64 guild,.int .i64 0,.int .i64 1024,.int .i64 0,.int .i64 0,.int .i64 0,.int .i64 0] 39)) (uh kx).lt).same (hg9.block xb (by have:=(uh kx).lt;simp;omega) (fun e=>by have:=hx2 _ e.symm;omega));have o9:=k9.cell (i:=2) (v:= .slice xa2 m.smiths.length xp2) rfl;have f9:=k9.free 2;have HP9:=Z9 hp9;have HG9:=Z9 hg9;have HT9:=Z9 hat9;clear hp9 hg9 hat9 k9)
 clear x2 fx o9 f9 e0 e1 e2 e3 e4 e5 e6 e7 e8 e9 e10
 have hba:Below W4.heap.size W4 (W4.alloc (.cells #[.int .i64 1,.int .i64 0,.int .i64 rank,.int .i64 may,.int .i64 guild,.int .i64 0,.int .i64 1024,.int .i64 0,.int .i64 0,.int .i64 0,.int .i64 0] 39)):=ba _ _
 have hP:=(uh HY).pushS hba (uh HG9) (uh HT9) (uh HP9)
 have hown:∀ k,k<W4.heap.size->(Value.slice xa2 m.smiths.length xp2).ownBlock ≠ some k->w9.heap[k]?=W4.heap[k]?:=fun k hk hn=>((uh HG9).block k (by have:=hba.size;omega) (Ne.symm hn)).trans (hba.block k hk)
 have hx2o:∀ k,(Value.slice xa2 m.smiths.length xp2).ownBlock=some k->ob+1<=k:=fun k e=>(uh LX k (.inr (.inr (.inr (.inl e))))).1
 have hxbl:=(uh kx).lt
 have LX9:Hid (∀ k,WW (.slice xa0 m.rooms.length xp0) (.slice xa1 m.guilds.length xp1) (.slice a9 n1 c9) (.slice xa3 m.desks.length xp3) (.slice xa4 m.paces.length xp4) xq k->ob+1<=k/\k ≠ xb):=Z9 (fun k e=>by
  rcases e with e | e | e | e | e | e
  ·have:=uh LX k (.inl e);omega
  ·have:=uh LX k (.inr (.inl e));omega
  ·have:=uh LX k (.inr (.inr (.inl e)));omega
  ·rcases uh HT9 with e' | e'
   ·have:=uh LX k (.inr (.inr (.inr (.inl (e'.symm.trans e)))));omega
   ·rw [e'] at e
    have e8:=Option.some.inj e
    have:=hba.size
    omega
  ·have:=uh LX k (.inr (.inr (.inr (.inr (.inl e)))));omega
  ·have:=uh LX k (.inr (.inr (.inr (.inr (.inr e)))));omega)
 replace kx:Hid (Blk (w9.setCell ⟨xb,2,none⟩ (.slice a9 n1 c9)) xb 32 #[.slice xa0 m.rooms.length xp0,.slice xa1 m.guilds.length xp1,.slice a9 n1 c9,.slice xa3 m.desks.length xp3,.slice xa4 m.paces.length xp4,.int .i64 m.now]):=Z9 (((uh kx).same (hown xb hxbl (fun e=>by have:=hx2 _ e;omega))).set 2 _)
 replace ko:Hid (Blk (w9.setCell ⟨xb,2,none⟩ (.slice a9 n1 c9)) ob 32 #[.slice b0 m.rooms.length q0,.slice b1 m.guilds.length q1,.slice b2 m.smiths.length q2,.slice b3 m.desks.length q3,.slice b4 m.paces.length q4,.int .i64 m.now]):=Z9 (((uh ko).same (hown ob (uh ko).lt (fun e=>by have:=hx2o _ e;omega))).other (a:=⟨xb,2,none⟩) (by show ob ≠ xb;omega) _)
 replace kr:Hid (Blk (w9.setCell ⟨xb,2,none⟩ (.slice a9 n1 c9)) (w.heap.size+1) 32 #[.slice none 0 0,.slice none 0 0,.slice none 0 0,.slice none 0 0,.slice none 0 0,.int .i64 0]):=Z9 (((uh kr).same (hown (w.heap.size+1) (uh kr).lt (fun e=>by have:=hx2o _ e;omega))).other (a:=⟨xb,2,none⟩) (by show (w.heap.size+1) ≠ xb;omega) _)
 replace HO:Hid (FullSmy (w.heap.size+2) (w9.setCell ⟨xb,2,none⟩ (.slice a9 n1 c9)) (.slice b0 m.rooms.length q0) (.slice b1 m.guilds.length q1) (.slice b2 m.smiths.length q2) (.slice b3 m.desks.length q3) (.slice b4 m.paces.length q4) m oq):=Z9 (((uh HO).keep (fun k e0=>hown k ((uh HO).own e0).2 (fun e=>by have:=hx2o k e;have:=(uh LO k e0).2;omega))).set_off (fun k e=>by have:=(uh LO k e).2;omega) _ _)
 have HP:Hid (FullSmy (w.heap.size+2) (w9.setCell ⟨xb,2,none⟩ (.slice a9 n1 c9)) (.slice xa0 m.rooms.length xp0) (.slice xa1 m.guilds.length xp1) (.slice a9 n1 c9) (.slice xa3 m.desks.length xp3) (.slice xa4 m.paces.length xp4) (pushS m (YK rank may guild)) xq):=Z9 (hP.set_off (fun k e=>(uh LX9 k e).2) _ _)
 replace BB:Hid (Below w.heap.size w (w9.setCell ⟨xb,2,none⟩ (.slice a9 n1 c9))):=Z9 (((((uh BB).trans (hba.mono (uh BB).size)).trans ((Below.refl _ _).grown (uh HG9) (by have:=hba.size;omega) (fun k e=>by have:=hx2o k e;omega)))).setCell (p:=⟨xb,2,none⟩) (by show w.heap.size<=xb;omega) _)
 clear LX HY HG9 HT9 HP9 hP hown hx2o hx2 hba hxbl kb Hv ks hsz4
 have LX:=LX9
 clear LX9
 generalize w9.setCell ⟨xb,2,none⟩ (.slice a9 n1 c9)=W5 at *
 have hl1:(m.smiths++[YK rank may guild]).length=n1:=by rw [uh Hn1];simp
 obtain ⟨g2,hga,_,_,_,_⟩:=RecAt.view ZT (by omega) (uh HP).smiths hl1.symm (by show 0<(m.smiths++[YK rank may guild]).length;omega)
 cases hga
 have hg2o:=(uh LX g2 (.inr (.inr (.inr (.inl rfl)))))
 obtain ⟨b,hb⟩:∃ q,NN m (YK rank may guild)=q:=⟨_,rfl⟩
 have Hb:=Z9 hb
 have Hb2:Hid (YA (pushS m (YK rank may guild)) (m.smiths.length:Int)=b):=Z9 hb
 clear hb
 obtain ⟨z0,z1,z2,z3,z4,z5⟩:=(uh kx).c6
 go_wp2_with fail
 clear z0 z1 z2 z3 z4 z5
 refine (WY (m:=pushS m (YK rank may guild)) (who:=m.smiths.length) (uh HP).smy (uh HLx).sane (Ur (uh HLx)) (uh HAx)).mono ?_
 rw [uh Hb2]
 rintro e w5 ⟨rfl,hb⟩
 replace kx:=bl kx hb
 replace ko:=bl ko hb
 replace kr:=bl kr hb
 replace HO:=Z9 ((uh HO).below hb)
 replace HP:=Z9 ((uh HP).below hb)
 replace BB:=bt BB hb
 clear hb
 by_cases hbn:b<0
 ·
  obtain ⟨x0,x1,x2,x3,x4,x5⟩:=(uh ko).c6
  obtain ⟨o0,o1,o2,o3,o4,o5⟩:=(uh kr).c6
  obtain ⟨f0,f1,f2,f3,f4,f5⟩:=(uh kr).f6
  go_wp2_with fail
  have hX0:X=(m,2):=by rw [<-uh HX];unfold Ug;rw [uh Hok,uh Hsk];simp only [if_true,Bool.true_and];rw [show decide (guild<(m.guilds.length:Int))=true from decide_eq_true (uh Hg)];simp only [if_true];rw [if_neg (uh Hl),uh Hb,if_pos hbn]
  exact bodyPost_ret (v:= .tuple #[.agg #[.slice b0 m.rooms.length q0,.slice b1 m.guilds.length q1,.slice b2 m.smiths.length q2,.slice b3 m.desks.length q3,.slice b4 m.paces.length q4,.int .i64 m.now],.int .i64 2]) (by simp [results,Tryz.results243,go_sem, *]) rfl (Zr hX0 rfl (uh HO) (uh BB))
 obtain ⟨bb,hbb,rfl⟩:∃ bb:Nat,bb<m.desks.length/\b=(bb:Int):=by
  rcases Vt (pushS m (YK rank may guild)) (m.smiths.length:Int) with ⟨e,_⟩ | ⟨bb,hbl,e,_⟩
  ·rw [uh Hb2] at e;omega
  ·exact ⟨bb,hbl,(uh Hb2).symm.trans e⟩
 go_wp2_with fail
 have hofX:∀ k,WW (.slice xa0 m.rooms.length xp0) (.slice xa1 m.guilds.length xp1) (.slice (some ⟨g2,0,none⟩) n1 c9) (.slice xa3 m.desks.length xp3) (.slice xa4 m.paces.length xp4) xq k->k ≠ xb:=fun k e=>by have:=(uh LX k e).2;omega
 refine (Ol (m:=pushS m (YK rank may guild)) (k:=m.smiths.length) (uh kx) (uh HP) (fun e=>hofX _ (.inr (.inr (.inr (.inl e)))) rfl) (fun e=>hofX _ (.inr (.inr (.inr (.inr (.inl e))))) rfl) (by show m.smiths.length<(m.smiths++[YK rank may guild]).length;omega) (bb:Int)).mono ?_
 rintro e w7 ⟨rfl,hf7,ht7⟩
 have hW:((2,(bb:Int),(Z8 (pushS m (YK rank may guild)).smiths m.smiths.length).2.2):Z3)=(2,(bb:Int),rank,may,guild,0,1024,0,0,0,0):=by
  show ((2,(bb:Int),(Z8 (m.smiths++[YK rank may guild]) m.smiths.length).2.2):Z3)=_
  rw [hrn];rfl
 rw [hW] at hf7
 replace kx:=Z9 ((uh kx).two ht7 (fun e=>hofX _ (.inr (.inr (.inr (.inl e)))) rfl) (fun e=>hofX _ (.inr (.inr (.inr (.inr (.inl e))))) rfl))
 replace kr:=Z9 ((uh kr).two ht7 (fun e=>by have:=(uh LX _ (.inr (.inr (.inr (.inl e))))).1;omega) (fun e=>by have:=(uh LX _ (.inr (.inr (.inr (.inr (.inl e)))))).1;omega))
 replace BB:=Z9 ((uh BB).trans (ht7.below (uh BB).size (fun k e=>by have:=(uh LX k (.inr (.inr (.inr (.inl e))))).1;omega) (fun k e=>by have:=(uh LX k (.inr (.inr (.inr (.inr (.inl e)))))).1;omega)))
 replace HP:=Z9 hf7
 clear hf7 ht7 hW hofX HO ko
 obtain ⟨mk,hmk⟩:∃ q,(Z8 m.desks bb).2.2=q:=⟨_,rfl⟩
 have Hmk:Hid (XK m (bb:Int)=mk):=Z9 (by unfold XK;simpa using hmk)
 obtain ⟨g3,hga,_,_,hc3,_⟩:=RecAt.view ZG (by omega) (uh HP).desks rfl (by show 0<m.desks.length;omega)
 cases hga
 have d2:=hc3 bb hbb 2 (.int .i64 mk) (by rw [<-hmk];rfl)
 clear hc3 hmk
 have hl2:((m.smiths++[YK rank may guild]).set m.smiths.length ((2:Int),(bb:Int),rank,may,guild,(0:Int),(1024:Int),(0:Int),(0:Int),(0:Int),(0:Int))).length=n1:=by rw [List.length_set];exact hl1
 obtain ⟨_,hga,_,_,hc2,hz2⟩:=RecAt.view ZT (by omega) (uh HP).smiths hl2.symm (by show 0<((m.smiths++[YK rank may guild]).set m.smiths.length _).length;omega)
 cases hga
 have hr2:Z8 ((m.smiths++[YK rank may guild]).set m.smiths.length ((2:Int),(bb:Int),rank,may,guild,(0:Int),(1024:Int),(0:Int),(0:Int),(0:Int),(0:Int))) m.smiths.length=((2:Int),(bb:Int),rank,may,guild,(0:Int),(1024:Int),(0:Int),(0:Int),(0:Int),(0:Int)):=by rw [ZK (by omega),if_pos rfl]
 have s7:=hc2 m.smiths.length (by show m.smiths.length<((m.smiths++[YK rank may guild]).set m.smiths.length _).length;omega) 7 (.int .i64 0) (by show (ZV (Z8 ((m.smiths++[YK rank may guild]).set m.smiths.length ((2:Int),(bb:Int),rank,may,guild,(0:Int),(1024:Int),(0:Int),(0:Int),(0:Int),(0:Int))) m.smiths.length))[7]?=_;rw [hr2];rfl)
 have f7:=hz2 (m.smiths.length*11+7)
 have hput:=(uh HP).putS hl2.symm (j:=m.smiths.length) (i:=7) (by show m.smiths.length<((m.smiths++[YK rank may guild]).set m.smiths.length _).length;omega) (by omega) (.int .i64 mk) (OM (YK rank may guild) (bb:Int) mk) (by show ZV _=(ZV (Z8 ((m.smiths++[YK rank may guild]).set m.smiths.length ((2:Int),(bb:Int),rank,may,guild,(0:Int),(1024:Int),(0:Int),(0:Int),(0:Int),(0:Int))) m.smiths.length)).set 7 _;rw [hr2];rfl)
 simp only [setS,List.set_set] at hput
 have HQ:Hid (FullSmy (w.heap.size+2) (w7.setCell ⟨g2,m.smiths.length*11+7,none⟩ (.int .i64 mk)) (.slice xa0 m.rooms.length xp0) (.slice xa1 m.guilds.length xp1) (.slice (some ⟨g2,0,none⟩) n1 c9) (.slice (some ⟨g3,0,none⟩) m.desks.length xp3) (.slice xa4 m.paces.length xp4) (setS (pushS m (YK rank may guild)) m.smiths.length (OM (YK rank may guild) (bb:Int) mk)) xq):=Z9 hput
 clear hput hc2 hz2 hr2 hl2
 have x2:=(uh kx).cell (i:=2) (v:= .slice (some ⟨g2,0,none⟩) n1 c9) rfl
 have x3:=(uh kx).cell (i:=3) (v:= .slice (some ⟨g3,0,none⟩) m.desks.length xp3) rfl
 have hbb2:(bb:Int)<(m.desks.length:Int):=by omega
 go_wp2_with fail
 refine ZS (S:=fun w'=>w'.cell? ⟨xb,2,none⟩=some (.slice (some ⟨g2,0,none⟩) n1 c9)/\w'.cell? ⟨xb,3,none⟩=some (.slice (some ⟨g3,0,none⟩) m.desks.length xp3)/\w'.cell? ⟨g3,bb*3+2,none⟩=some (.int .i64 mk)) (by kernel_rfl) (List.cons_ne_nil _ _) (by kernel_rfl) ⟨x2,x3,d2⟩ (fun hHeld=> ?_)
 simp only [List.dropLast_cons_cons,List.dropLast_singleton,List.length_cons,List.length_nil,Nat.zero_add,Nat.reduceAdd]
 (refine tq 0 ?_;(try simp only [Act.put,sA,sZ,sS]))
 (refine tq 1 ?_;(try simp only [Act.put,sA,sZ,sS]))
 (refine tq 2 ?_;(try simp only [Act.put,sA,sZ,sS]))
 (refine tq 3 ?_;(try simp only [Act.put,sA,sZ,sS]))
 (refine tq 4 ?_;(try simp only [Act.put,sA,sZ,sS]))
 (refine tq 5 ?_;(try simp only [Act.put,sA,sZ,sS]))
 (refine tq 6 ?_;(try simp only [Act.put,sA,sZ,sS]))
 (refine tq 7 ?_;(try simp only [Act.put,sA,sZ,sS]))
 (refine tq 8 ?_;(try simp only [Act.put,sA,sZ,sS]))
 (refine tq 9 ?_;(try simp only [Act.put,sA,sZ,sS]))
 (refine tq 10 ?_;(try simp only [Act.put,sA,sZ,sS]))
 refine wpAnyH_done (by kernel_rfl) ?_ _
 refine ZH rfl rfl ?_
 go_simp
 clear hHeld x2 x3 d2 s7 f7
 go_wp2_with fail
 replace kx:Hid (Blk ((w7.setCell ⟨g2,m.smiths.length*11+7,none⟩ (.int .i64 mk)).drew) xb 32 #[.slice xa0 m.rooms.length xp0,.slice xa1 m.guilds.length xp1,.slice (some ⟨g2,0,none⟩) n1 c9,.slice (some ⟨g3,0,none⟩) m.desks.length xp3,.slice xa4 m.paces.length xp4,.int .i64 m.now]):=Z9 (((uh kx).other (a:=⟨g2,m.smiths.length*11+7,none⟩) (by show xb ≠ g2;omega) (.int .i64 mk)).below (Below.refl _ _).drew ((uh kx).other (a:=⟨g2,m.smiths.length*11+7,none⟩) (by show xb ≠ g2;omega) (.int .i64 mk)).lt)
 replace kr:Hid (Blk ((w7.setCell ⟨g2,m.smiths.length*11+7,none⟩ (.int .i64 mk)).drew) (w.heap.size+1) 32 #[.slice none 0 0,.slice none 0 0,.slice none 0 0,.slice none 0 0,.slice none 0 0,.int .i64 0]):=Z9 (((uh kr).other (a:=⟨g2,m.smiths.length*11+7,none⟩) (by show (w.heap.size+1) ≠ g2;omega) (.int .i64 mk)).below (Below.refl _ _).drew ((uh kr).other (a:=⟨g2,m.smiths.length*11+7,none⟩) (by show (w.heap.size+1) ≠ g2;omega) (.int .i64 mk)).lt)
 replace BB:Hid (Below w.heap.size w ((w7.setCell ⟨g2,m.smiths.length*11+7,none⟩ (.int .i64 mk)).drew)):=Z9 ((uh BB).setCell (p:=⟨g2,m.smiths.length*11+7,none⟩) (by show w.heap.size<=g2;omega) (.int .i64 mk)).drew
 replace HP:=Z9 ((uh HQ).below (Below.refl _ _).drew)
 clear HQ
 generalize (w7.setCell ⟨g2,m.smiths.length*11+7,none⟩ (.int .i64 mk)).drew=W8 at *
 have hfw:=uh HFew
 refine (VP (m:=setS (pushS m (YK rank may guild)) m.smiths.length (OM (YK rank may guild) (bb:Int) mk)) (uh kx) (uh HP) (fun k e=>by have:=(uh LX k e).2;omega) (uh kr) (uh BB) (by show ((m.smiths++[YK rank may guild]).set m.smiths.length _).length<=800;have:=Zk (uh HLo);simp;omega) hfw.desks).mono ?_
 clear kr BB
 rintro e w9 ⟨rfl,HF9,kr,BB⟩
 obtain ⟨o0,o1,o2,o3,o4,o5⟩:=(uh kr).c6
 obtain ⟨f0,f1,f2,f3,f4,f5⟩:=(uh kr).f6
 go_wp2_with fail
 have hX0:X=(ZX (setS (pushS m (YK rank may guild)) m.smiths.length (OM (YK rank may guild) (bb:Int) mk)),0):=by rw [<-uh HX];unfold Ug;rw [uh Hok,uh Hsk];simp only [if_true,Bool.true_and];rw [show decide (guild<(m.guilds.length:Int))=true from decide_eq_true (uh Hg)];simp only [if_true];rw [if_neg (uh Hl),uh Hb,if_neg (by omega),uh Hmk]
 have hnow:(ZX (setS (pushS m (YK rank may guild)) m.smiths.length (OM (YK rank may guild) (bb:Int) mk))).now=m.now:=(ZQ _ _).2.2.2.1
 exact bodyPost_ret (v:= .tuple #[.agg #[.slice xa0 m.rooms.length xp0,.slice xa1 m.guilds.length xp1,.slice (some ⟨g2,0,none⟩) n1 c9,.slice (some ⟨g3,0,none⟩) m.desks.length xp3,.slice xa4 m.paces.length xp4,.int .i64 m.now],.int .i64 0]) (by simp [results,Tryz.results243,go_sem,setS,Xq,YH,pushS, *]) rfl (Zr hX0 hnow (uh HF9) (uh BB))
theorem L5  (who:Int) (h:Smy w v0 v1 v2 v3 v4 m) :
  Calls Tryz.prog 244 #[.agg #[v0,v1,v2,v3,v4,.int .i64 m.now],.int .i64 who] w fun e w'=>TC w.heap.size (Tg m who).1 (Tg m who).2 e w'/\Below w.heap.size w w':=by
 obtain ⟨X,hX⟩:∃ x,Tg m who=x:=⟨_,rfl⟩
 rw [hX]
 have HX:=Z9 hX
 clear hX
 have Hv0:=Z9 h
 obtain ⟨a0,p0,a1,p1,a2,p2,a3,p3,a4,p4,rfl,rfl,rfl,rfl,rfl,_,_,_,_,_,_,_,_,_,_⟩:=h.five
 clear h
 obtain ⟨ok,hok⟩:∃ q,ZP m=q:=⟨_,rfl⟩
 have Hok:=Z9 hok
 clear hok
 go_enter Tryz.func244,Tryz.ntmps244
 go_wp2_with fail
 obtain ⟨W,hW,kb,kr,BB⟩:=YS w 32 (S6 a0 p0 a1 p1 a2 p2 a3 p3 a4 p4 m) 32 E6
 have Hv:=Z9 ((uh Hv0).below (uh BB))
 clear Hv0
 rw [hW]
 clear hW
 refine ck (XX (uh Hok) (uh Hv)) fun w1 hb=> ?_
 replace kb:=bl kb hb
 replace kr:=bl kr hb
 replace Hv:=Z9 ((uh Hv).below hb)
 replace BB:=bt BB hb
 clear hb
 cases ok
 ·
  obtain ⟨c0,c1,c2,c3,c4,c5⟩:=(uh kb).c6
  go_wp2_with fail
  clear c0 c1 c2 c3 c4 c5
  refine ck (Yy (uh Hv)) fun w2 hb=> ?_
  replace kb:=bl kb hb
  replace kr:=bl kr hb
  replace Hv:=Z9 ((uh Hv).below hb)
  replace BB:=bt BB hb
  clear hb
  obtain ⟨o0,o1,o2,o3,o4,o5⟩:=(uh kr).c6
  obtain ⟨f0,f1,f2,f3,f4,f5⟩:=(uh kr).f6
  go_wp2_with fail
  have hX0:X=(YJ,3):=by rw [<-uh HX];unfold Tg;rw [uh Hok];rfl
  exact bodyPost_ret (v:= .tuple #[.agg E6,.int .i64 3]) (by simp [results,Tryz.results244,go_sem, *]) rfl (Zr hX0 rfl (Y1 _ _) (uh BB))
 have hlo:=ZY (uh Hok)
 have HLo:=Z9 hlo
 have HFew:=Z9 (XJ hlo)
 clear hlo
 obtain ⟨c0,c1,c2,c3,c4,c5⟩:=(uh kb).c6
 go_wp2_with fail
 clear c0 c1 c2 c3 c4 c5
 refine (U2 (uh Hv) (uh HFew) (uh kb) (uh kr) (uh BB)).mono ?_
 clear kb kr Hv BB
 rintro e w2 ⟨b0,q0,b1,q1,b2,q2,b3,q3,b4,q4,oq,rfl,W2,ob,hW2,hob2,kb,kr,Hv,HO,ko,LO,hob,BB⟩
 go_upto_region 4 with fail
 (try rw [hW2])
 (try rw [hob2])
 clear hW2 hob2
 obtain ⟨qw,hqw⟩:∃ q,UP m who=q:=⟨_,rfl⟩
 have Hqw:=Z9 hqw
 clear hqw
 obtain ⟨c0,c1,c2,c3,c4,c5⟩:=(uh kb).c6
 go_wp2_with fail
 clear c0 c1 c2 c3 c4 c5
 refine ck (Va (uh Hqw) (uh Hv)) fun w3 hb=> ?_
 replace kb:=bl kb hb
 replace kr:=bl kr hb
 replace Hv:=Z9 ((uh Hv).below hb)
 replace HO:=Z9 ((uh HO).below hb)
 replace ko:=bl ko hb
 replace BB:=bt BB hb
 clear hb
 cases qw
 ·
  obtain ⟨x0,x1,x2,x3,x4,x5⟩:=(uh ko).c6
  obtain ⟨o0,o1,o2,o3,o4,o5⟩:=(uh kr).c6
  obtain ⟨f0,f1,f2,f3,f4,f5⟩:=(uh kr).f6
  go_wp2_with fail
  have hX0:X=(m,1):=by rw [<-uh HX];unfold Tg;rw [uh Hok,uh Hqw];rfl
  exact bodyPost_ret (v:= .tuple #[.agg (S6 b0 q0 b1 q1 b2 q2 b3 q3 b4 q4 m),.int .i64 1]) (by simp [results,Tryz.results244,go_sem, *]) rfl (Zr hX0 rfl (uh HO) (uh BB))
 obtain ⟨k,rfl,hk,hs0⟩:=Xj (uh Hqw)
 have hk1:(k:Int)<(m.smiths.length:Int):=by omega
 obtain ⟨_,_,hse,_,_,r2⟩:=(uh Hv).smiths
 cases hse
 rcases r2 with e0 | ⟨sb,off,rfl,hbw,hcl⟩
 ·rw [e0] at hk;simp at hk
 obtain ⟨d0,d1,d2,d3,d4,d5,d6,d7,d8,d9,d10⟩:=ZC hcl hk
 clear hcl
 obtain ⟨ps,hps⟩:∃ q,ZR (Z8 m.smiths k)=q:=⟨_,rfl⟩
 have Hps:=Z9 hps
 obtain ⟨⟨st,be,rk,my,gu,lo,hi,hd,ca,ut,wk⟩,hrk⟩:∃ d,Z8 m.smiths k=d:=⟨_,rfl⟩
 rw [hrk] at d0 d1 d2 d3 d4 d5 d6 d7 d8 d9 d10 hps
 simp only at d0 d1 d2 d3 d4 d5 d6 d7 d8 d9 d10
 have c2:=(uh kb).cell (i:=2) (v:= .slice (some ⟨sb,off,none⟩) m.smiths.length p2) rfl
 have Hpt:=Z9 hps
 clear hps
 go_wp2_with fail
 refine ck (YV (uh Hpt) _) fun w4 hb=> ?_
 replace kb:=bl kb hb
 replace kr:=bl kr hb
 replace Hv:=Z9 ((uh Hv).below hb)
 replace HO:=Z9 ((uh HO).below hb)
 replace ko:=bl ko hb
 replace BB:=bt BB hb
 clear hb d0 d1 d2 d3 d4 d5 d6 d7 d8 d9 d10 c2
 cases ps
 ·
  obtain ⟨x0,x1,x2,x3,x4,x5⟩:=(uh ko).c6
  obtain ⟨o0,o1,o2,o3,o4,o5⟩:=(uh kr).c6
  obtain ⟨f0,f1,f2,f3,f4,f5⟩:=(uh kr).f6
  go_wp2_with fail
  have hX0:X=(m,2):=by rw [<-uh HX];unfold Tg;rw [uh Hok,uh Hqw];simp only [if_true,Int.toNat_natCast];rw [uh Hps];rfl
  exact bodyPost_ret (v:= .tuple #[.agg (S6 b0 q0 b1 q1 b2 q2 b3 q3 b4 q4 m),.int .i64 2]) (by simp [results,Tryz.results244,go_sem, *]) rfl (Zr hX0 rfl (uh HO) (uh BB))
 obtain ⟨g2,hga,_,_,hc2,hz2⟩:=RecAt.view ZT (by omega) (uh HO).smiths rfl (by omega)
 cases hga
 have s0:=hc2 k hk 0 _ rfl
 have f0:=hz2 (k*11)
 have x2:=(uh ko).cell (i:=2) (v:= .slice (some ⟨g2,0,none⟩) m.smiths.length q2) rfl
 have hput:=(uh HO).putS rfl (j:=k) (i:=0) hk (by omega) (.int .i64 1) (stS (Z8 m.smiths k) 1) rfl
 simp only [Nat.add_zero] at s0 hput
 have hg2o:=(uh LO g2 (.inr (.inr (.inr (.inl rfl)))))
 clear hc2 hz2
 go_upto_region 9 with fail
 clear s0 f0 x2
 have HP:=Z9 hput
 clear hput HO
 replace ko:Hid (Blk (w4.setCell ⟨g2,k*11,none⟩ (.int .i64 1)) ob 32 (S6 b0 q0 b1 q1 (some ⟨g2,0,none⟩) q2 b3 q3 b4 q4 m)):=Z9 ((uh ko).other (a:=⟨g2,k*11,none⟩) (by show ob ≠ g2;omega) _)
 replace kr:Hid (Blk (w4.setCell ⟨g2,k*11,none⟩ (.int .i64 1)) (w.heap.size+1) 32 E6):=Z9 ((uh kr).other (a:=⟨g2,k*11,none⟩) (by show w.heap.size+1 ≠ g2;omega) _)
 replace BB:Hid (Below w.heap.size w (w4.setCell ⟨g2,k*11,none⟩ (.int .i64 1))):=Z9 ((uh BB).setCell (p:=⟨g2,k*11,none⟩) (by show w.heap.size<=g2;omega) _)
 clear kb Hv
 generalize w4.setCell ⟨g2,k*11,none⟩ (.int .i64 1)=W3 at *
 have hfw:=uh HFew
 go_wp2_with fail
 refine (VP (m:=setS m k (stS (Z8 m.smiths k) 1)) (uh ko) (uh HP) (fun k e=>by have:=(uh LO k e).2;omega) (uh kr) (uh BB) (by show (m.smiths.set k _).length<=800;have:=hfw.smiths;simp;omega) hfw.desks).mono ?_
 clear kr BB
 rintro e w5 ⟨rfl,HF9,kr,BB⟩
 obtain ⟨o0,o1,o2,o3,o4,o5⟩:=(uh kr).c6
 obtain ⟨f0,f1,f2,f3,f4,f5⟩:=(uh kr).f6
 go_wp2_with fail
 have hX0:X=(ZX (setS m k (stS (Z8 m.smiths k) 1)),0):=by rw [<-uh HX];unfold Tg;rw [uh Hok,uh Hqw];simp only [if_true,Int.toNat_natCast];rw [uh Hps];rfl
 have hnow:(ZX (setS m k (stS (Z8 m.smiths k) 1))).now=m.now:=(ZQ _ _).2.2.2.1
 exact bodyPost_ret (v:= .tuple #[.agg (S6 b0 q0 b1 q1 (some ⟨g2,0,none⟩) q2 b3 q3 b4 q4 m),.int .i64 0]) (by simp [results,Tryz.results244,go_sem,setS,Xq,YH,pushS, *]) rfl (Zr hX0 hnow (uh HF9) (uh BB))
end Go.Proofs.YtffcgajndmhpkaaGreatDoor
