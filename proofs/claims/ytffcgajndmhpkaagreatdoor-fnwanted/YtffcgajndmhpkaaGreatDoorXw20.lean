/- Part 20 of what the proof rests on. No condition but those that a theorem names. -/
import Derived.Test.YtffcgajndmhpkaaGreatDoorXw18
import Derived.Test.YtffcgajndmhpkaaGreatDoorXw19
set_option maxHeartbeats 8000000
set_option maxRecDepth 100000
namespace Go.Proofs.YtffcgajndmhpkaaGreatDoor
open Go.ChangeShapes Go.WideShapes Go.ChangeAt Go.RowKit Go.Sort
set_option linter.unusedVariables false
set_option linter.unusedSimpArgs false
variable {w w' w0 w1 w2 w3 w₀ wr W W' X A B C : World} {v v0 v1 v2 v3 v4 u u0 u1 u2 u3 u4 : Value} {m : Z4}
theorem FullSmy.onNow {n₀:Nat}  {qs:List (Z2 × Value)} (h:FullSmy n₀ w v0 v1 v2 v3 v4 m qs) (n:Int):FullSmy n₀ w v0 v1 v2 v3 v4 (TB m n m.smiths) qs:=
 ⟨h.hall,h.rooms,h.guilds,h.smiths,h.desks,h.paces,h.h1,h.h2,h.h3,h.h4,h.a12,h.a13,h.a14,h.a23,h.a24,h.a34⟩
theorem Fi {α:Type} [Inhabited α] {xs:List α} {k:Nat} (hk:k<xs.length):xs.set k (Z8 xs k)=xs:=by
 unfold Z8
 rw [List.getD,List.getElem?_eq_getElem hk]
 exact List.set_getElem_self hk
theorem Tl {n:Int} {k:Nat} {ss:List Z3} {t:Z3} (h:XY m n k=some ss) (ht:RE m n (Z8 m.smiths k)=some t):XY m n (k+1)=some (ss.set k t):=by
 unfold XY;rw [h];simp only;rw [ht]
theorem KH {n:Int} {k:Nat} {ss:List Z3} (h:XY m n k=some ss) (ht:RE m n (Z8 m.smiths k)=none) (hk:k<m.smiths.length):XY m n m.smiths.length=none:=by
 have h1:XY m n (k+1)=none:=by unfold XY;rw [h];simp only;rw [ht]
 have:=Qa (m.smiths.length-(k+1)) h1
 rwa [show k+1+(m.smiths.length-(k+1))=m.smiths.length by omega] at this
theorem Dc (h:Loose m) {r:Nat} (hr:r<m.rooms.length):∃ p:Nat,Z8 m.paces r=(p:Int)/\p<(Z0 m.rooms r).2.length/\1<=(Z7 (Z0 m.rooms r).2 p).1/\(Z7 (Z0 m.rooms r).2 p).1<=1024:=by
 have hd:=h.head
 unfold Y2 at hd
 simp only [Bool.and_eq_true,decide_eq_true_eq] at hd
 have hpl:=hd.2.2.2.2.1
 have hp:=h.pace r (by omega)
 unfold WS at hp
 obtain ⟨p0,p1⟩:=ZU hp
 obtain ⟨_,_,r3,_⟩:=Zy hd.1
 have hmem:Z0 m.rooms r ∈ m.rooms:=by unfold Z0;simp [List.getD,hr]
 have hrb:=List.all_eq_true.1 r3 _ hmem
 unfold Zt at hrb
 simp only [Bool.and_eq_true] at hrb
 refine ⟨(Z8 m.paces r).toNat,by omega,by omega,?_⟩
 have hst:=QE hrb.2.2 (j:=(Z8 m.paces r).toNat) (by omega)
 unfold Xy Vi at hst
 simp only [Bool.and_eq_true] at hst
 exact ZU hst.1.1
theorem Two.of_setW {p q:Option Nat} {g:Nat} (hg:p=some g\/q=some g):∀ (cs:List Value) (w:World) (o:Nat),Two p q w (LS w g o cs)
 | [],w,o=>Two.refl _ _ _
 | c::cs,w,o=>(Two.of_set w hg o c).trans (Two.of_setW hg cs _ (o+1))
theorem O4  (n:Int) (h:Smy w v0 v1 v2 v3 v4 m) :
  Calls Tryz.prog 10 #[.agg #[v0,v1,v2,v3,v4,.int .i64 m.now],.int .i64 n] w fun e w'=>TC w.heap.size (TA m n).1 (TA m n).2 e w'/\Below w.heap.size w w':=by
 obtain ⟨X,hX⟩:∃ x,TA m n=x:=⟨_,rfl⟩
 rw [hX]
 have HX:=Z9 hX
 clear hX
 have Hv0:=Z9 h
 obtain ⟨a0,p0,a1,p1,a2,p2,a3,p3,a4,p4,rfl,rfl,rfl,rfl,rfl,_,_,_,_,_,_,_,_,_,_⟩:=h.five
 clear h
 obtain ⟨ok,hok⟩:∃ q,ZP m=q:=⟨_,rfl⟩
 have Hok:=Z9 hok
 clear hok
 go_enter Tryz.func10,Tryz.ntmps10
 go_wp2_with fail
 obtain ⟨W,hW,kb,kr,BB⟩:=YS w 32 (S6 a0 p0 a1 p1 a2 p2 a3 p3 a4 p4 m) 32 E6
 have Hv:=Z9 ((uh Hv0).below (uh BB))
 rw [hW]
 clear hW
 refine ck (XX (uh Hok) (uh Hv)) fun w1 hb=> ?_
 replace kb:=bl kb hb
 replace kr:=bl kr hb
 replace Hv:=Z9 ((uh Hv).below hb)
 replace BB:=bt BB hb
 clear hb
 cases ok
 ·
  obtain ⟨c0,c1,c2,c3,c4,c5⟩:=(uh kb).c6
  go_wp2_with fail
  clear c0 c1 c2 c3 c4 c5
  refine ck (Yy (uh Hv)) fun w2 hb=> ?_
  replace kb:=bl kb hb
  replace kr:=bl kr hb
  replace Hv:=Z9 ((uh Hv).below hb)
  replace BB:=bt BB hb
  clear hb
  obtain ⟨o0,o1,o2,o3,o4,o5⟩:=(uh kr).c6
  obtain ⟨f0,f1,f2,f3,f4,f5⟩:=(uh kr).f6
  go_wp2_with fail
  have hX0:X=(YJ,3):=by rw [<-uh HX];unfold TA;rw [uh Hok];rfl
  exact bodyPost_ret (v:= .tuple #[.agg E6,.int .i64 3]) (by simp [results,Tryz.results10,go_sem, *]) rfl (Zr hX0 rfl (Y1 _ _) (uh BB))
 have hlo:=ZY (uh Hok)
 have HLo:=Z9 hlo
 have HFew:=Z9 (XJ hlo)
 clear hlo
 obtain ⟨c0,c1,c2,c3,c4,c5⟩:=(uh kb).c6
 go_wp2_with fail
 clear c0 c1 c2 c3 c4 c5
 refine (U2 (uh Hv) (uh HFew) (uh kb) (uh kr) (uh BB)).mono ?_
 clear kb kr Hv BB
 rintro e w2 ⟨b0,q0,b1,q1,b2,q2,b3,q3,b4,q4,oq,rfl,W2,ob,hW2,hob2,kb,kr,Hv,HO,ko,LO,hob,BB⟩
 go_upto_region 4 with fail
 (try rw [hW2])
 (try rw [hob2])
 clear hW2 hob2
 obtain ⟨pb,hpb⟩:∃ q,inB n 1 20=q:=⟨_,rfl⟩
 have Hpb:=Z9 hpb
 clear hpb
 go_wp2_with fail
 refine (ZZ _ _ _ _).mono ?_
 rw [uh Hpb]
 rintro e w9 ⟨rfl,hw9⟩
 subst w9
 cases pb
 ·
  obtain ⟨x0,x1,x2,x3,x4,x5⟩:=(uh ko).c6
  obtain ⟨o0,o1,o2,o3,o4,o5⟩:=(uh kr).c6
  obtain ⟨f0,f1,f2,f3,f4,f5⟩:=(uh kr).f6
  go_wp2_with fail
  have hX0:X=(m,3):=by rw [<-uh HX];unfold TA;rw [uh Hok];simp only [if_true];rw [uh Hpb];rfl
  exact bodyPost_ret (v:= .tuple #[.agg (S6 b0 q0 b1 q1 b2 q2 b3 q3 b4 q4 m),.int .i64 3]) (by simp [results,Tryz.results10,go_sem, *]) rfl (Zr hX0 rfl (uh HO) (uh BB))
 obtain ⟨c0,c1,c2,c3,c4,c5⟩:=(uh kb).c6
 go_wp2_with fail
 clear c0 c1 c2 c3 c4 c5
 have hobw:=(uh ko).lt
 refine (YE (uh Hv) (uh HFew)).mono ?_
 rintro e w3 ⟨y0,y1,y2,y3,y4,xq,rfl,ho,hb⟩
 have k9:=ho.smy
 obtain ⟨xa0,xp0,xa1,xp1,xa2,xp2,xa3,xp3,xa4,xp4,rfl,rfl,rfl,rfl,rfl,_,_,_,_,_,_,_,_,_,_⟩:=k9.five
 clear k9
 replace kb:=bl kb hb
 replace kr:=bl kr hb
 replace Hv:=Z9 ((uh Hv).below hb)
 replace HO:=Z9 ((uh HO).below hb)
 replace ko:=bl ko hb
 replace BB:=bt BB hb
 have hszx:=hb.size
 have HY:=Z9 (ho.mono (n₁:=w.heap.size+2) (by omega))
 have LX:Hid (∀ k,WW (.slice xa0 m.rooms.length xp0) (.slice xa1 m.guilds.length xp1) (.slice xa2 m.smiths.length xp2) (.slice xa3 m.desks.length xp3) (.slice xa4 m.paces.length xp4) xq k->ob+1<=k/\k<w3.heap.size):=Z9 (fun k e=>by have:=ho.own e;omega)
 have hxb:ob+1<=w3.heap.size:=by omega
 clear ho hb hobw hszx
 go_upto_region 7 with fail
 obtain ⟨W3,hW3,hba,kx⟩:=YO w3 32 (S6 xa0 xp0 xa1 xp1 xa2 xp2 xa3 xp3 xa4 xp4 m)
 replace kb:=bl kb hba
 replace kr:=bl kr hba
 replace Hv:=Z9 ((uh Hv).below hba)
 replace HO:=Z9 ((uh HO).below hba)
 replace ko:=bl ko hba
 replace HY:=Z9 ((uh HY).below hba)
 replace BB:=bt BB hba
 clear hba
 rw [hW3]
 clear hW3
 generalize w3.heap.size=xb at *
 obtain ⟨hn1,hn20⟩:=ZU (uh Hpb)
 have hnow:0<=m.now/\m.now<=1000000:=by
  have hd:=(uh HLo).head
  unfold Y2 at hd
  simp only [Bool.and_eq_true,decide_eq_true_eq] at hd
  exact ZU hd.2.2.2.2.2
 obtain ⟨hnow0,hnow1⟩:=hnow
 have c5:=(uh kb).cell (i:=5) (v:= .int .i64 m.now) rfl
 have x5:=(uh kx).cell (i:=5) (v:= .int .i64 m.now) rfl
 have f5:=(uh kx).free 5
 go_upto_region 8 with fail
 clear c5 x5 f5
 replace kx:Hid (Blk (W3.setCell ⟨xb,5,none⟩ (.int .i64 (m.now+n))) xb 32 #[.slice xa0 m.rooms.length xp0,.slice xa1 m.guilds.length xp1,.slice xa2 m.smiths.length xp2,.slice xa3 m.desks.length xp3,.slice xa4 m.paces.length xp4,.int .i64 (m.now+n)]):=Z9 ((uh kx).set 5 _)
 replace kb:Hid (Blk (W3.setCell ⟨xb,5,none⟩ (.int .i64 (m.now+n))) w.heap.size 32 (S6 a0 p0 a1 p1 a2 p2 a3 p3 a4 p4 m)):=Z9 ((uh kb).other (a:=⟨xb,5,none⟩) (by show w.heap.size ≠ xb;omega) (.int .i64 (m.now+n)))
 replace ko:Hid (Blk (W3.setCell ⟨xb,5,none⟩ (.int .i64 (m.now+n))) ob 32 (S6 b0 q0 b1 q1 b2 q2 b3 q3 b4 q4 m)):=Z9 ((uh ko).other (a:=⟨xb,5,none⟩) (by show ob ≠ xb;omega) (.int .i64 (m.now+n)))
 replace kr:Hid (Blk (W3.setCell ⟨xb,5,none⟩ (.int .i64 (m.now+n))) (w.heap.size+1) 32 E6):=Z9 ((uh kr).other (a:=⟨xb,5,none⟩) (by show (w.heap.size+1) ≠ xb;omega) (.int .i64 (m.now+n)))
 replace HO:Hid (FullSmy (w.heap.size+2) (W3.setCell ⟨xb,5,none⟩ (.int .i64 (m.now+n))) (.slice b0 m.rooms.length q0) (.slice b1 m.guilds.length q1) (.slice b2 m.smiths.length q2) (.slice b3 m.desks.length q3) (.slice b4 m.paces.length q4) m oq):=Z9 ((uh HO).set_off (fun k e=>by have:=(uh LO k e).2;omega) _ _)
 have HT:Hid (FullSmy (w.heap.size+2) (W3.setCell ⟨xb,5,none⟩ (.int .i64 (m.now+n))) (.slice xa0 m.rooms.length xp0) (.slice xa1 m.guilds.length xp1) (.slice xa2 m.smiths.length xp2) (.slice xa3 m.desks.length xp3) (.slice xa4 m.paces.length xp4) (TB m n m.smiths) xq):=Z9 (((uh HY).set_off (fun k e=>by have:=(uh LX k e).2;omega) _ _).onNow n)
 replace BB:Hid (Below w.heap.size w (W3.setCell ⟨xb,5,none⟩ (.int .i64 (m.now+n)))):=Z9 ((uh BB).setCell (p:=⟨xb,5,none⟩) (by show w.heap.size<=xb;omega) _)
 clear HY Hv
 generalize W3.setCell ⟨xb,5,none⟩ (.int .i64 (m.now+n))=W4 at *
 go_wp2_with fail
 go_loopw [8] (fun i wr=> ∃ (k:Nat) (ss:List Z3),k<=m.smiths.length/\i= .int .i64 k/\XY m n k=some ss/\FullSmy (w.heap.size+2) wr (.slice xa0 m.rooms.length xp0) (.slice xa1 m.guilds.length xp1) (.slice xa2 m.smiths.length xp2) (.slice xa3 m.desks.length xp3) (.slice xa4 m.paces.length xp4) (TB m n ss) xq/\Two (Value.slice xa2 m.smiths.length xp2).ownBlock none W4 wr) (fun i _=>m.smiths.length-(intOf i).toNat)
 case atStart=>exact ⟨0,m.smiths,Nat.zero_le _,rfl,rfl,uh HT,Two.refl _ _ _⟩
 case round=>
  obtain ⟨k,ss,hk,rfl,htk,hf1,htw⟩:=hrel
  obtain ⟨hsl,hsame⟩:=Qb htk
  have Htk:=Z9 htk
  have HF1:=Z9 hf1
  have Tw:=Z9 htw
  have hPx:∀ b,(Value.slice xa2 m.smiths.length xp2).ownBlock=some b->ob+1<=b/\b<xb:=fun b e=>uh LX b (.inr (.inr (.inr (.inl e))))
  have hPn:∀ R,(R<=ob\/xb<=R)->(Value.slice xa2 m.smiths.length xp2).ownBlock ≠ some R:=fun R h e=>by have:=hPx R e;omega
  have hN:∀ R:Nat,(none:Option Nat) ≠ some R:=fun R e=>by cases e
  replace kb:=Z9 ((uh kb).two htw (hPn _ (.inl (by omega))) (hN _))
  replace ko:=Z9 ((uh ko).two htw (hPn _ (.inl (by omega))) (hN _))
  replace kr:=Z9 ((uh kr).two htw (hPn _ (.inl (by omega))) (hN _))
  replace kx:=Z9 ((uh kx).two htw (hPn _ (.inr (Nat.le_refl _))) (hN _))
  replace HO:=Z9 ((uh HO).keep (fun k e0=>htw.block k ((uh HO).own e0).2 (fun e=>by have:=hPx k e;have:=(uh LO k e0).2;omega) (fun e=>by cases e)))
  replace BB:=Z9 ((uh BB).trans (htw.below (uh BB).size (fun b e=>by have:=hPx b e;omega) (fun b e=>by cases e)))
  have Hv:=Z9 ((uh Hv0).below (uh BB))
  have hobr:ob<wr.heap.size:=(uh ko).lt
  have hxbr:xb<wr.heap.size:=(uh kx).lt
  clear htk hf1 htw HT hPx hPn hN
  have x2:=(uh kx).cell (i:=2) (v:= .slice xa2 m.smiths.length xp2) rfl
  by_cases hlt:k<m.smiths.length
  ·
   have hlt1:(k:Int)<(m.smiths.length:Int):=by omega
   obtain ⟨g2,hga,_,hg2w,hc2,_⟩:=RecAt.view ZT (by omega) (uh HF1).smiths hsl.symm (by show 0<ss.length;omega)
   cases hga
   have hg2o:=uh LX g2 (.inr (.inr (.inr (.inl rfl))))
   have hsk:=hsame k (Nat.le_refl _)
   obtain ⟨⟨st,be,rk,my,gu,lo,hi,hd,ca,ut,wk⟩,hrk⟩:∃ d,Z8 m.smiths k=d:=⟨_,rfl⟩
   have hrs:Z8 (TB m n ss).smiths k=(st,be,rk,my,gu,lo,hi,hd,ca,ut,wk):=hsk.trans hrk
   have Hrk:=Z9 hrk
   have s0:=hc2 k (by show k<ss.length;omega) 0 _ rfl
   have s1:=hc2 k (by show k<ss.length;omega) 1 _ rfl
   have s2:=hc2 k (by show k<ss.length;omega) 2 _ rfl
   have s3:=hc2 k (by show k<ss.length;omega) 3 _ rfl
   have s4:=hc2 k (by show k<ss.length;omega) 4 _ rfl
   have s5:=hc2 k (by show k<ss.length;omega) 5 _ rfl
   have s6:=hc2 k (by show k<ss.length;omega) 6 _ rfl
   have s7:=hc2 k (by show k<ss.length;omega) 7 _ rfl
   have s8:=hc2 k (by show k<ss.length;omega) 8 _ rfl
   have s9:=hc2 k (by show k<ss.length;omega) 9 _ rfl
   have s10:=hc2 k (by show k<ss.length;omega) 10 _ rfl
   rw [hrs] at s0 s1 s2 s3 s4 s5 s6 s7 s8 s9 s10
   simp only [Nat.add_zero] at s0 s1 s2 s3 s4 s5 s6 s7 s8 s9 s10
   clear hc2 hsame hrs hrk
   have Hss:Hid (Z8 ss k=(st,be,rk,my,gu,lo,hi,hd,ca,ut,wk)):=Z9 (hsk.trans (uh Hrk))
   clear hsk
   have HG:Hid (st ≠ 0->Zf (st,be,rk,my,gu,lo,hi,hd,ca,ut,wk)=true/\be<m.desks.length/\0<=be):=Z9 (fun h0=>by
    obtain ⟨p,_,hb⟩:=(uh HLo).limits hlt (by rw [uh Hrk];exact h0)
    rw [uh Hrk] at p hb
    exact ⟨p,hb,(Zi p).2.1.1⟩)
   go_upto_region 12 with fail
   clear x2 s0 s1 s2 s3 s4 s5 s6 s7 s8 s9 s10
   obtain ⟨Y,hY,BR,ks⟩:=J5 wr 39 (I11 st be rk my gu lo hi hd ca ut wk)
   rw [hY]
   clear hY
   have e0:=(uh ks).cell (i:=0) (v:= .int .i64 st) rfl
   by_cases hst0:st=0
   ·
    subst hst0
    have hts:RE m n (Z8 m.smiths k)=some (Z8 ss k):=by rw [uh Hss,uh Hrk];unfold RE;rw [if_pos rfl]
    have hnx:XY m n (k+1)=some ss:=by rw [Tl (uh Htk) hts,Fi (by omega)]
    have Hnx:=Z9 hnx
    clear hts hnx
    go_wp2_with fail
    go_roundw
    case rel=>exact ⟨k+1,ss,by omega,by go_num,uh Hnx,(uh HF1).below (uh BR),(uh Tw).trans (Two.of_below (uh BR))⟩
    case measure=>exact ms
   have h00:(st ==0)=false:=by simp [hst0]
   have h01:decide (st=0)=false:=by simp [hst0]
   obtain ⟨hpb2,hbl,hb0⟩:=uh HG hst0
   obtain ⟨⟨hst1,hst3'⟩,_⟩:=Zi hpb2
   have Hp2:=Z9 hpb2
   clear hpb2 HG
   by_cases hst3:st=3
   rotate_left
   ·
    have h30:(st ==3)=false:=by simp [hst3]
    have h31:decide (st=3)=false:=by simp [hst3]
    go_upto_region 21 with fail
    clear e0
    have e9:=(uh ks).cell (i:=9) (v:= .int .i64 ut) rfl
    have f9:=(uh ks).free 9
    go_wp2_with fail
    refine ck (UX ut 0 n _) fun wf hwf=> ?_
    subst wf
    go_upto_region 22 with fail
    clear e9 f9
    replace ks:Hid (Blk (Y.setCell ⟨wr.heap.size,9,none⟩ (.int .i64 (ZN ut 0 n))) wr.heap.size 39 (I11 st be rk my gu lo hi hd ca (ZN ut 0 n) wk)):=Z9 ((uh ks).set 9 _)
    replace BR:Hid (Below wr.heap.size wr (Y.setCell ⟨wr.heap.size,9,none⟩ (.int .i64 (ZN ut 0 n)))):=Z9 ((uh BR).setCell (p:=⟨wr.heap.size,9,none⟩) (Nat.le_refl _) _)
    generalize Y.setCell ⟨wr.heap.size,9,none⟩ (.int .i64 (ZN ut 0 n))=Y9 at *
    obtain ⟨z0,z1,z2,z3,z4,z5,z6,z7,z8,z9,z10⟩:=(uh ks).c11
    have HF9:=Z9 ((uh HF1).below (uh BR))
    have kx9:=(uh kx).below (uh BR) (uh kx).lt
    have x2:=kx9.cell (i:=2) (v:= .slice (some ⟨g2,0,none⟩) m.smiths.length xp2) rfl
    obtain ⟨_,hga,_,_,hc2,hz2⟩:=RecAt.view ZT (by omega) (uh HF9).smiths hsl.symm (by show 0<ss.length;omega)
    cases hga
    have s0:=hc2 k (by show k<ss.length;omega) 0 _ rfl
    have fz0:=hz2 (k*11+0)
    have s1:=hc2 k (by show k<ss.length;omega) 1 _ rfl
    have fz1:=hz2 (k*11+1)
    have s2:=hc2 k (by show k<ss.length;omega) 2 _ rfl
    have fz2:=hz2 (k*11+2)
    have s3:=hc2 k (by show k<ss.length;omega) 3 _ rfl
    have fz3:=hz2 (k*11+3)
    have s4:=hc2 k (by show k<ss.length;omega) 4 _ rfl
    have fz4:=hz2 (k*11+4)
    have s5:=hc2 k (by show k<ss.length;omega) 5 _ rfl
    have fz5:=hz2 (k*11+5)
    have s6:=hc2 k (by show k<ss.length;omega) 6 _ rfl
    have fz6:=hz2 (k*11+6)
    have s7:=hc2 k (by show k<ss.length;omega) 7 _ rfl
    have fz7:=hz2 (k*11+7)
    have s8:=hc2 k (by show k<ss.length;omega) 8 _ rfl
    have fz8:=hz2 (k*11+8)
    have s9:=hc2 k (by show k<ss.length;omega) 9 _ rfl
    have fz9:=hz2 (k*11+9)
    have s10:=hc2 k (by show k<ss.length;omega) 10 _ rfl
    have fz10:=hz2 (k*11+10)
    simp only [Nat.add_zero] at s0 fz0
    have hput:=(uh HF9).putW hsl.symm (j:=k) (by show k<ss.length;omega) (st,be,rk,my,gu,lo,hi,hd,ca,(ZN ut 0 n),wk)
    rw [show ZV (st,be,rk,my,gu,lo,hi,hd,ca,(ZN ut 0 n),wk)=[.int .i64 st,.int .i64 be,.int .i64 rk,.int .i64 my,.int .i64 gu,.int .i64 lo,.int .i64 hi,.int .i64 hd,.int .i64 ca,.int .i64 (ZN ut 0 n),.int .i64 wk] from rfl,QQ] at hput
    have HP:=Z9 hput
    have Hnx:Hid (XY m n (k+1)=some (ss.set k (st,be,rk,my,gu,lo,hi,hd,ca,(ZN ut 0 n),wk))):=Z9 (Tl (uh Htk) (by rw [uh Hrk];unfold RE;rw [if_neg hst0,if_neg hst3];rfl))
    have htw9:=Two.of_setW (p:=some g2) (q:=none) (g:=g2) (.inl rfl) (ZV (st,be,rk,my,gu,lo,hi,hd,ca,(ZN ut 0 n),wk)) Y9 (k*11)
    rw [show ZV (st,be,rk,my,gu,lo,hi,hd,ca,(ZN ut 0 n),wk)=[.int .i64 st,.int .i64 be,.int .i64 rk,.int .i64 my,.int .i64 gu,.int .i64 lo,.int .i64 hi,.int .i64 hd,.int .i64 ca,.int .i64 (ZN ut 0 n),.int .i64 wk] from rfl,QQ] at htw9
    have TW9:=Z9 (((uh Tw).trans (Two.of_below (uh BR))).trans htw9)
    clear htw9
    clear hput hc2 hz2 kx9
    go_wp2_with fail
    go_roundw
    case rel=>exact ⟨k+1,_,by omega,by go_num,uh Hnx,uh HP,uh TW9⟩
    case measure=>exact ms
   subst hst3
   obtain ⟨bn,rfl⟩:∃ bn:Nat,be=(bn:Int):=⟨be.toNat,by omega⟩
   have hbn:YN m.rooms (bn:Int)=true:=(uh HLo).sane.bench (by omega)
   have hrl:=OK hbn
   have Hbn:=Z9 hbn
   obtain ⟨fo,hfo⟩:∃ q,Uh m (bn:Int)=q:=⟨_,rfl⟩
   have Hfo:=Z9 hfo
   obtain ⟨pp,hpp,hppl,hf1',hf2'⟩:=Dc (uh HLo) hrl
   have hfo2:(Z7 (Z0 m.rooms (Yw m.rooms (bn:Int))).2 pp).1=fo:=by rw [<-hfo];unfold Uh;rw [hpp];simp
   rw [hfo2] at hf1' hf2'
   obtain ⟨r,hr⟩:∃ r,Yw m.rooms (bn:Int)=r:=⟨_,rfl⟩
   rw [hr] at hrl hpp hppl hfo2
   have Hr:=Z9 hr
   have Hpp:=Z9 hpp
   have Hfo2:=Z9 hfo2
   clear hbn hfo hpp hfo2 hr
   have kbY:=(uh kb).below (uh BR) (uh kb).lt
   have c0:=kbY.cell (i:=0) (v:= .slice a0 m.rooms.length p0) rfl
   have e1:=(uh ks).cell (i:=1) (v:= .int .i64 (bn:Int)) rfl
   clear kbY
   go_wp2_with fail
   refine (TM (bn:Int) ((uh Hv).below (uh BR)).rooms (uh Hbn)).mono ?_
   rw [uh Hr]
   rintro e w5 ⟨rfl,hb⟩
   replace ks:=bl ks hb
   replace BR:=Z9 ((uh BR).trans (hb.mono (uh BR).size))
   clear hb e0 e1 c0
   obtain ⟨_,_,hre,_,_,r0⟩:=((uh Hv).below (uh BR)).rooms
   cases hre
   rcases r0 with e0 | ⟨rb,off,rfl,hbw,hcl⟩
   ·rw [e0] at hrl;simp at hrl
   obtain ⟨_,pv,d1,hpv⟩:=hcl r hrl
   obtain ⟨pa,pc,rfl,_,_,hpr⟩:=hpv
   rcases hpr with e0 | ⟨pbk,po,rfl,hpw,hpc⟩
   ·rw [e0] at hppl;simp at hppl
   obtain ⟨d2,_⟩:=hpc pp hppl
   rw [uh Hfo2] at d2
   obtain ⟨_,_,hpe,_,_,r4⟩:=((uh Hv).below (uh BR)).paces
   cases hpe
   rcases r4 with e0 | ⟨nb,no,rfl,hnw,hnc⟩
   ·exfalso
    have h9:=XC (uh HLo)
    have h8:m.paces.length=0:=by rw [e0];rfl
    omega
   have d3:=hnc r (by rw [XC (uh HLo)];exact hrl) 0 _ rfl
   simp only [Nat.mul_one,Nat.add_zero] at d3
   rw [uh Hpp] at d3
   obtain ⟨pl,hpl⟩:∃ q,(Z0 m.rooms r).2.length=q:=⟨_,rfl⟩
   rw [hpl] at d1 hppl
   have hr1:(r:Int)<(m.rooms.length:Int):=by omega
   have hr2:(r:Int)<(m.paces.length:Int):=by rw [XC (uh HLo)];omega
   have hp1:(pp:Int)<(pl:Int):=by omega
   have kbY:=(uh kb).below (uh BR) (uh kb).lt
   have c0:=kbY.cell (i:=0) (v:= .slice (some ⟨rb,off,none⟩) m.rooms.length p0) rfl
   have c4:=kbY.cell (i:=4) (v:= .slice (some ⟨nb,no,none⟩) m.paces.length p4) rfl
   clear hcl hpc hnc kbY hpl
   go_wp2_with fail
   refine ZS (S:=fun w'=>w'.cell? ⟨w.heap.size,0,none⟩=some (.slice (some ⟨rb,off,none⟩) m.rooms.length p0)/\w'.cell? ⟨w.heap.size,4,none⟩=some (.slice (some ⟨nb,no,none⟩) m.paces.length p4)/\w'.cell? ⟨rb,off+r*2+1,none⟩=some (.slice (some ⟨pbk,po,none⟩) pl pc)/\w'.cell? ⟨nb,no+r,none⟩=some (.int .i64 (pp:Int))/\w'.cell? ⟨pbk,po+pp*2,none⟩=some (.int .i64 fo)) (by kernel_rfl) (List.cons_ne_nil _ _) (by kernel_rfl) ⟨c0,c4,d1,d3,d2⟩ (fun hHeld=> ?_)
   simp only [List.dropLast_cons_cons,List.dropLast_singleton,List.length_cons,List.length_nil,Nat.zero_add,Nat.reduceAdd]
   (refine tq 0 ?_;(try simp only [Act.put,sA,sZ,sS]))
   (refine tq 1 ?_;(try simp only [Act.put,sA,sZ,sS]))
   (refine tq 2 ?_;(try simp only [Act.put,sA,sZ,sS]))
   (refine tq 3 ?_;(try simp only [Act.put,sA,sZ,sS]))
   (refine tq 4 ?_;(try simp only [Act.put,sA,sZ,sS]))
   (refine tq 5 ?_;(try simp only [Act.put,sA,sZ,sS]))
   (refine tq 6 ?_;(try simp only [Act.put,sA,sZ,sS]))
   (refine tq 7 ?_;(try simp only [Act.put,sA,sZ,sS]))
   (refine tq 8 ?_;(try simp only [Act.put,sA,sZ,sS]))
   (refine tq 9 ?_;(try simp only [Act.put,sA,sZ,sS]))
   (refine tq 10 ?_;(try simp only [Act.put,sA,sZ,sS]))
   (refine tq 11 ?_;(try simp only [Act.put,sA,sZ,sS]))
   (refine tq 12 ?_;(try simp only [Act.put,sA,sZ,sS]))
   (refine tq 13 ?_;(try simp only [Act.put,sA,sZ,sS]))
   (refine tq 14 ?_;(try simp only [Act.put,sA,sZ,sS]))
   refine wpAnyH_done (by kernel_rfl) ?_ _
   refine ZH rfl rfl ?_
   go_simp
   clear hHeld c0 c4 d1 d2 d3
   replace ks:=Z9 ((uh ks).below (Below.refl _ _).drew (uh ks).lt)
   replace BR:=Z9 (uh BR).drew
   generalize w5.drew=Y5 at *
   obtain ⟨⟨⟨t0,t1,t2,t3,t4,t5,t6,t7,t8,t9,t10⟩,iq⟩,hch⟩:∃ q,XE (3,(bn:Int),rk,my,gu,lo,hi,hd,ca,ut,wk) (n*fo)=q:=⟨_,rfl⟩
   have Hch:=Z9 hch
   clear hch
   have hnf0:0<=n*fo:=Int.mul_nonneg (by omega) (by omega)
   have hnf1:n*fo<=20480:=by
    have h1:n*fo<=20*fo:=Int.mul_le_mul_of_nonneg_right hn20 (by omega)
    have h2:20*fo<=20480:=by omega
    omega
   obtain ⟨z0,z1,z2,z3,z4,z5,z6,z7,z8,z9,z10⟩:=(uh ks).c11
   go_wp2_with fail
   clear z0 z1 z2 z3 z4 z5 z6 z7 z8 z9 z10
   refine ck (Nr (uh Hch) _) fun w6 hb=> ?_
   replace ks:=bl ks hb
   replace BR:=Z9 ((uh BR).trans (hb.mono (uh BR).size))
   clear hb
   simp only [ZV]
   go_upto_region 18 with fail
   obtain ⟨Y6,hY6,hb,kt⟩:=YO w6 39 (I11 t0 t1 t2 t3 t4 t5 t6 t7 t8 t9 t10)
   have hks6:=(uh ks).lt
   replace ks:=bl ks hb
   replace BR:=Z9 ((uh BR).trans (hb.mono (uh BR).size))
   clear hb
   rw [hY6]
   clear hY6
   generalize w6.heap.size=tb at *
   cases iq
   ·
    have hno:XY m n m.smiths.length=none:=KH (uh Htk) (by rw [uh Hrk];unfold RE;rw [if_neg (by show ¬ (3:Int)=0;omega),if_pos rfl];simp only;rw [uh Hfo,uh Hch];rfl) hlt
    have Hno:=Z9 hno
    clear hno
    replace ko:=Z9 ((uh ko).below (uh BR) (uh ko).lt)
    replace kr:=Z9 ((uh kr).below (uh BR) (uh kr).lt)
    replace HO:=Z9 ((uh HO).below (uh BR))
    replace BB:=Z9 ((uh BB).trans ((uh BR).mono (uh BB).size))
    obtain ⟨x0,x1,x2,x3,x4,x5⟩:=(uh ko).c6
    obtain ⟨o0,o1,o2,o3,o4,o5⟩:=(uh kr).c6
    obtain ⟨f0,f1,f2,f3,f4,f5⟩:=(uh kr).f6
    go_wp2_with fail
    have hX0:X=(m,4):=by rw [<-uh HX];unfold TA;rw [uh Hok];simp only [if_true];rw [uh Hpb];simp only [if_true];rw [uh Hno]
    exact bodyPost_ret (v:= .tuple #[.agg (S6 b0 q0 b1 q1 b2 q2 b3 q3 b4 q4 m),.int .i64 4]) (by simp [results,Tryz.results10,go_sem, *]) rfl (Zr hX0 rfl (uh HO) (uh BB))
   have z0:=(uh kt).cell (i:=0) (v:= .int .i64 t0) rfl
   have y0:=(uh ks).cell (i:=0) (v:= .int .i64 3) rfl
   have f0:=(uh ks).free 0
   have z1:=(uh kt).cell (i:=1) (v:= .int .i64 t1) rfl
   have y1:=(uh ks).cell (i:=1) (v:= .int .i64 (bn:Int)) rfl
   have f1:=(uh ks).free 1
   have z2:=(uh kt).cell (i:=2) (v:= .int .i64 t2) rfl
   have y2:=(uh ks).cell (i:=2) (v:= .int .i64 rk) rfl
   have f2:=(uh ks).free 2
   have z3:=(uh kt).cell (i:=3) (v:= .int .i64 t3) rfl
   have y3:=(uh ks).cell (i:=3) (v:= .int .i64 my) rfl
   have f3:=(uh ks).free 3
   have z4:=(uh kt).cell (i:=4) (v:= .int .i64 t4) rfl
   have y4:=(uh ks).cell (i:=4) (v:= .int .i64 gu) rfl
   have f4:=(uh ks).free 4
   have z5:=(uh kt).cell (i:=5) (v:= .int .i64 t5) rfl
   have y5:=(uh ks).cell (i:=5) (v:= .int .i64 lo) rfl
   have f5:=(uh ks).free 5
   have z6:=(uh kt).cell (i:=6) (v:= .int .i64 t6) rfl
   have y6:=(uh ks).cell (i:=6) (v:= .int .i64 hi) rfl
   have f6:=(uh ks).free 6
   have z7:=(uh kt).cell (i:=7) (v:= .int .i64 t7) rfl
   have y7:=(uh ks).cell (i:=7) (v:= .int .i64 hd) rfl
   have f7:=(uh ks).free 7
   have z8:=(uh kt).cell (i:=8) (v:= .int .i64 t8) rfl
   have y8:=(uh ks).cell (i:=8) (v:= .int .i64 ca) rfl
   have f8:=(uh ks).free 8
   have z9:=(uh kt).cell (i:=9) (v:= .int .i64 t9) rfl
   have y9:=(uh ks).cell (i:=9) (v:= .int .i64 ut) rfl
   have f9:=(uh ks).free 9
   have z10:=(uh kt).cell (i:=10) (v:= .int .i64 t10) rfl
   have y10:=(uh ks).cell (i:=10) (v:= .int .i64 wk) rfl
   have f10:=(uh ks).free 10
   go_upto_region 21 with fail
   clear z0 y0 f0 z1 y1 f1 z2 y2 f2 z3 y3 f3 z4 y4 f4 z5 y5 f5 z6 y6 f6 z7 y7 f7 z8 y8 f8 z9 y9 f9 z10 y10 f10
   have q0:Blk (Y6.setCell ⟨wr.heap.size,0,none⟩ (.int .i64 t0)) wr.heap.size 39 (I11 t0 (bn:Int) rk my gu lo hi hd ca ut wk):=(uh ks).set 0 _
   have q1:Blk ((Y6.setCell ⟨wr.heap.size,0,none⟩ (.int .i64 t0)).setCell ⟨wr.heap.size,1,none⟩ (.int .i64 t1)) wr.heap.size 39 (I11 t0 t1 rk my gu lo hi hd ca ut wk):=q0.set 1 _
   have q2:Blk (((Y6.setCell ⟨wr.heap.size,0,none⟩ (.int .i64 t0)).setCell ⟨wr.heap.size,1,none⟩ (.int .i64 t1)).setCell ⟨wr.heap.size,2,none⟩ (.int .i64 t2)) wr.heap.size 39 (I11 t0 t1 t2 my gu lo hi hd ca ut wk):=q1.set 2 _
   have q3:Blk ((((Y6.setCell ⟨wr.heap.size,0,none⟩ (.int .i64 t0)).setCell ⟨wr.heap.size,1,none⟩ (.int .i64 t1)).setCell ⟨wr.heap.size,2,none⟩ (.int .i64 t2)).setCell ⟨wr.heap.size,3,none⟩ (.int .i64 t3)) wr.heap.size 39 (I11 t0 t1 t2 t3 gu lo hi hd ca ut wk):=q2.set 3 _
   have q4:Blk (((((Y6.setCell ⟨wr.heap.size,0,none⟩ (.int .i64 t0)).setCell ⟨wr.heap.size,1,none⟩ (.int .i64 t1)).setCell ⟨wr.heap.size,2,none⟩ (.int .i64 t2)).setCell ⟨wr.heap.size,3,none⟩ (.int .i64 t3)).setCell ⟨wr.heap.size,4,none⟩ (.int .i64 t4)) wr.heap.size 39 (I11 t0 t1 t2 t3 t4 lo hi hd ca ut wk):=q3.set 4 _
   have q5:Blk ((((((Y6.setCell ⟨wr.heap.size,0,none⟩ (.int .i64 t0)).setCell ⟨wr.heap.size,1,none⟩ (.int .i64 t1)).setCell ⟨wr.heap.size,2,none⟩ (.int .i64 t2)).setCell ⟨wr.heap.size,3,none⟩ (.int .i64 t3)).setCell ⟨wr.heap.size,4,none⟩ (.int .i64 t4)).setCell ⟨wr.heap.size,5,none⟩ (.int .i64 t5)) wr.heap.size 39 (I11 t0 t1 t2 t3 t4 t5 hi hd ca ut wk):=q4.set 5 _
   have q6:Blk (((((((Y6.setCell ⟨wr.heap.size,0,none⟩ (.int .i64 t0)).setCell ⟨wr.heap.size,1,none⟩ (.int .i64 t1)).setCell ⟨wr.heap.size,2,none⟩ (.int .i64 t2)).setCell ⟨wr.heap.size,3,none⟩ (.int .i64 t3)).setCell ⟨wr.heap.size,4,none⟩ (.int .i64 t4)).setCell ⟨wr.heap.size,5,none⟩ (.int .i64 t5)).setCell ⟨wr.heap.size,6,none⟩ (.int .i64 t6)) wr.heap.size 39 (I11 t0 t1 t2 t3 t4 t5 t6 hd ca ut wk):=q5.set 6 _
   have q7:Blk ((((((((Y6.setCell ⟨wr.heap.size,0,none⟩ (.int .i64 t0)).setCell ⟨wr.heap.size,1,none⟩ (.int .i64 t1)).setCell ⟨wr.heap.size,2,none⟩ (.int .i64 t2)).setCell ⟨wr.heap.size,3,none⟩ (.int .i64 t3)).setCell ⟨wr.heap.size,4,none⟩ (.int .i64 t4)).setCell ⟨wr.heap.size,5,none⟩ (.int .i64 t5)).setCell ⟨wr.heap.size,6,none⟩ (.int .i64 t6)).setCell ⟨wr.heap.size,7,none⟩ (.int .i64 t7)) wr.heap.size 39 (I11 t0 t1 t2 t3 t4 t5 t6 t7 ca ut wk):=q6.set 7 _
   have q8:Blk (((((((((Y6.setCell ⟨wr.heap.size,0,none⟩ (.int .i64 t0)).setCell ⟨wr.heap.size,1,none⟩ (.int .i64 t1)).setCell ⟨wr.heap.size,2,none⟩ (.int .i64 t2)).setCell ⟨wr.heap.size,3,none⟩ (.int .i64 t3)).setCell ⟨wr.heap.size,4,none⟩ (.int .i64 t4)).setCell ⟨wr.heap.size,5,none⟩ (.int .i64 t5)).setCell ⟨wr.heap.size,6,none⟩ (.int .i64 t6)).setCell ⟨wr.heap.size,7,none⟩ (.int .i64 t7)).setCell ⟨wr.heap.size,8,none⟩ (.int .i64 t8)) wr.heap.size 39 (I11 t0 t1 t2 t3 t4 t5 t6 t7 t8 ut wk):=q7.set 8 _
   have q9:Blk ((((((((((Y6.setCell ⟨wr.heap.size,0,none⟩ (.int .i64 t0)).setCell ⟨wr.heap.size,1,none⟩ (.int .i64 t1)).setCell ⟨wr.heap.size,2,none⟩ (.int .i64 t2)).setCell ⟨wr.heap.size,3,none⟩ (.int .i64 t3)).setCell ⟨wr.heap.size,4,none⟩ (.int .i64 t4)).setCell ⟨wr.heap.size,5,none⟩ (.int .i64 t5)).setCell ⟨wr.heap.size,6,none⟩ (.int .i64 t6)).setCell ⟨wr.heap.size,7,none⟩ (.int .i64 t7)).setCell ⟨wr.heap.size,8,none⟩ (.int .i64 t8)).setCell ⟨wr.heap.size,9,none⟩ (.int .i64 t9)) wr.heap.size 39 (I11 t0 t1 t2 t3 t4 t5 t6 t7 t8 t9 wk):=q8.set 9 _
   have q10:Blk (((((((((((Y6.setCell ⟨wr.heap.size,0,none⟩ (.int .i64 t0)).setCell ⟨wr.heap.size,1,none⟩ (.int .i64 t1)).setCell ⟨wr.heap.size,2,none⟩ (.int .i64 t2)).setCell ⟨wr.heap.size,3,none⟩ (.int .i64 t3)).setCell ⟨wr.heap.size,4,none⟩ (.int .i64 t4)).setCell ⟨wr.heap.size,5,none⟩ (.int .i64 t5)).setCell ⟨wr.heap.size,6,none⟩ (.int .i64 t6)).setCell ⟨wr.heap.size,7,none⟩ (.int .i64 t7)).setCell ⟨wr.heap.size,8,none⟩ (.int .i64 t8)).setCell ⟨wr.heap.size,9,none⟩ (.int .i64 t9)).setCell ⟨wr.heap.size,10,none⟩ (.int .i64 t10)) wr.heap.size 39 (I11 t0 t1 t2 t3 t4 t5 t6 t7 t8 t9 t10):=q9.set 10 _
   replace ks:Hid (Blk (((((((((((Y6.setCell ⟨wr.heap.size,0,none⟩ (.int .i64 t0)).setCell ⟨wr.heap.size,1,none⟩ (.int .i64 t1)).setCell ⟨wr.heap.size,2,none⟩ (.int .i64 t2)).setCell ⟨wr.heap.size,3,none⟩ (.int .i64 t3)).setCell ⟨wr.heap.size,4,none⟩ (.int .i64 t4)).setCell ⟨wr.heap.size,5,none⟩ (.int .i64 t5)).setCell ⟨wr.heap.size,6,none⟩ (.int .i64 t6)).setCell ⟨wr.heap.size,7,none⟩ (.int .i64 t7)).setCell ⟨wr.heap.size,8,none⟩ (.int .i64 t8)).setCell ⟨wr.heap.size,9,none⟩ (.int .i64 t9)).setCell ⟨wr.heap.size,10,none⟩ (.int .i64 t10)) wr.heap.size 39 (I11 t0 t1 t2 t3 t4 t5 t6 t7 t8 t9 t10)):=Z9 q10
   replace BR:Hid (Below wr.heap.size wr (((((((((((Y6.setCell ⟨wr.heap.size,0,none⟩ (.int .i64 t0)).setCell ⟨wr.heap.size,1,none⟩ (.int .i64 t1)).setCell ⟨wr.heap.size,2,none⟩ (.int .i64 t2)).setCell ⟨wr.heap.size,3,none⟩ (.int .i64 t3)).setCell ⟨wr.heap.size,4,none⟩ (.int .i64 t4)).setCell ⟨wr.heap.size,5,none⟩ (.int .i64 t5)).setCell ⟨wr.heap.size,6,none⟩ (.int .i64 t6)).setCell ⟨wr.heap.size,7,none⟩ (.int .i64 t7)).setCell ⟨wr.heap.size,8,none⟩ (.int .i64 t8)).setCell ⟨wr.heap.size,9,none⟩ (.int .i64 t9)).setCell ⟨wr.heap.size,10,none⟩ (.int .i64 t10))):=Z9 ((((((((((((uh BR).setCell (p:=⟨wr.heap.size,0,none⟩) (Nat.le_refl _) _).setCell (p:=⟨wr.heap.size,1,none⟩) (Nat.le_refl _) _).setCell (p:=⟨wr.heap.size,2,none⟩) (Nat.le_refl _) _).setCell (p:=⟨wr.heap.size,3,none⟩) (Nat.le_refl _) _).setCell (p:=⟨wr.heap.size,4,none⟩) (Nat.le_refl _) _).setCell (p:=⟨wr.heap.size,5,none⟩) (Nat.le_refl _) _).setCell (p:=⟨wr.heap.size,6,none⟩) (Nat.le_refl _) _).setCell (p:=⟨wr.heap.size,7,none⟩) (Nat.le_refl _) _).setCell (p:=⟨wr.heap.size,8,none⟩) (Nat.le_refl _) _).setCell (p:=⟨wr.heap.size,9,none⟩) (Nat.le_refl _) _).setCell (p:=⟨wr.heap.size,10,none⟩) (Nat.le_refl _) _)
   clear q0 q1 q2 q3 q4 q5 q6 q7 q8 q9 q10
   generalize ((((((((((Y6.setCell ⟨wr.heap.size,0,none⟩ (.int .i64 t0)).setCell ⟨wr.heap.size,1,none⟩ (.int .i64 t1)).setCell ⟨wr.heap.size,2,none⟩ (.int .i64 t2)).setCell ⟨wr.heap.size,3,none⟩ (.int .i64 t3)).setCell ⟨wr.heap.size,4,none⟩ (.int .i64 t4)).setCell ⟨wr.heap.size,5,none⟩ (.int .i64 t5)).setCell ⟨wr.heap.size,6,none⟩ (.int .i64 t6)).setCell ⟨wr.heap.size,7,none⟩ (.int .i64 t7)).setCell ⟨wr.heap.size,8,none⟩ (.int .i64 t8)).setCell ⟨wr.heap.size,9,none⟩ (.int .i64 t9)).setCell ⟨wr.heap.size,10,none⟩ (.int .i64 t10)=Y7 at *
   have e9:=(uh ks).cell (i:=9) (v:= .int .i64 t9) rfl
   have f9:=(uh ks).free 9
   go_wp2_with fail
   refine ck (UX t9 fo n _) fun wf hwf=> ?_
   subst wf
   go_upto_region 22 with fail
   clear e9 f9
   replace ks:Hid (Blk (Y7.setCell ⟨wr.heap.size,9,none⟩ (.int .i64 (ZN t9 fo n))) wr.heap.size 39 (I11 t0 t1 t2 t3 t4 t5 t6 t7 t8 (ZN t9 fo n) t10)):=Z9 ((uh ks).set 9 _)
   replace BR:Hid (Below wr.heap.size wr (Y7.setCell ⟨wr.heap.size,9,none⟩ (.int .i64 (ZN t9 fo n)))):=Z9 ((uh BR).setCell (p:=⟨wr.heap.size,9,none⟩) (Nat.le_refl _) _)
   generalize Y7.setCell ⟨wr.heap.size,9,none⟩ (.int .i64 (ZN t9 fo n))=Y9 at *
   obtain ⟨z0,z1,z2,z3,z4,z5,z6,z7,z8,z9,z10⟩:=(uh ks).c11
   have HF9:=Z9 ((uh HF1).below (uh BR))
   have kx9:=(uh kx).below (uh BR) (uh kx).lt
   have x2:=kx9.cell (i:=2) (v:= .slice (some ⟨g2,0,none⟩) m.smiths.length xp2) rfl
   obtain ⟨_,hga,_,_,hc2,hz2⟩:=RecAt.view ZT (by omega) (uh HF9).smiths hsl.symm (by show 0<ss.length;omega)
   cases hga
   have s0:=hc2 k (by show k<ss.length;omega) 0 _ rfl
   have fz0:=hz2 (k*11+0)
   have s1:=hc2 k (by show k<ss.length;omega) 1 _ rfl
   have fz1:=hz2 (k*11+1)
   have s2:=hc2 k (by show k<ss.length;omega) 2 _ rfl
   have fz2:=hz2 (k*11+2)
   have s3:=hc2 k (by show k<ss.length;omega) 3 _ rfl
   have fz3:=hz2 (k*11+3)
   have s4:=hc2 k (by show k<ss.length;omega) 4 _ rfl
   have fz4:=hz2 (k*11+4)
   have s5:=hc2 k (by show k<ss.length;omega) 5 _ rfl
   have fz5:=hz2 (k*11+5)
   have s6:=hc2 k (by show k<ss.length;omega) 6 _ rfl
   have fz6:=hz2 (k*11+6)
   have s7:=hc2 k (by show k<ss.length;omega) 7 _ rfl
   have fz7:=hz2 (k*11+7)
   have s8:=hc2 k (by show k<ss.length;omega) 8 _ rfl
   have fz8:=hz2 (k*11+8)
   have s9:=hc2 k (by show k<ss.length;omega) 9 _ rfl
   have fz9:=hz2 (k*11+9)
   have s10:=hc2 k (by show k<ss.length;omega) 10 _ rfl
   have fz10:=hz2 (k*11+10)
   simp only [Nat.add_zero] at s0 fz0
   have hput:=(uh HF9).putW hsl.symm (j:=k) (by show k<ss.length;omega) (t0,t1,t2,t3,t4,t5,t6,t7,t8,(ZN t9 fo n),t10)
   rw [show ZV (t0,t1,t2,t3,t4,t5,t6,t7,t8,(ZN t9 fo n),t10)=[.int .i64 t0,.int .i64 t1,.int .i64 t2,.int .i64 t3,.int .i64 t4,.int .i64 t5,.int .i64 t6,.int .i64 t7,.int .i64 t8,.int .i64 (ZN t9 fo n),.int .i64 t10] from rfl,QQ] at hput
   have HP:=Z9 hput
   have Hnx:Hid (XY m n (k+1)=some (ss.set k (t0,t1,t2,t3,t4,t5,t6,t7,t8,(ZN t9 fo n),t10))):=Z9 (Tl (uh Htk) (by rw [uh Hrk];unfold RE;rw [if_neg (by show ¬ (3:Int)=0;omega),if_pos rfl];simp only;rw [uh Hfo,uh Hch];rfl))
   have htw9:=Two.of_setW (p:=some g2) (q:=none) (g:=g2) (.inl rfl) (ZV (t0,t1,t2,t3,t4,t5,t6,t7,t8,(ZN t9 fo n),t10)) Y9 (k*11)
   rw [show ZV (t0,t1,t2,t3,t4,t5,t6,t7,t8,(ZN t9 fo n),t10)=[.int .i64 t0,.int .i64 t1,.int .i64 t2,.int .i64 t3,.int .i64 t4,.int .i64 t5,.int .i64 t6,.int .i64 t7,.int .i64 t8,.int .i64 (ZN t9 fo n),.int .i64 t10] from rfl,QQ] at htw9
   have TW9:=Z9 (((uh Tw).trans (Two.of_below (uh BR))).trans htw9)
   clear htw9
   clear hput hc2 hz2 kx9
   go_wp2_with fail
   go_roundw
   case rel=>exact ⟨k+1,_,by omega,by go_num,uh Hnx,uh HP,uh TW9⟩
   case measure=>exact ms
  ·
   obtain rfl:k=m.smiths.length:=by omega
   clear hsame
   obtain ⟨lb,hlb⟩:∃ q,Y0 (TB m n ss)=q:=⟨_,rfl⟩
   have Hlb:=Z9 hlb
   clear hlb
   obtain ⟨z0,z1,z2,z3,z4,z5⟩:=(uh kx).c6
   go_wp2_with fail
   clear x2 z0 z1 z2 z3 z4 z5
   refine (VC (m:=TB m n ss) (uh HF1).smy).mono ?_
   rw [uh Hlb]
   rintro e w8 ⟨rfl,hb⟩
   replace kx:=bl kx hb
   replace ko:=bl ko hb
   replace kr:=bl kr hb
   replace HO:=Z9 ((uh HO).below hb)
   replace HF1:=Z9 ((uh HF1).below hb)
   replace BB:=bt BB hb
   clear hb
   cases lb
   ·
    obtain ⟨x0,x1,x2,x3,x4,x5⟩:=(uh ko).c6
    obtain ⟨o0,o1,o2,o3,o4,o5⟩:=(uh kr).c6
    obtain ⟨f0,f1,f2,f3,f4,f5⟩:=(uh kr).f6
    go_wp2_with fail
    have hX0:X=(m,4):=by rw [<-uh HX];unfold TA;rw [uh Hok];simp only [if_true];rw [uh Hpb];simp only [if_true];rw [uh Htk];simp only;rw [uh Hlb];rfl
    exact bodyPost_ret (v:= .tuple #[.agg (S6 b0 q0 b1 q1 b2 q2 b3 q3 b4 q4 m),.int .i64 4]) (by simp [results,Tryz.results10,go_sem, *]) rfl (Zr hX0 rfl (uh HO) (uh BB))
   have hofX:∀ k,WW (.slice xa0 m.rooms.length xp0) (.slice xa1 m.guilds.length xp1) (.slice xa2 m.smiths.length xp2) (.slice xa3 m.desks.length xp3) (.slice xa4 m.paces.length xp4) xq k->k ≠ xb:=fun k e=>by have:=(uh LX k e).2;omega
   go_wp2_with fail
   refine (SY (m:=TB m n ss) (uh kx) (uh HF1) (fun e=>hofX _ (.inr (.inr (.inr (.inl e)))) rfl) (fun e=>hofX _ (.inr (.inr (.inr (.inr (.inl e))))) rfl) (by show ss.length<=800;have:=(uh HFew).smiths;omega) (uh HFew).desks).mono ?_
   rintro e w9 ⟨rfl,hf9,ht9⟩
   replace kr:=Z9 ((uh kr).two ht9 (fun e=>by have:=(uh LX _ (.inr (.inr (.inr (.inl e))))).1;omega) (fun e=>by have:=(uh LX _ (.inr (.inr (.inr (.inr (.inl e)))))).1;omega))
   replace BB:=Z9 ((uh BB).trans (ht9.below (uh BB).size (fun k e=>by have:=(uh LX k (.inr (.inr (.inr (.inl e))))).1;omega) (fun k e=>by have:=(uh LX k (.inr (.inr (.inr (.inr (.inl e)))))).1;omega)))
   have HF9:=Z9 hf9
   clear hf9 ht9 hofX
   obtain ⟨o0,o1,o2,o3,o4,o5⟩:=(uh kr).c6
   obtain ⟨f0,f1,f2,f3,f4,f5⟩:=(uh kr).f6
   go_wp2_with fail
   have hX0:X=(ZX (TB m n ss),0):=by rw [<-uh HX];unfold TA;rw [uh Hok];simp only [if_true];rw [uh Hpb];simp only [if_true];rw [uh Htk];simp only;rw [uh Hlb];rfl
   have hnow9:(ZX (TB m n ss)).now=m.now+n:=(ZQ _ _).2.2.2.1
   refine bodyPost_ret (v:= .tuple #[.agg #[.slice xa0 m.rooms.length xp0,.slice xa1 m.guilds.length xp1,.slice xa2 m.smiths.length xp2,.slice xa3 m.desks.length xp3,.slice xa4 m.paces.length xp4,.int .i64 (m.now+n)],.int .i64 0]) (by simp [results,Tryz.results10,go_sem,TB, *]) rfl ⟨?_,?_⟩
   ·rw [hX0];refine ⟨_,_,_,_,_,xq,by rw [hnow9],?_⟩
    iterate 6 (refine FullSmy.set_off ?_ (fun k e=>by have:=(uh LX k e).1;omega) _ _)
    exact (uh HF9).mono (by omega)
   ·iterate 6 (refine Below.setCell ?_ (by show _<=w.heap.size+1;omega) _)
    exact uh BB
end Go.Proofs.YtffcgajndmhpkaaGreatDoor
