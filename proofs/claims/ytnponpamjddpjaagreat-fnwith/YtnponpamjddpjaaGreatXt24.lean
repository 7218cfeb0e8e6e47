/- Part 24 of what the proof rests on. No condition but those that a theorem names. -/
import Derived.Test.YtnponpamjddpjaaGreatXt23
set_option maxHeartbeats 8000000
set_option maxRecDepth 100000
namespace Go.Proofs.YtnponpamjddpjaaGreat
open Go.ChangeShapes Go.WideShapes Go.ChangeAt Go.RowKit Go.Sort
set_option linter.unusedVariables false
set_option linter.unusedSimpArgs false
variable {w w' w0 w1 w2 w3 w₀ wr W W' X A B C : World} {v v0 v1 v2 v3 v4 u u0 u1 u2 u3 u4 : Value} {m : Z3}
def Ey (n₀:Nat) (M:Z3) (e:Ending) (w':World):Prop:=
 ∃ u0 u1 u2 u3 u4 qs,e= .returned (.agg #[u0,u1,u2,u3,u4,.int .i64 M.now])/\FullSmy n₀ w' u0 u1 u2 u3 u4 M qs
theorem RU  (h:Smy w v0 v1 v2 v3 v4 m) :
  Calls Tryz.prog 266 #[.agg #[v0,v1,v2,v3,v4,.int .i64 m.now]] w fun e w'=>Ey w.heap.size (XW m) e w'/\Below w.heap.size w w':=by
 obtain ⟨X,hX⟩:∃ x,XW m=x:=⟨_,rfl⟩
 rw [hX]
 have HX:=Z9 hX
 clear hX
 have Hv0:=Z9 h
 obtain ⟨a0,p0,a1,p1,a2,p2,a3,p3,a4,p4,rfl,rfl,rfl,rfl,rfl,_,_,_,_,_,_,_,_,_,_⟩:=h.five
 clear h
 obtain ⟨ok,hok⟩:∃ q,ZK m=q:=⟨_,rfl⟩
 have Hok:=Z9 hok
 clear hok
 go_enter Tryz.func266,Tryz.ntmps266
 go_wp2_with fail
 obtain ⟨W,hW,kb,kr,BB⟩:=YP w 32 (S6 a0 p0 a1 p1 a2 p2 a3 p3 a4 p4 m) 32 E6
 have Hv:=Z9 ((uh Hv0).below (uh BB))
 clear Hv0
 rw [hW]
 clear hW
 refine (Zc (uh Hok) (uh Hv)).mono ?_
 rintro e w1 ⟨rfl,hb⟩
 replace kb:=bl kb hb
 replace kr:=bl kr hb
 replace Hv:=Z9 ((uh Hv).below hb)
 replace BB:=bt BB hb
 clear hb
 cases ok
 ·
  obtain ⟨o0,o1,o2,o3,o4,o5⟩:=(uh kr).c6
  obtain ⟨f0,f1,f2,f3,f4,f5⟩:=(uh kr).f6
  go_wp2_with fail
  have hX0:X=YB:=by rw [<-uh HX];unfold XW;rw [uh Hok];rfl
  refine bodyPost_ret (v:= .agg #[.slice none 0 0,.slice none 0 0,.slice none 0 0,.slice none 0 0,.slice none 0 0,.int .i64 0]) (by simp [results,Tryz.results266,go_sem, *]) rfl ⟨?_,?_⟩
  ·rw [hX0];exact ⟨_,_,_,_,_,[],rfl,YO _ _⟩
  ·iterate 6 (refine Below.setCell ?_ (by show _<=w.heap.size+1;omega) _)
   exact uh BB
 have hlo:=ZO (uh Hok)
 have HLo:=Z9 hlo
 have HFew:=Z9 (XF hlo)
 clear hlo
 obtain ⟨c0,c1,c2,c3,c4,c5⟩:=(uh kb).c6
 go_wp2_with fail
 clear c0 c1 c2 c3 c4 c5
 have hWs:w.heap.size+2<=w1.heap.size:=by have:=(uh kr).lt;omega
 refine (ZC (uh Hv) (uh HFew)).mono ?_
 rintro e w2 ⟨y0,y1,y2,y3,y4,oq,rfl,ho,hb⟩
 have k9:=ho.smy
 obtain ⟨b0,q0,b1,q1,b2,q2,b3,q3,b4,q4,rfl,rfl,rfl,rfl,rfl,_,_,_,_,_,_,_,_,_,_⟩:=k9.five
 clear k9
 replace kb:=bl kb hb
 replace kr:=bl kr hb
 replace Hv:=Z9 ((uh Hv).below hb)
 replace BB:=bt BB hb
 have HO:=Z9 (ho.mono hWs)
 have LO:Hid (∀ k,YC (.slice b0 m.rooms.length q0) (.slice b1 m.guilds.length q1) (.slice b2 m.smiths.length q2) (.slice b3 m.desks.length q3) (.slice b4 m.paces.length q4) oq k->w.heap.size+2<=k/\k<w2.heap.size):=Z9 (fun k e=>(uh HO).own e)
 have hsz9:=hb.size
 clear ho hb
 go_upto_region 4 with fail
 obtain ⟨W2,hW2,hba,ko⟩:=Zy w2 32 (S6 b0 q0 b1 q1 b2 q2 b3 q3 b4 q4 m)
 replace kb:=bl kb hba
 replace kr:=bl kr hba
 replace Hv:=Z9 ((uh Hv).below hba)
 replace HO:=Z9 ((uh HO).below hba)
 replace BB:=bt BB hba
 have hob:w.heap.size+2<=w2.heap.size:=Nat.le_trans hWs hsz9
 clear hba hsz9 hWs
 rw [hW2]
 clear hW2
 generalize w2.heap.size=ob at *
 have HX2:Hid (U6 m=X):=Z9 (by rw [<-uh HX];unfold XW;rw [uh Hok];rfl)
 have hofR:∀ k,YC (.slice b0 m.rooms.length q0) (.slice b1 m.guilds.length q1) (.slice b2 m.smiths.length q2) (.slice b3 m.desks.length q3) (.slice b4 m.paces.length q4) oq k->k ≠ ob:=fun k e=>by have:=(uh LO k e).2;omega
 have H2:Hid ((Value.slice b2 m.smiths.length q2).ownBlock ≠ some ob):=Z9 (fun e=>hofR _ (.inr (.inr (.inr (.inl e)))) rfl)
 have H3:Hid ((Value.slice b3 m.desks.length q3).ownBlock ≠ some ob):=Z9 (fun e=>hofR _ (.inr (.inr (.inr (.inr (.inl e))))) rfl)
 clear hofR
 go_wp2_with fail
 go_loopg [4] (Ub m+1) (fun k i wr=> ∃ (M:Z3) (more:Bool),i= .bool more/\k=(if more=true then Ub M+1 else 0)/\ZK M=true/\M.now=m.now/\U6 M=U6 m/\(more=false->VA M=none)/\FullSmy (w.heap.size+2) wr (.slice b0 m.rooms.length q0) (.slice b1 m.guilds.length q1) (.slice b2 m.smiths.length q2) (.slice b3 m.desks.length q3) (.slice b4 m.paces.length q4) M oq/\Two (Value.slice b2 m.smiths.length q2).ownBlock (Value.slice b3 m.desks.length q3).ownBlock W2 wr)
 case atStart=>exact ⟨m,true,rfl,rfl,uh Hok,rfl,rfl,(fun e=>by cases e),uh HO,Two.refl _ _ _⟩
 case round=>
  obtain ⟨M,more,rfl,hgk,hsm,hnow,hlv,hno,hf1,htw⟩:=hrel
  have HF1:=Z9 hf1
  have Tw:=Z9 htw
  have Hsm:=Z9 hsm
  have Hnow:=Z9 hnow
  have Hlv:=Z9 hlv
  have Hno:=Z9 hno
  replace ko:=Z9 ((uh ko).two htw (uh H2) (uh H3))
  clear hf1 htw hsm hnow hlv hno
  cases more
  ·
   clear hgk
   replace kr:=Z9 ((uh kr).two (uh Tw) (fun e=>by have:=(uh LO _ (.inr (.inr (.inr (.inl e))))).1;omega) (fun e=>by have:=(uh LO _ (.inr (.inr (.inr (.inr (.inl e)))))).1;omega))
   replace BB:=Z9 ((uh BB).trans ((uh Tw).below (uh BB).size (fun k e=>by have:=(uh LO k (.inr (.inr (.inr (.inl e))))).1;omega) (fun k e=>by have:=(uh LO k (.inr (.inr (.inr (.inr (.inl e)))))).1;omega)))
   obtain ⟨x0,x1,x2,x3,x4,x5⟩:=(uh ko).c6
   obtain ⟨o0,o1,o2,o3,o4,o5⟩:=(uh kr).c6
   obtain ⟨f0,f1,f2,f3,f4,f5⟩:=(uh kr).f6
   go_wp2_with fail
   have hX0:X=M:=by rw [<-uh HX2,<-uh Hlv];exact LR (uh Hno (by trivial))
   refine bodyPost_ret (v:= .agg #[.slice b0 m.rooms.length q0,.slice b1 m.guilds.length q1,.slice b2 m.smiths.length q2,.slice b3 m.desks.length q3,.slice b4 m.paces.length q4,.int .i64 m.now]) (by simp [results,Tryz.results266,go_sem, *]) rfl ⟨?_,?_⟩
   ·rw [hX0];refine ⟨_,_,_,_,_,oq,by rw [uh Hnow],?_⟩
    iterate 6 (refine FullSmy.set_off ?_ (fun k e=>by have:=(uh LO k e).1;omega) _ _)
    exact (uh HF1).mono (by omega)
   ·iterate 6 (refine Below.setCell ?_ (by show _<=w.heap.size+1;omega) _)
    exact uh BB
  simp only [if_true] at hgk
  subst hgk
  clear Hno
  obtain ⟨mi,hmi⟩:∃ q,VR M=q:=⟨_,rfl⟩
  have hc:=P5 (uh HF1).smy
  rw [uh Hnow] at hc
  have Hc:=Z9 hc
  clear hc
  rw [hmi] at Hc
  have Hmi:=Z9 hmi
  clear hmi
  obtain ⟨x0,x1,x2,x3,x4,x5⟩:=(uh ko).c6
  cases mi with
  | some r=>
   obtain ⟨wh,bb⟩:=r
   have Hc2:Hid (Calls Tryz.prog 293 #[.agg #[.slice b0 m.rooms.length q0,.slice b1 m.guilds.length q1,.slice b2 m.smiths.length q2,.slice b3 m.desks.length q3,.slice b4 m.paces.length q4,.int .i64 m.now]] wr fun e w'=>e= .returned (.tuple #[.int .i64 (wh:Int),.int .i64 (bb:Int),.bool true])/\Below wr.heap.size wr w'):=Hc
   clear Hc
   have Hc:=Hc2
   clear Hc2
   go_wp2_with fail
   clear x0 x1 x2 x3 x4 x5
   refine (uh Hc).mono ?_
   rintro e w5 ⟨rfl,hb⟩
   replace HF1:=Z9 ((uh HF1).below hb)
   replace ko:=bl ko hb
   replace Tw:=Z9 ((uh Tw).trans (Two.of_below hb))
   clear hb Hc
   have hmv:VA M=some (wh,bb):=by unfold VA;rw [uh Hmi]
   have mv:=TS hmv
   have Hmv:=Z9 hmv
   obtain ⟨a0',a1',_⟩:=(ZO (uh Hsm)).at mv.who mv.pres
   obtain ⟨bn,hbn⟩:∃ bn:Nat,(Z8 M.smiths wh).2.1=(bn:Int):=⟨(Z8 M.smiths wh).2.1.toNat,by omega⟩
   have Hbn:=Z9 hbn
   have hbl:bn<M.desks.length:=by omega
   have Mv:=Z9 mv
   have Hbl:=Z9 hbl
   clear hmv hbn hbl a0' a1' mv
   have k8:Hid (Blk w5 ob 32 #[.slice b0 m.rooms.length q0,.slice b1 m.guilds.length q1,.slice b2 m.smiths.length q2,.slice b3 m.desks.length q3,.slice b4 m.paces.length q4,.int .i64 M.now]):=Z9 (by rw [uh Hnow];exact uh ko)
   go_wp2_with fail
   refine (Vx (m:=M) (k:=wh) (bn:=bn) (b:=bb) (uh k8) (uh HF1) (uh H2) (uh H3) (uh Mv).who (uh Hbn) (uh Hbl) (uh Mv).bench).mono ?_
   rintro e w7 ⟨rfl,hf7,ht7⟩
   have k7:Hid (Blk w7 ob 32 #[.slice b0 m.rooms.length q0,.slice b1 m.guilds.length q1,.slice b2 m.smiths.length q2,.slice b3 m.desks.length q3,.slice b4 m.paces.length q4,.int .i64 M.now]):=Z9 ((uh k8).two ht7 (uh H2) (uh H3))
   have HF7:=Z9 hf7
   have T7:=Z9 ((uh Tw).trans ht7)
   clear hf7 ht7 k8
   have h12:=YU (ZO (uh Hsm))
   have h8:=(ZO (uh Hsm)).sane.eight
   have hl12:(U7 M wh bb).smiths.length<=800:=by rw [VC];omega
   have hd8:(U7 M wh bb).desks.length<=1000:=by show M.desks.length<=1000;omega
   have Hl12:=Z9 hl12
   have Hd8:=Z9 hd8
   clear h12 h8 hl12 hd8
   go_wp2_with fail
   refine (Vf (m:=U7 M wh bb) (uh k7) (uh HF7) (uh H2) (uh H3) (uh Hl12) (uh Hd8)).mono ?_
   rintro e w8 ⟨rfl,hf8,ht8⟩
   have HF8:=Z9 hf8
   have T8:=Z9 ((uh T7).trans ht8)
   clear hf8 ht8
   go_wp2_with fail
   go_roundg (Ub (VB M wh bb)+1)
   case measure=>have:=(uh Mv).falls;omega
   case rel=>exact ⟨VB M wh bb,true,rfl,rfl,(uh Mv).keeps,((ZQ _ _).2.2.2.1).trans (uh Hnow),(N9 (uh Hmv)).symm.trans (uh Hlv),(fun e=>by cases e),uh HF8,uh T8⟩
  | none=>
   have Hc2:Hid (Calls Tryz.prog 293 #[.agg #[.slice b0 m.rooms.length q0,.slice b1 m.guilds.length q1,.slice b2 m.smiths.length q2,.slice b3 m.desks.length q3,.slice b4 m.paces.length q4,.int .i64 m.now]] wr fun e w'=>e= .returned (.tuple #[.int .i64 0,.int .i64 0,.bool false])/\Below wr.heap.size wr w'):=Hc
   clear Hc
   have Hc:=Hc2
   clear Hc2
   go_wp2_with fail
   clear x0 x1 x2 x3 x4 x5
   refine (uh Hc).mono ?_
   rintro e w5 ⟨rfl,hb⟩
   replace HF1:=Z9 ((uh HF1).below hb)
   replace ko:=bl ko hb
   replace Tw:=Z9 ((uh Tw).trans (Two.of_below hb))
   clear hb Hc
   obtain ⟨wi,hwi⟩:∃ q,Wl M=q:=⟨_,rfl⟩
   have hc:=QQ (uh HF1).smy
   rw [uh Hnow] at hc
   have Hc:=Z9 hc
   clear hc
   rw [hwi] at Hc
   have hmv:VA M=wi:=by unfold VA;rw [uh Hmi];exact hwi
   clear hwi
   obtain ⟨x0,x1,x2,x3,x4,x5⟩:=(uh ko).c6
   cases wi with
   | some r=>
    obtain ⟨wh,bb⟩:=r
    have Hc2:Hid (Calls Tryz.prog 294 #[.agg #[.slice b0 m.rooms.length q0,.slice b1 m.guilds.length q1,.slice b2 m.smiths.length q2,.slice b3 m.desks.length q3,.slice b4 m.paces.length q4,.int .i64 m.now]] w5 fun e w'=>e= .returned (.tuple #[.int .i64 (wh:Int),.int .i64 (bb:Int),.bool true])/\Below w5.heap.size w5 w'):=Hc
    clear Hc
    have Hc:=Hc2
    clear Hc2
    have Hm0:=Z9 hmv
    clear hmv
    go_wp2_with fail
    clear x0 x1 x2 x3 x4 x5
    refine (uh Hc).mono ?_
    rintro e w6 ⟨rfl,hb⟩
    replace HF1:=Z9 ((uh HF1).below hb)
    replace ko:=bl ko hb
    replace Tw:=Z9 ((uh Tw).trans (Two.of_below hb))
    clear hb Hc
    have hmv:=uh Hm0
    clear Hm0
    have mv:=TS hmv
    have Hmv:=Z9 hmv
    obtain ⟨a0',a1',_⟩:=(ZO (uh Hsm)).at mv.who mv.pres
    obtain ⟨bn,hbn⟩:∃ bn:Nat,(Z8 M.smiths wh).2.1=(bn:Int):=⟨(Z8 M.smiths wh).2.1.toNat,by omega⟩
    have Hbn:=Z9 hbn
    have hbl:bn<M.desks.length:=by omega
    have Mv:=Z9 mv
    have Hbl:=Z9 hbl
    clear hmv hbn hbl a0' a1' mv
    have k8:Hid (Blk w6 ob 32 #[.slice b0 m.rooms.length q0,.slice b1 m.guilds.length q1,.slice b2 m.smiths.length q2,.slice b3 m.desks.length q3,.slice b4 m.paces.length q4,.int .i64 M.now]):=Z9 (by rw [uh Hnow];exact uh ko)
    go_wp2_with fail
    refine (Vx (m:=M) (k:=wh) (bn:=bn) (b:=bb) (uh k8) (uh HF1) (uh H2) (uh H3) (uh Mv).who (uh Hbn) (uh Hbl) (uh Mv).bench).mono ?_
    rintro e w7 ⟨rfl,hf7,ht7⟩
    have k7:Hid (Blk w7 ob 32 #[.slice b0 m.rooms.length q0,.slice b1 m.guilds.length q1,.slice b2 m.smiths.length q2,.slice b3 m.desks.length q3,.slice b4 m.paces.length q4,.int .i64 M.now]):=Z9 ((uh k8).two ht7 (uh H2) (uh H3))
    have HF7:=Z9 hf7
    have T7:=Z9 ((uh Tw).trans ht7)
    clear hf7 ht7 k8
    have h12:=YU (ZO (uh Hsm))
    have h8:=(ZO (uh Hsm)).sane.eight
    have hl12:(U7 M wh bb).smiths.length<=800:=by rw [VC];omega
    have hd8:(U7 M wh bb).desks.length<=1000:=by show M.desks.length<=1000;omega
    have Hl12:=Z9 hl12
    have Hd8:=Z9 hd8
    clear h12 h8 hl12 hd8
    go_wp2_with fail
    refine (Vf (m:=U7 M wh bb) (uh k7) (uh HF7) (uh H2) (uh H3) (uh Hl12) (uh Hd8)).mono ?_
    rintro e w8 ⟨rfl,hf8,ht8⟩
    have HF8:=Z9 hf8
    have T8:=Z9 ((uh T7).trans ht8)
    clear hf8 ht8
    go_wp2_with fail
    go_roundg (Ub (VB M wh bb)+1)
    case measure=>have:=(uh Mv).falls;omega
    case rel=>exact ⟨VB M wh bb,true,rfl,rfl,(uh Mv).keeps,((ZQ _ _).2.2.2.1).trans (uh Hnow),(N9 (uh Hmv)).symm.trans (uh Hlv),(fun e=>by cases e),uh HF8,uh T8⟩
   | none=>
    have Hc2:Hid (Calls Tryz.prog 294 #[.agg #[.slice b0 m.rooms.length q0,.slice b1 m.guilds.length q1,.slice b2 m.smiths.length q2,.slice b3 m.desks.length q3,.slice b4 m.paces.length q4,.int .i64 m.now]] w5 fun e w'=>e= .returned (.tuple #[.int .i64 0,.int .i64 0,.bool false])/\Below w5.heap.size w5 w'):=Hc
    clear Hc
    have Hc:=Hc2
    clear Hc2
    have Hm0:=Z9 hmv
    clear hmv
    go_wp2_with fail
    clear x0 x1 x2 x3 x4 x5
    refine (uh Hc).mono ?_
    rintro e w6 ⟨rfl,hb⟩
    replace HF1:=Z9 ((uh HF1).below hb)
    replace ko:=bl ko hb
    replace Tw:=Z9 ((uh Tw).trans (Two.of_below hb))
    clear hb Hc
    go_wp2_with fail
    go_roundg 0
    case measure=>omega
    case rel=>exact ⟨M,false,rfl,rfl,uh Hsm,uh Hnow,uh Hlv,(fun _=>uh Hm0),uh HF1,uh Tw⟩
set_option maxRecDepth 100000
def Zx (m:Z3) (k who a b:Int):Z3 × Int:=
 if ZK m then (if k=1 then VW m a b (-1) else if k=2 then Vk m who else if k=3 then VY m who else if k=4 then WD m who else if k=5 then WT m who a else if k=6 then Xq m who a else if k=7 then WS m who a b else if k=8 then XN m a else if k=9 then Vh m a else if k=10 then VI m a else if k=11 then zA7 m a b else if k=12 then (M6 m,0) else if k=13 then (XW m,0) else if k=14 then UJ m who a else (m,3)) else (YB,3)
theorem I9 (h:ZK m=true) (who a b:Int):Zx m 1 who a b=VW m a b (-1):=by unfold Zx;rw [h];rfl
theorem Ja (h:ZK m=true) (who a b:Int):Zx m 2 who a b=Vk m who:=by unfold Zx;rw [h];rfl
theorem Jb (h:ZK m=true) (who a b:Int):Zx m 3 who a b=VY m who:=by unfold Zx;rw [h];rfl
theorem Jc (h:ZK m=true) (who a b:Int):Zx m 4 who a b=WD m who:=by unfold Zx;rw [h];rfl
theorem Jd (h:ZK m=true) (who a b:Int):Zx m 5 who a b=WT m who a:=by unfold Zx;rw [h];rfl
theorem Je (h:ZK m=true) (who a b:Int):Zx m 6 who a b=Xq m who a:=by unfold Zx;rw [h];rfl
theorem Jf (h:ZK m=true) (who a b:Int):Zx m 7 who a b=WS m who a b:=by unfold Zx;rw [h];rfl
theorem Jg (h:ZK m=true) (who a b:Int):Zx m 8 who a b=XN m a:=by unfold Zx;rw [h];rfl
theorem Jh (h:ZK m=true) (who a b:Int):Zx m 9 who a b=Vh m a:=by unfold Zx;rw [h];rfl
theorem Lw (h:ZK m=true) (who a b:Int):Zx m 10 who a b=VI m a:=by unfold Zx;rw [h];rfl
theorem Lx (h:ZK m=true) (who a b:Int):Zx m 11 who a b=zA7 m a b:=by unfold Zx;rw [h];rfl
theorem Ly (h:ZK m=true) (who a b:Int):Zx m 12 who a b=(M6 m,0):=by unfold Zx;rw [h];rfl
theorem Lz (h:ZK m=true) (who a b:Int):Zx m 13 who a b=(XW m,0):=by unfold Zx;rw [h];rfl
theorem LA (h:ZK m=true) (who a b:Int):Zx m 14 who a b=UJ m who a:=by unfold Zx;rw [h];rfl
theorem Q7 (h:ZK m=true) {k:Int} (hk:k<1\/14<k) (who a b:Int):Zx m k who a b=(m,3):=by
 unfold Zx
 rw [if_pos h,if_neg (show ¬ k=1 by omega),if_neg (show ¬ k=2 by omega),if_neg (show ¬ k=3 by omega),if_neg (show ¬ k=4 by omega),if_neg (show ¬ k=5 by omega),if_neg (show ¬ k=6 by omega),if_neg (show ¬ k=7 by omega),if_neg (show ¬ k=8 by omega),if_neg (show ¬ k=9 by omega),if_neg (show ¬ k=10 by omega),if_neg (show ¬ k=11 by omega),if_neg (show ¬ k=12 by omega),if_neg (show ¬ k=13 by omega),if_neg (show ¬ k=14 by omega)]
theorem Nj (h:ZK m=true) (k who a b:Int):ZK (Zx m k who a b).1=true:=by
 by_cases hk:k<1\/14<k
 ·rw [Q7 h hk];exact h
 rcases (show k=1\/k=2\/k=3\/k=4\/k=5\/k=6\/k=7\/k=8\/k=9\/k=10\/k=11\/k=12\/k=13\/k=14 by omega) with rfl | rfl | rfl | rfl | rfl | rfl | rfl | rfl | rfl | rfl | rfl | rfl | rfl | rfl
 ·rw [I9 h];exact JD h a b (-1)
 ·rw [Ja h];exact Ku h who
 ·rw [Jb h];exact KU h who
 ·rw [Jc h];exact LQ h who
 ·rw [Jd h];exact Ks h who a
 ·rw [Je h];exact K0 h who a
 ·rw [Jf h];exact LV h who a b
 ·rw [Jg h];exact Nf h a
 ·rw [Jh h];exact Ki h a
 ·rw [Lw h];exact KG h a
 ·rw [Lx h];exact Ls h a b
 ·rw [Ly h];exact GQ h
 ·rw [Lz h];exact (show ZK (XW m)=true by unfold XW;rw [h];exact LS h)
 ·rw [LA h];exact JU h who a
theorem Fg {g:Nat} {zs:List Int} (h:∀ j,j<zs.length-> ∀ i u,(Uj (Z8 zs j))[i]?=some u->w.cell? ⟨g,j*1+i,none⟩=some u) {j:Nat} (hj:j<zs.length):w.cell? ⟨g,j,none⟩=some (.int .i64 (Z8 zs j)):=by
 have:=h j hj 0 _ rfl
 simpa using this
theorem Lf {who:Int} (h:VZ m=true\/(VZ m=false/\(Yf m who).length=0)):Yz m who=(XP m who m.desks.length).1:=by
 unfold Yz
 rcases h with e | ⟨e,e'⟩
 ·rw [e];rfl
 ·rw [e,e'];rfl
theorem Le {who:Int} (h:VZ m=false) (h':0<(Yf m who).length):Yz m who=(XE m who (Yf m who) (Yf m who).length).1:=by
 unfold Yz
 rw [h,decide_eq_true h'];rfl
theorem Ke {who:Int} {k:Nat} (hm:Yg m who k=true) (h:(XP m who k).1<0\/(XP m who k).2<U9 (XD m k who) (YR m.rooms k)):XP m who (k+1)=((k:Int),U9 (XD m k who) (YR m.rooms k)):=by
 show (if _ then _ else _)=_
 rw [hm]
 rcases h with h | h
 ·rw [decide_eq_true h];rfl
 ·rw [decide_eq_true h,Bool.or_true];rfl
theorem Ip {who:Int} {k:Nat} (h:Yg m who k=false\/(¬ (XP m who k).1<0/\ ¬ (XP m who k).2<U9 (XD m k who) (YR m.rooms k))):XP m who (k+1)=XP m who k:=by
 show (if _ then _ else _)=_
 rcases h with h | ⟨h,h'⟩
 ·rw [h];rfl
 ·rw [decide_eq_false h,decide_eq_false h',Bool.or_false,Bool.and_false];rfl
theorem O7 {who:Int} {f:List Int} : XE m who f 1=(Z8 f 0,Yp m who (Z8 f 0)):=by
 cases f<;>rfl
theorem QW {who:Int} {f:List Int} {k:Nat} (h1:1<=k) (hk:k<f.length):XE m who f (k+1)=VH m who (XE m who f k) (Z8 f k):=by
 unfold XE
 have e:f.take (k+1)=f.take k++[Z8 f k]:=by
  rw [List.take_add_one,List.getElem?_eq_getElem hk,Oi hk];rfl
 rw [e,List.drop_append_of_le_length (by simp;omega),List.foldl_append]
 rfl
theorem JA {who:Nat} {f:List Int} {k:Nat} (h1:1<=k) (hk:k<f.length) (h:Yp m (who:Int) (Z8 f k)<(XE m (who:Int) f k).2\/(Yp m (who:Int) (Z8 f k)=(XE m (who:Int) f k).2/\Z8 f k=(Z8 m.smiths who).2.1)):XE m (who:Int) f (k+1)=(Z8 f k,Yp m (who:Int) (Z8 f k)):=by
 rw [QW h1 hk]
 unfold VH
 exact if_pos h
theorem GS {who:Nat} {f:List Int} {k:Nat} (h1:1<=k) (hk:k<f.length) (h:¬ (Yp m (who:Int) (Z8 f k)<(XE m (who:Int) f k).2\/(Yp m (who:Int) (Z8 f k)=(XE m (who:Int) f k).2/\Z8 f k=(Z8 m.smiths who).2.1))):XE m (who:Int) f (k+1)=XE m (who:Int) f k:=by
 rw [QW h1 hk]
 unfold VH
 exact if_neg h
theorem Xj  {who:Nat} (h:Smy w v0 v1 v2 v3 v4 m) (hS:Sane m) (hp:m.paces.length<=1000) (hA:Ta m who) :
  Calls Tryz.prog 283 #[.agg #[v0,v1,v2,v3,v4,.int .i64 m.now],.int .i64 (who:Int)] w fun e w'=>e= .returned (.int .i64 (Yz m (who:Int)))/\Below w.heap.size w w':=by
 have Hv:=Z9 (h.alloc (.cells #[v0,v1,v2,v3,v4,.int .i64 m.now] 32))
 obtain ⟨a0,p0,a1,p1,a2,p2,a3,p3,a4,p4,rfl,rfl,rfl,rfl,rfl,_,_,_,_,_,_,_,_,_,_⟩:=h.five
 clear h
 obtain ⟨BB0,kb0⟩:=Xk w 32 (S6 a0 p0 a1 p1 a2 p2 a3 p3 a4 p4 m)
 have HS:=Z9 hS
 have HA:=Z9 hA
 have HP:=Z9 hp
 have h8:=hS.eight
 clear hS hA hp
 obtain ⟨c0,c1,c2,c3,c4,c5⟩:=(uh kb0).c6
 have hX:(VZ m=true\/(VZ m=false/\(Yf m (who:Int)).length=0))\/(VZ m=false/\0<(Yf m (who:Int)).length):=by
  cases VZ m
  ·by_cases h0:(Yf m (who:Int)).length=0
   ·exact .inl (.inr ⟨rfl,h0⟩)
   ·exact .inr ⟨rfl,by omega⟩
  ·exact .inl (.inl rfl)
 rcases hX with hX | ⟨hcr,hle⟩
 ·rw [Lf hX]
  rcases hX with hcr | ⟨hcr,hle⟩
  all_goals
   go_enter Tryz.func283,Tryz.ntmps283
   go_wp2_with (first | (go_at_call 298;refine (TL (uh Hv) (uh HS) (uh HA)).mono ?_;rintro e w1 ⟨fv,rfl,hf1,hb1⟩;obtain ⟨la,lc,rfl⟩:=RecAt.shape hf1;have HF:=Z9 hf1;have B1:=Z9 hb1;have kb1:=Z9 ((uh kb0).below hb1 (uh kb0).lt);have Hv1:=Z9 ((uh Hv).below hb1);have BB1:=Z9 ((uh BB0).trans (hb1.mono (uh BB0).size));clear hf1 hb1 kb0 Hv BB0 B1 c0 c1 c2 c3 c4 c5;have d0:=(uh kb1).cell (i:=0) (v:= .slice a0 m.rooms.length p0) rfl;have d1:=(uh kb1).cell (i:=1) (v:= .slice a1 m.guilds.length p1) rfl;have d2:=(uh kb1).cell (i:=2) (v:= .slice a2 m.smiths.length p2) rfl;have d3:=(uh kb1).cell (i:=3) (v:= .slice a3 m.desks.length p3) rfl;have d4:=(uh kb1).cell (i:=4) (v:= .slice a4 m.paces.length p4) rfl;have d5:=(uh kb1).cell (i:=5) (v:= .int .i64 m.now) rfl) | (go_at_call 299;refine (TK (uh Hv1) (uh HS)).mono ?_;rintro e w2 ⟨he,hb2⟩;rw [hcr] at he;subst he;have B2:=Z9 hb2;clear hb2) | fail)
   have kb2:=Z9 ((uh kb1).below (uh B2) (uh kb1).lt)
   have Hv2:=Z9 ((uh Hv1).below (uh B2))
   have BB2:=Z9 ((uh BB1).trans ((uh B2).mono (uh BB1).size))
   clear kb1 Hv1 BB1 B2 d0 d1 d2 d3 d4 d5 HF
   go_loopw [10,11,12] (fun bv mv i wr=> ∃ k:Nat,k<=m.desks.length/\bv= .int .i64 (XP m (who:Int) k).1/\mv= .int .i64 (XP m (who:Int) k).2/\i= .int .i64 k/\Blk wr w.heap.size 32 #[.slice a0 m.rooms.length p0,.slice a1 m.guilds.length p1,.slice a2 m.smiths.length p2,.slice a3 m.desks.length p3,.slice a4 m.paces.length p4,.int .i64 m.now]/\Smy wr (.slice a0 m.rooms.length p0) (.slice a1 m.guilds.length p1) (.slice a2 m.smiths.length p2) (.slice a3 m.desks.length p3) (.slice a4 m.paces.length p4) m/\Below w.heap.size w wr) (fun _ _ i _=>m.desks.length-(intOf i).toNat)
   case atStart=>exact ⟨0,Nat.zero_le _,rfl,rfl,rfl,uh kb2,uh Hv2,uh BB2⟩
   case round=>
    obtain ⟨k,hk,rfl,rfl,rfl,hkb,hv,hb0⟩:=hrel
    have kb:=Z9 hkb
    have Hv3:=Z9 hv
    have BB:=Z9 hb0
    clear hkb hv hb0 kb2 BB2 Hv2
    obtain ⟨e0,e1,e2,e3,e4,e5⟩:=(uh kb).c6
    by_cases hlt:k<m.desks.length
    ·have hlt1:(k:Int)<(m.desks.length:Int):=by omega
     have Hno:=Z9 (fun hh=>Ip (m:=m) (who:=(who:Int)) (k:=k) hh)
     have Hyes:=Z9 (fun ha hh=>Ke (m:=m) (who:=(who:Int)) (k:=k) ha hh)
     have hfo:=TC ((uh HS).bench hlt)
     have Hma:=Z9 (fun (W:World) (hW:Below wr.heap.size wr W)=>Uo ((uh Hv3).below hW) (uh HA).lt hlt (by omega) (uh HA).y0 (uh HA).y1)
     have Hu:=Z9 (fun (W:World) (hW:Below wr.heap.size wr W)=>Ve (k:Int) (who:Int) ((uh Hv3).below hW) (uh HS).guilded (by have:=(uh HS).few;omega))
     have Hf:=Z9 (fun (W:World) (hW:Below wr.heap.size wr W)=>Wg (k:Int) ((uh Hv3).below hW).rooms ((uh HS).bench hlt))
     rw [<-hfo] at Hf
     clear hfo
     have Ht:=Z9 (fun (W:World)=>Calls.same_below (QN (XD m (k:Int) (who:Int)) (YR m.rooms (k:Int)) W))
     generalize Yg m (who:Int) k=ma at *
     generalize XD m (k:Int) (who:Int)=us at *
     generalize YR m.rooms (k:Int)=fo at *
     generalize U9 us fo=sp at *
     obtain ⟨bt,hbt⟩:∃ q,(XP m (who:Int) k).1=q:=⟨_,rfl⟩
     obtain ⟨mt,hmt⟩:∃ q,(XP m (who:Int) k).2=q:=⟨_,rfl⟩
     rw [hbt,hmt] at Hno Hyes
     rw [hbt,hmt]
     have Hbt:=Z9 hbt
     have Hmt:=Z9 hmt
     clear hbt hmt
     have y0:=cell_regrown e0
     have y1:=cell_regrown e1
     have y2:=cell_regrown e2
     have y3:=cell_regrown e3
     have y4:=cell_regrown e4
     have y5:=cell_regrown e5
     cases ma
     ·go_wp2_with fail
      refine wp_region_quiet_below (by kernel_rfl) (by kernel_rfl) ?_
      repeat (go_big_quiet_step (first | exact Calls.regrown_of (uh Hu _ (below_regrown _ _ _)) | exact Calls.regrown_of (uh Hf _ (below_regrown _ _ _)) | exact Calls.regrown_of (uh Ht _)))
      refine wpQuiet_nil ?_
      intro _ hw'
      obtain ⟨⟨dq,osq⟩,hw''⟩:=hw'
      subst hw''
      go_wp2_with (go_at_call 302;refine (uh Hma _ (below_regrown _ _ _)).mono ?_;rintro e w5 ⟨rfl,hb5⟩;have HX:=Z9 ((below_regrown wr dq osq).trans (hb5.mono (below_regrown _ _ _).size));clear hb5)
      go_roundw
      case rel=>exact ⟨k+1,by omega,by rw [uh Hno (.inl (by simp)),uh Hbt],by rw [uh Hno (.inl (by simp)),uh Hmt],by go_num,(uh kb).below (uh HX) (uh kb).lt,(uh Hv3).below (uh HX),(uh BB).trans ((uh HX).mono (uh BB).size)⟩
      case measure=>simp [intOf];omega
     by_cases hb1:bt<0
     ·go_wp2_with fail
      refine wp_region_quiet_below (by kernel_rfl) (by kernel_rfl) ?_
      repeat (go_big_quiet_step (first | exact Calls.regrown_of (uh Hu _ (below_regrown _ _ _)) | exact Calls.regrown_of (uh Hf _ (below_regrown _ _ _)) | exact Calls.regrown_of (uh Ht _)))
      refine wpQuiet_nil ?_
      intro _ hw'
      obtain ⟨⟨dq,osq⟩,hw''⟩:=hw'
      subst hw''
      go_wp2_with (go_at_call 302;refine (uh Hma _ (below_regrown _ _ _)).mono ?_;rintro e w5 ⟨rfl,hb5⟩;have HX:=Z9 ((below_regrown wr dq osq).trans (hb5.mono (below_regrown _ _ _).size));clear hb5)
      go_roundw
      case rel=>exact ⟨k+1,by omega,by rw [uh Hyes (by simp) (.inl hb1)],by rw [uh Hyes (by simp) (.inl hb1)],by go_num,(uh kb).below (uh HX) (uh kb).lt,(uh Hv3).below (uh HX),(uh BB).trans ((uh HX).mono (uh BB).size)⟩
      case measure=>simp [intOf];omega
     by_cases hb2:mt<sp
     ·go_wp2_with fail
      refine wp_region_quiet_below (by kernel_rfl) (by kernel_rfl) ?_
      repeat (go_big_quiet_step (first | exact Calls.regrown_of (uh Hu _ (below_regrown _ _ _)) | exact Calls.regrown_of (uh Hf _ (below_regrown _ _ _)) | exact Calls.regrown_of (uh Ht _)))
      refine wpQuiet_nil ?_
      intro _ hw'
      obtain ⟨⟨dq,osq⟩,hw''⟩:=hw'
      subst hw''
      go_wp2_with (go_at_call 302;refine (uh Hma _ (below_regrown _ _ _)).mono ?_;rintro e w5 ⟨rfl,hb5⟩;have HX:=Z9 ((below_regrown wr dq osq).trans (hb5.mono (below_regrown _ _ _).size));clear hb5)
      go_roundw
      case rel=>exact ⟨k+1,by omega,by rw [uh Hyes (by simp) (.inr hb2)],by rw [uh Hyes (by simp) (.inr hb2)],by go_num,(uh kb).below (uh HX) (uh kb).lt,(uh Hv3).below (uh HX),(uh BB).trans ((uh HX).mono (uh BB).size)⟩
      case measure=>simp [intOf];omega
     ·go_wp2_with fail
      refine wp_region_quiet_below (by kernel_rfl) (by kernel_rfl) ?_
      repeat (go_big_quiet_step (first | exact Calls.regrown_of (uh Hu _ (below_regrown _ _ _)) | exact Calls.regrown_of (uh Hf _ (below_regrown _ _ _)) | exact Calls.regrown_of (uh Ht _)))
      refine wpQuiet_nil ?_
      intro _ hw'
      obtain ⟨⟨dq,osq⟩,hw''⟩:=hw'
      subst hw''
      go_wp2_with (go_at_call 302;refine (uh Hma _ (below_regrown _ _ _)).mono ?_;rintro e w5 ⟨rfl,hb5⟩;have HX:=Z9 ((below_regrown wr dq osq).trans (hb5.mono (below_regrown _ _ _).size));clear hb5)
      go_roundw
      case rel=>exact ⟨k+1,by omega,by rw [uh Hno (.inr ⟨by omega,by omega⟩),uh Hbt],by rw [uh Hno (.inr ⟨by omega,by omega⟩),uh Hmt],by go_num,(uh kb).below (uh HX) (uh kb).lt,(uh Hv3).below (uh HX),(uh BB).trans ((uh HX).mono (uh BB).size)⟩
      case measure=>simp [intOf];omega
    ·obtain rfl:k=m.desks.length:=by omega
     go_wp2_with fail
     go_ret
     exact ⟨rfl,uh BB⟩
 ·rw [Le hcr hle]
  have hlb:(Yf m (who:Int)).length<=m.desks.length:=RA m (who:Int) m.desks.length
  generalize hL:Yf m (who:Int)=L at *
  go_enter Tryz.func283,Tryz.ntmps283
  go_wp2_with (first | (go_at_call 298;refine (TL (uh Hv) (uh HS) (uh HA)).mono ?_;rintro e w1 ⟨fv,rfl,hf1,hb1⟩;rw [hL] at hf1;obtain ⟨la,lc,rfl⟩:=RecAt.shape hf1;obtain ⟨g,rfl,_,g1,hgc,_⟩:=RecAt.view YJ (by omega) hf1 rfl hle;have C1:=Z9 (fun j hj=>Fg hgc (j:=j) hj);have kb1:=Z9 ((uh kb0).below hb1 (uh kb0).lt);have Hv1:=Z9 ((uh Hv).below hb1);have BB1:=Z9 ((uh BB0).trans (hb1.mono (uh BB0).size));clear hf1 hb1 hgc kb0 Hv BB0 c0 c1 c2 c3 c4 c5;have d0:=(uh kb1).cell (i:=0) (v:= .slice a0 m.rooms.length p0) rfl;have d1:=(uh kb1).cell (i:=1) (v:= .slice a1 m.guilds.length p1) rfl;have d2:=(uh kb1).cell (i:=2) (v:= .slice a2 m.smiths.length p2) rfl;have d3:=(uh kb1).cell (i:=3) (v:= .slice a3 m.desks.length p3) rfl;have d4:=(uh kb1).cell (i:=4) (v:= .slice a4 m.paces.length p4) rfl;have d5:=(uh kb1).cell (i:=5) (v:= .int .i64 m.now) rfl) | (go_at_call 299;refine (TK (uh Hv1) (uh HS)).mono ?_;rintro e w2 ⟨he,hb2⟩;rw [hcr] at he;subst he;have kb2:=Z9 ((uh kb1).below hb2 (uh kb1).lt);have Hv2:=Z9 ((uh Hv1).below hb2);have BB2:=Z9 ((uh BB1).trans (hb2.mono (uh BB1).size));have C2:=Z9 (fun j hj=>(hb2.cell (p:=⟨g,j,none⟩) g1).trans (uh C1 j hj));have g2:=Nat.lt_of_lt_of_le g1 hb2.size;clear hb2 kb1 Hv1 BB1 C1 g1 d0 d1 d2 d3 d4 d5;have d0:=(uh kb2).cell (i:=0) (v:= .slice a0 m.rooms.length p0) rfl;have d1:=(uh kb2).cell (i:=1) (v:= .slice a1 m.guilds.length p1) rfl;have d2:=(uh kb2).cell (i:=2) (v:= .slice a2 m.smiths.length p2) rfl;have d3:=(uh kb2).cell (i:=3) (v:= .slice a3 m.desks.length p3) rfl;have d4:=(uh kb2).cell (i:=4) (v:= .slice a4 m.paces.length p4) rfl;have d5:=(uh kb2).cell (i:=5) (v:= .int .i64 m.now) rfl;have x0:=uh C2 0 hle) | (go_at_call 105;refine (Rc _ (uh Hv2) (uh HS) (uh HP) (uh HA).lt (uh HA).st).mono ?_;rintro e w3 ⟨rfl,hb3⟩;have B3:=Z9 hb3;clear hb3) | fail)
  have kb3:=Z9 ((uh kb2).below (uh B3) (uh kb2).lt)
  have Hv3:=Z9 ((uh Hv2).below (uh B3))
  have BB3:=Z9 ((uh BB2).trans ((uh B3).mono (uh BB2).size))
  have C3:=Z9 (fun j hj=>((uh B3).cell (p:=⟨g,j,none⟩) g2).trans (uh C2 j hj))
  have g3:=Nat.lt_of_lt_of_le g2 (uh B3).size
  clear kb2 Hv2 BB2 B3 C2 g2 d0 d1 d2 d3 d4 d5 x0
  go_loopw [6,7,8] (fun bv lv i wr=> ∃ k:Nat,1<=k/\k<=L.length/\bv= .int .i64 (XE m (who:Int) L k).1/\lv= .int .i64 (XE m (who:Int) L k).2/\i= .int .i64 k/\(∀ j,j<L.length->wr.cell? ⟨g,j,none⟩=some (.int .i64 (Z8 L j)))/\g<wr.heap.size/\Blk wr w.heap.size 32 #[.slice a0 m.rooms.length p0,.slice a1 m.guilds.length p1,.slice a2 m.smiths.length p2,.slice a3 m.desks.length p3,.slice a4 m.paces.length p4,.int .i64 m.now]/\Smy wr (.slice a0 m.rooms.length p0) (.slice a1 m.guilds.length p1) (.slice a2 m.smiths.length p2) (.slice a3 m.desks.length p3) (.slice a4 m.paces.length p4) m/\Below w.heap.size w wr) (fun _ _ i _=>L.length-(intOf i).toNat)
  case atStart=>exact ⟨1,Nat.le_refl _,by omega,by rw [O7],by rw [O7],rfl,uh C3,g3,uh kb3,uh Hv3,uh BB3⟩
  case round=>
   obtain ⟨k,hk1,hk,rfl,rfl,rfl,hc,hg,hkb,hv,hb0⟩:=hrel
   have HC:=Z9 hc
   have kb:=Z9 hkb
   have Hv4:=Z9 hv
   have BB:=Z9 hb0
   clear hkb hv hb0 kb3 BB3 Hv3 hc C3 g3
   obtain ⟨e0,e1,e2,e3,e4,e5⟩:=(uh kb).c6
   by_cases hlt:k<L.length
   ·have hlt1:(k:Int)<(L.length:Int):=by omega
    have x0:=uh HC k hlt
    obtain ⟨_,_,hse,_,_,r2⟩:=(uh Hv4).smiths
    cases hse
    have hwl:=(uh HA).lt
    rcases r2 with e0 | ⟨sb,so,rfl,hbs,hcs⟩
    ·rw [e0] at hwl;simp at hwl
    obtain ⟨_,s1,_⟩:=ZD hcs hwl
    clear hcs
    have hwl1:(who:Int)<(m.smiths.length:Int):=by omega
    have Hno:=Z9 (fun hh=>GS (m:=m) (who:=who) (k:=k) hk1 hlt hh)
    have Hyes:=Z9 (fun hh=>JA (m:=m) (who:=who) (k:=k) hk1 hlt hh)
    have Hw:=Z9 (fun (W:World) (hW:Below wr.heap.size wr W)=>Rc (Z8 L k) ((uh Hv4).below hW) (uh HS) (uh HP) (uh HA).lt (uh HA).st)
    generalize Yp m (who:Int) (Z8 L k)=n at *
    generalize Z8 L k=x at *
    generalize (Z8 m.smiths who).2.1=y at *
    obtain ⟨bt,hbt⟩:∃ q,(XE m (who:Int) L k).1=q:=⟨_,rfl⟩
    obtain ⟨lt,hmt⟩:∃ q,(XE m (who:Int) L k).2=q:=⟨_,rfl⟩
    rw [hmt] at Hno Hyes
    rw [hbt,hmt]
    have Hbt:=Z9 hbt
    have Hmt:=Z9 hmt
    clear hbt hmt
    have y0:=cell_regrown e0
    have y1:=cell_regrown e1
    have y2:=cell_regrown e2
    have y3:=cell_regrown e3
    have y4:=cell_regrown e4
    have y5:=cell_regrown e5
    have z0:=cell_regrown x0
    have z1:=cell_regrown s1
    go_wp2_with fail
    refine wp_region_quiet_below (by kernel_rfl) (by kernel_rfl) ?_
    repeat (go_big_quiet_step (first | exact Calls.regrown_of (uh Hw _ (below_regrown _ _ _))))
    refine wpQuiet_nil ?_
    intro _ hw'
    obtain ⟨⟨dq,osq⟩,hw''⟩:=hw'
    subst hw''
    go_wp2_with fail
    have hX:=Z9 (below_regrown wr dq osq)
    have q0:=y0 dq osq;have q1:=y1 dq osq;have q2:=y2 dq osq;have q3:=y3 dq osq;have q4:=y4 dq osq;have q5:=y5 dq osq
    have r0:=z0 dq osq
    have r1:=z1 dq osq
    clear z0 z1 x0 s1 y0 y1 y2 y3 y4 y5 e0 e1 e2 e3 e4 e5 Hw
    have HC2:=Z9 (fun j hj=>((uh hX).cell (p:=⟨g,j,none⟩) hg).trans (uh HC j hj))
    have hg2:=Nat.lt_of_lt_of_le hg (uh hX).size
    have kb9:=Z9 ((uh kb).below (uh hX) (uh kb).lt)
    have Hv9:=Z9 ((uh Hv4).below (uh hX))
    have BB9:=Z9 ((uh BB).trans ((uh hX).mono (uh BB).size))
    clear HC hg kb Hv4 BB hX hbs
    generalize grow (redrawn wr dq) osq=X at *
    have r2:=cell_regrown r0
    have r3:=cell_regrown r1
    have t0:=cell_regrown q0;have t1:=cell_regrown q1;have t2:=cell_regrown q2;have t3:=cell_regrown q3;have t4:=cell_regrown q4;have t5:=cell_regrown q5
    by_cases hn:n<lt
    ·refine wp_region_quiet_below (by kernel_rfl) (by kernel_rfl) ?_
     repeat (go_big_quiet_step (fail))
     refine wpQuiet_nil ?_
     intro _ hw'
     obtain ⟨⟨dq,osq⟩,hw''⟩:=hw'
     subst hw''
     go_wp2_with fail
     go_roundw
     case rel=>exact ⟨k+1,by omega,by omega,by rw [uh Hyes (by omega)],by rw [uh Hyes (by omega)],by go_num,fun j hj=>((below_regrown X dq osq).cell (p:=⟨g,j,none⟩) hg2).trans (uh HC2 j hj),Nat.lt_of_lt_of_le hg2 (below_regrown X dq osq).size,(uh kb9).below (below_regrown X dq osq) (uh kb9).lt,(uh Hv9).below (below_regrown X dq osq),(uh BB9).trans ((below_regrown X dq osq).mono (uh BB9).size)⟩
     case measure=>simp [intOf];omega
    by_cases he:n=lt
    ·subst he
     by_cases hxy:x=y
     ·subst hxy
      refine wp_region_quiet_below (by kernel_rfl) (by kernel_rfl) ?_
      repeat (go_big_quiet_step (fail))
      refine wpQuiet_nil ?_
      intro _ hw'
      obtain ⟨⟨dq,osq⟩,hw''⟩:=hw'
      subst hw''
      go_wp2_with fail
      go_roundw
      case rel=>exact ⟨k+1,by omega,by omega,by rw [uh Hyes (by omega)],by rw [uh Hyes (by omega)],by go_num,fun j hj=>((below_regrown X dq osq).cell (p:=⟨g,j,none⟩) hg2).trans (uh HC2 j hj),Nat.lt_of_lt_of_le hg2 (below_regrown X dq osq).size,(uh kb9).below (below_regrown X dq osq) (uh kb9).lt,(uh Hv9).below (below_regrown X dq osq),(uh BB9).trans ((below_regrown X dq osq).mono (uh BB9).size)⟩
      case measure=>simp [intOf];omega
     ·refine wp_region_quiet_below (by kernel_rfl) (by kernel_rfl) ?_
      repeat (go_big_quiet_step (fail))
      refine wpQuiet_nil ?_
      intro _ hw'
      obtain ⟨⟨dq,osq⟩,hw''⟩:=hw'
      subst hw''
      go_wp2_with fail
      go_roundw
      case rel=>exact ⟨k+1,by omega,by omega,by rw [uh Hno (by omega),uh Hbt],by rw [uh Hno (by omega),uh Hmt],by go_num,fun j hj=>((below_regrown X dq osq).cell (p:=⟨g,j,none⟩) hg2).trans (uh HC2 j hj),Nat.lt_of_lt_of_le hg2 (below_regrown X dq osq).size,(uh kb9).below (below_regrown X dq osq) (uh kb9).lt,(uh Hv9).below (below_regrown X dq osq),(uh BB9).trans ((below_regrown X dq osq).mono (uh BB9).size)⟩
      case measure=>simp [intOf];omega
    ·have e1:(n ==lt)=false:=by simpa using he
     have e2:decide (n=lt)=false:=decide_eq_false he
     refine wp_region_quiet_below (by kernel_rfl) (by kernel_rfl) ?_
     repeat (go_big_quiet_step (fail))
     refine wpQuiet_nil ?_
     intro _ hw'
     obtain ⟨⟨dq,osq⟩,hw''⟩:=hw'
     subst hw''
     go_wp2_with fail
     go_roundw
     case rel=>exact ⟨k+1,by omega,by omega,by rw [uh Hno (by omega),uh Hbt],by rw [uh Hno (by omega),uh Hmt],by go_num,fun j hj=>((below_regrown X dq osq).cell (p:=⟨g,j,none⟩) hg2).trans (uh HC2 j hj),Nat.lt_of_lt_of_le hg2 (below_regrown X dq osq).size,(uh kb9).below (below_regrown X dq osq) (uh kb9).lt,(uh Hv9).below (below_regrown X dq osq),(uh BB9).trans ((below_regrown X dq osq).mono (uh BB9).size)⟩
     case measure=>simp [intOf];omega
   ·obtain rfl:k=L.length:=by omega
    go_wp2_with fail
    go_ret
    exact ⟨rfl,uh BB⟩
end Go.Proofs.YtnponpamjddpjaaGreat
