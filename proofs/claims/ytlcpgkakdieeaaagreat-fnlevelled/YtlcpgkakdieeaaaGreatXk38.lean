/- Part 38 of what the proof rests on. No condition but those that a theorem names. -/
import Derived.Test.YtlcpgkakdieeaaaGreatXk33
import Derived.Test.YtlcpgkakdieeaaaGreatXk34
import Derived.Test.YtlcpgkakdieeaaaGreatXk35
import Derived.Test.YtlcpgkakdieeaaaGreatXk36
import Derived.Carry
set_option maxHeartbeats 8000000
set_option maxRecDepth 100000
namespace Go.Proofs.YtlcpgkakdieeaaaGreat
open Go.ChangeShapes Go.WideShapes Go.ChangeAt Go.RowKit Go.Sort Go.Proofs.Tryz
set_option linter.unusedVariables false
set_option linter.unusedSimpArgs false
def Cc (n₀:Nat) (M:Z6) (e:Ending) (w':World):Prop:=
 ∃ u0 u1 u2 u3 u4 qs,e= .returned (.agg #[u0,u1,u2,u3,u4,.int .i64 M.now])/\FullSmy n₀ w' u0 u1 u2 u3 u4 M qs
theorem VH {w:World} {v0 v1 v2 v3 v4:Value} {m:Z6} (h:Smy w v0 v1 v2 v3 v4 m) :
  Calls prog 13 #[.agg #[v0,v1,v2,v3,v4,.int .i64 m.now]] w fun e w'=>Cc w.heap.size (Za m) e w'/\Below w.heap.size w w':=by
 obtain ⟨X,hX⟩:=ZL (Za m);rw [hX];have HX:=Z9 hX;clear hX;have Hv0:=Z9 h;obtain ⟨a0,p0,a1,p1,a2,p2,a3,p3,a4,p4,rfl,rfl,rfl,rfl,rfl,_,_,_,_,_,_,_,_,_,_⟩:=h.five;clear h;obtain ⟨ok,Hok⟩:=Yt (ZI m);go_enter func13,ntmps13;go_wp2_with fail;obtain ⟨W,hW,kb,kr,BB⟩:=TZ w 32 (S6 a0 p0 a1 p1 a2 p2 a3 p3 a4 p4 m) 32 E6;have Hv:=Z9 ((uh Hv0).below (uh BB));clear Hv0;rw [hW];clear hW;refine ck (Wn (uh Hok) (uh Hv)) fun w1 hb=> ?_;replace kb:=bl kb hb;replace kr:=bl kr hb;replace Hv:=Z9 ((uh Hv).below hb);replace BB:=bt BB hb;clear hb;cases ok
 ·
  obtain ⟨o0,o1,o2,o3,o4,o5⟩:=(uh kr).c6;obtain ⟨f0,f1,f2,f3,f4,f5⟩:=(uh kr).f6;go_wp2_with fail;have hX0:X=XH:=by rw [<-uh HX];unfold Za;rw [uh Hok];rfl
  refine ZE (v:= .agg E6) (by simp [results,results13,go_sem, *]) rfl ⟨?_,?_⟩
  ·rw [hX0];exact ⟨_,_,_,_,_,[],rfl,Vx _ _⟩
  ·iterate 6 (refine XI ?_ (by show _<=w.heap.size+1;omega) _)
   exact uh BB
 have hlo:=ZM (uh Hok);have HLo:=Z9 hlo;have HFew:=Z9 (Rl hlo);clear hlo;obtain ⟨c0,c1,c2,c3,c4,c5⟩:=(uh kb).c6;go_wp2_with fail;clear c0 c1 c2 c3 c4 c5;have hWs:w.heap.size+2<=w1.heap.size:=by have:=(uh kr).lt;omega
 refine (Xu (uh Hv) (uh HFew)).mono ?_;rintro e w2 ⟨y0,y1,y2,y3,y4,oq,rfl,ho,hb⟩;have k9:=ho.smy;obtain ⟨b0,q0,b1,q1,b2,q2,b3,q3,b4,q4,rfl,rfl,rfl,rfl,rfl,_,_,_,_,_,_,_,_,_,_⟩:=k9.five;clear k9;replace kb:=bl kb hb;replace kr:=bl kr hb;replace Hv:=Z9 ((uh Hv).below hb);replace BB:=bt BB hb;have HO:=Z9 (ho.mono hWs);have LO:Hid (∀ k,WM (.slice b0 m.rm.length q0) (.slice b1 m.gd.length q1) (.slice b2 m.sm.length q2) (.slice b3 m.dk.length q3) (.slice b4 m.pc.length q4) oq k->w.heap.size+2<=k/\k<w2.heap.size):=Z9 (fun k e=>(uh HO).own e);have hsz9:=hb.size;clear ho hb;go_upto_region 4 with fail;obtain ⟨W2,hW2,hba,ko⟩:=Yn w2 32 (S6 b0 q0 b1 q1 b2 q2 b3 q3 b4 q4 m);replace kb:=bl kb hba;replace kr:=bl kr hba;replace Hv:=Z9 ((uh Hv).below hba);replace HO:=Z9 ((uh HO).below hba);replace BB:=bt BB hba;have hob:w.heap.size+2<=w2.heap.size:=XN hWs hsz9;clear hba hsz9 hWs;rw [hW2];clear hW2;generalize w2.heap.size=ob at *;have HX2:Hid (XX m=X):=Z9 (by rw [<-uh HX];unfold Za;rw [uh Hok];rfl);have hofR:∀ k,WM (.slice b0 m.rm.length q0) (.slice b1 m.gd.length q1) (.slice b2 m.sm.length q2) (.slice b3 m.dk.length q3) (.slice b4 m.pc.length q4) oq k->k ≠ ob:=fun k e=>by have:=(uh LO k e).2;omega
 have H2:Hid ((Value.slice b2 m.sm.length q2).ownBlock ≠ some ob):=Z9 (fun e=>hofR _ (.inr (.inr (.inr (.inl e)))) rfl);have H3:Hid ((Value.slice b3 m.dk.length q3).ownBlock ≠ some ob):=Z9 (fun e=>hofR _ (.inr (.inr (.inr (.inr (.inl e))))) rfl);clear hofR;go_wp2_with fail
 go_loopg [4] (Wi m+1) (fun k i wr=> ∃ (M:Z6) (more:Bool),i= .bool more/\k=(if more=true then Wi M+1 else 0)/\ZI M=true/\M.now=m.now/\XX M=XX m/\(more=false->Yf M=none)/\FullSmy (w.heap.size+2) wr (.slice b0 m.rm.length q0) (.slice b1 m.gd.length q1) (.slice b2 m.sm.length q2) (.slice b3 m.dk.length q3) (.slice b4 m.pc.length q4) M oq/\Two (Value.slice b2 m.sm.length q2).ownBlock (Value.slice b3 m.dk.length q3).ownBlock W2 wr)
 case atStart=>exact ⟨m,true,rfl,rfl,uh Hok,rfl,rfl,(fun e=>by cases e),uh HO,Two.refl _ _ _⟩
 case round=>
  obtain ⟨M,more,rfl,hgk,hsm,hnow,hlv,hno,hf1,htw⟩:=hrel;have HF1:=Z9 hf1;have Tw:=Z9 htw;have Hsm:=Z9 hsm;have Hnow:=Z9 hnow;have Hlv:=Z9 hlv;have Hno:=Z9 hno;replace ko:=Z9 ((uh ko).two htw (uh H2) (uh H3));clear hf1 htw hsm hnow hlv hno;cases more
  ·
   clear hgk;replace kr:=Z9 ((uh kr).two (uh Tw) (fun e=>by have:=(uh LO _ (.inr (.inr (.inr (.inl e))))).1;omega) (fun e=>by have:=(uh LO _ (.inr (.inr (.inr (.inr (.inl e)))))).1;omega));replace BB:=Z9 ((uh BB).trans ((uh Tw).below (uh BB).size (fun k e=>by have:=(uh LO k (.inr (.inr (.inr (.inl e))))).1;omega) (fun k e=>by have:=(uh LO k (.inr (.inr (.inr (.inr (.inl e)))))).1;omega)));obtain ⟨x0,x1,x2,x3,x4,x5⟩:=(uh ko).c6;obtain ⟨o0,o1,o2,o3,o4,o5⟩:=(uh kr).c6;obtain ⟨f0,f1,f2,f3,f4,f5⟩:=(uh kr).f6;go_wp2_with fail;have hX0:X=M:=by rw [<-uh HX2,<-uh Hlv];exact SC (uh Hno (by trivial))
   refine ZE (v:= .agg (S6 b0 q0 b1 q1 b2 q2 b3 q3 b4 q4 m)) (by simp [results,results13,go_sem, *]) rfl ⟨?_,?_⟩
   ·rw [hX0];refine ⟨_,_,_,_,_,oq,by rw [uh Hnow],?_⟩
    iterate 6 (refine FullSmy.set_off ?_ (fun k e=>by have:=(uh LO k e).1;omega) _ _)
    exact (uh HF1).mono (by omega)
   ·iterate 6 (refine XI ?_ (by show _<=w.heap.size+1;omega) _)
    exact uh BB
  simp only [if_true] at hgk;subst hgk;clear Hno;obtain ⟨mi,hmi⟩:=ZL (Zb M);have hc:=SK (uh HF1).smy;rw [uh Hnow] at hc;have Hc:=Z9 hc;clear hc;rw [hmi] at Hc;have Hmi:=Z9 hmi;clear hmi;obtain ⟨x0,x1,x2,x3,x4,x5⟩:=(uh ko).c6;cases mi with
  | some r=>
   obtain ⟨wh,bb⟩:=r;have Hc2:Hid (cB 14 #[.agg (S6 b0 q0 b1 q1 b2 q2 b3 q3 b4 q4 m)] wr (.tuple #[.int .i64 (wh:Int),.int .i64 (bb:Int),.bool true])):=Hc;clear Hc;have Hc:=Hc2;clear Hc2;go_wp2_with fail;clear x0 x1 x2 x3 x4 x5;refine ck (uh Hc) fun w5 hb=> ?_;replace HF1:=Z9 ((uh HF1).below hb);replace ko:=bl ko hb;replace Tw:=Z9 ((uh Tw).trans (Two.of_below hb));clear hb Hc;have hmv:Yf M=some (wh,bb):=by unfold Yf;rw [uh Hmi]
   have mv:=Vp hmv;have Hmv:=Z9 hmv;obtain ⟨a0',a1',_⟩:=(ZM (uh Hsm)).at mv.who mv.pres;obtain ⟨bn,hbn⟩:∃ bn:Nat,(Z8 M.sm wh).2.1=(bn:Int):=⟨(Z8 M.sm wh).2.1.toNat,by omega⟩
   have Hbn:=Z9 hbn;have hbl:bn<M.dk.length:=by omega
   have Mv:=Z9 mv;have Hbl:=Z9 hbl;clear hmv hbn hbl a0' a1' mv;have k8:Hid (Blk w5 ob 32 #[.slice b0 m.rm.length q0,.slice b1 m.gd.length q1,.slice b2 m.sm.length q2,.slice b3 m.dk.length q3,.slice b4 m.pc.length q4,.int .i64 M.now]):=Z9 (by rw [uh Hnow];exact uh ko);go_wp2_with fail;refine (UK (m:=M) (k:=wh) (bn:=bn) (b:=bb) (uh k8) (uh HF1) (uh H2) (uh H3) (uh Mv).who (uh Hbn) (uh Hbl) (uh Mv).bench).mono ?_;rintro e w7 ⟨rfl,hf7,ht7⟩;have k7:Hid (Blk w7 ob 32 #[.slice b0 m.rm.length q0,.slice b1 m.gd.length q1,.slice b2 m.sm.length q2,.slice b3 m.dk.length q3,.slice b4 m.pc.length q4,.int .i64 M.now]):=Z9 ((uh k8).two ht7 (uh H2) (uh H3));have HF7:=Z9 hf7;have T7:=Z9 ((uh Tw).trans ht7);clear hf7 ht7 k8;have h12:=Zj (ZM (uh Hsm));have h8:=(ZM (uh Hsm)).sane.eight;have hl12:(VM M wh bb).sm.length<=800:=by rw [XF];omega
   have hd8:(VM M wh bb).dk.length<=1000:=by show M.dk.length<=1000;omega
   have Hl12:=Z9 hl12;have Hd8:=Z9 hd8;clear h12 h8 hl12 hd8;go_wp2_with fail;refine (Su (m:=VM M wh bb) (uh k7) (uh HF7) (uh H2) (uh H3) (uh Hl12) (uh Hd8)).mono ?_;rintro e w8 ⟨rfl,hf8,ht8⟩;have HF8:=Z9 hf8;have T8:=Z9 ((uh T7).trans ht8);clear hf8 ht8;go_wp2_with fail
   go_roundg (Wi (XZ M wh bb)+1)
   case measure=>have:=(uh Mv).falls;omega
   case rel=>exact ⟨XZ M wh bb,true,rfl,rfl,(uh Mv).keeps,((Zx _ _).2.2.2.1).trans (uh Hnow),(P9 (uh Hmv)).symm.trans (uh Hlv),(fun e=>by cases e),uh HF8,uh T8⟩
  | none=>
   have Hc2:Hid (cB 14 #[.agg (S6 b0 q0 b1 q1 b2 q2 b3 q3 b4 q4 m)] wr (.tuple #[.int .i64 0,.int .i64 0,.bool false])):=Hc;clear Hc;have Hc:=Hc2;clear Hc2;go_wp2_with fail;clear x0 x1 x2 x3 x4 x5;refine ck (uh Hc) fun w5 hb=> ?_;replace HF1:=Z9 ((uh HF1).below hb);replace ko:=bl ko hb;replace Tw:=Z9 ((uh Tw).trans (Two.of_below hb));clear hb Hc;obtain ⟨wi,hwi⟩:=ZL (YZ M);have hc:=SZ (uh HF1).smy;rw [uh Hnow] at hc;have Hc:=Z9 hc;clear hc;rw [hwi] at Hc;have hmv:Yf M=wi:=by unfold Yf;rw [uh Hmi];exact hwi
   clear hwi;obtain ⟨x0,x1,x2,x3,x4,x5⟩:=(uh ko).c6;cases wi with
   | some r=>
    obtain ⟨wh,bb⟩:=r;have Hc2:Hid (cB 15 #[.agg (S6 b0 q0 b1 q1 b2 q2 b3 q3 b4 q4 m)] w5 (.tuple #[.int .i64 (wh:Int),.int .i64 (bb:Int),.bool true])):=Hc;clear Hc;have Hc:=Hc2;clear Hc2;have Hm0:=Z9 hmv;clear hmv;go_wp2_with fail;clear x0 x1 x2 x3 x4 x5;refine ck (uh Hc) fun w6 hb=> ?_;replace HF1:=Z9 ((uh HF1).below hb);replace ko:=bl ko hb;replace Tw:=Z9 ((uh Tw).trans (Two.of_below hb));clear hb Hc;have hmv:=uh Hm0;clear Hm0;have mv:=Vp hmv;have Hmv:=Z9 hmv;obtain ⟨a0',a1',_⟩:=(ZM (uh Hsm)).at mv.who mv.pres;obtain ⟨bn,hbn⟩:∃ bn:Nat,(Z8 M.sm wh).2.1=(bn:Int):=⟨(Z8 M.sm wh).2.1.toNat,by omega⟩
    have Hbn:=Z9 hbn;have hbl:bn<M.dk.length:=by omega
    have Mv:=Z9 mv;have Hbl:=Z9 hbl;clear hmv hbn hbl a0' a1' mv;have k8:Hid (Blk w6 ob 32 #[.slice b0 m.rm.length q0,.slice b1 m.gd.length q1,.slice b2 m.sm.length q2,.slice b3 m.dk.length q3,.slice b4 m.pc.length q4,.int .i64 M.now]):=Z9 (by rw [uh Hnow];exact uh ko);go_wp2_with fail;refine (UK (m:=M) (k:=wh) (bn:=bn) (b:=bb) (uh k8) (uh HF1) (uh H2) (uh H3) (uh Mv).who (uh Hbn) (uh Hbl) (uh Mv).bench).mono ?_;rintro e w7 ⟨rfl,hf7,ht7⟩;have k7:Hid (Blk w7 ob 32 #[.slice b0 m.rm.length q0,.slice b1 m.gd.length q1,.slice b2 m.sm.length q2,.slice b3 m.dk.length q3,.slice b4 m.pc.length q4,.int .i64 M.now]):=Z9 ((uh k8).two ht7 (uh H2) (uh H3));have HF7:=Z9 hf7;have T7:=Z9 ((uh Tw).trans ht7);clear hf7 ht7 k8;have h12:=Zj (ZM (uh Hsm));have h8:=(ZM (uh Hsm)).sane.eight;have hl12:(VM M wh bb).sm.length<=800:=by rw [XF];omega
    have hd8:(VM M wh bb).dk.length<=1000:=by show M.dk.length<=1000;omega
    have Hl12:=Z9 hl12;have Hd8:=Z9 hd8;clear h12 h8 hl12 hd8;go_wp2_with fail;refine (Su (m:=VM M wh bb) (uh k7) (uh HF7) (uh H2) (uh H3) (uh Hl12) (uh Hd8)).mono ?_;rintro e w8 ⟨rfl,hf8,ht8⟩;have HF8:=Z9 hf8;have T8:=Z9 ((uh T7).trans ht8);clear hf8 ht8;go_wp2_with fail
    go_roundg (Wi (XZ M wh bb)+1)
    case measure=>have:=(uh Mv).falls;omega
    case rel=>exact ⟨XZ M wh bb,true,rfl,rfl,(uh Mv).keeps,((Zx _ _).2.2.2.1).trans (uh Hnow),(P9 (uh Hmv)).symm.trans (uh Hlv),(fun e=>by cases e),uh HF8,uh T8⟩
   | none=>
    have Hc2:Hid (cB 15 #[.agg (S6 b0 q0 b1 q1 b2 q2 b3 q3 b4 q4 m)] w5 (.tuple #[.int .i64 0,.int .i64 0,.bool false])):=Hc;clear Hc;have Hc:=Hc2;clear Hc2;have Hm0:=Z9 hmv;clear hmv;go_wp2_with fail;clear x0 x1 x2 x3 x4 x5;refine ck (uh Hc) fun w6 hb=> ?_;replace HF1:=Z9 ((uh HF1).below hb);replace ko:=bl ko hb;replace Tw:=Z9 ((uh Tw).trans (Two.of_below hb));clear hb Hc;go_wp2_with fail
    go_roundg 0
    case measure=>omega
    case rel=>exact ⟨M,false,rfl,rfl,uh Hsm,uh Hnow,uh Hlv,(fun _=>uh Hm0),uh HF1,uh Tw⟩
open Go.ChangeShapes Go.WideShapes Go.ChangeAt Go.RowKit Go.Sort
set_option maxRecDepth 100000
def Zp (m:Z6) (k who a b:Int):Z6 × Int:=
 if ZI m then (if k=1 then TG m a b (-1) else if k=2 then SI m who else if k=3 then T6 m who else if k=4 then Uh m who else if k=5 then UP m who a else if k=6 then VN m who a else if k=7 then UM m who a b else if k=8 then Wt m a else if k=9 then SG m a else if k=10 then S0 m a else if k=11 then UF m a b else if k=12 then (FU m,0) else if k=13 then (Za m,0) else if k=14 then RE m who a else (m,3)) else (XH,3)
theorem Fp {m:Z6} (h:ZI m=true) (who a b:Int):Zp m 1 who a b=TG m a b (-1):=by unfold Zp;rw [h];rfl
theorem Fq {m:Z6} (h:ZI m=true) (who a b:Int):Zp m 2 who a b=SI m who:=by unfold Zp;rw [h];rfl
theorem Fs {m:Z6} (h:ZI m=true) (who a b:Int):Zp m 3 who a b=T6 m who:=by unfold Zp;rw [h];rfl
theorem Ft {m:Z6} (h:ZI m=true) (who a b:Int):Zp m 4 who a b=Uh m who:=by unfold Zp;rw [h];rfl
theorem Fu {m:Z6} (h:ZI m=true) (who a b:Int):Zp m 5 who a b=UP m who a:=by unfold Zp;rw [h];rfl
theorem Fv {m:Z6} (h:ZI m=true) (who a b:Int):Zp m 6 who a b=VN m who a:=by unfold Zp;rw [h];rfl
theorem Fw {m:Z6} (h:ZI m=true) (who a b:Int):Zp m 7 who a b=UM m who a b:=by unfold Zp;rw [h];rfl
theorem Fx {m:Z6} (h:ZI m=true) (who a b:Int):Zp m 8 who a b=Wt m a:=by unfold Zp;rw [h];rfl
theorem Fy {m:Z6} (h:ZI m=true) (who a b:Int):Zp m 9 who a b=SG m a:=by unfold Zp;rw [h];rfl
theorem IT {m:Z6} (h:ZI m=true) (who a b:Int):Zp m 10 who a b=S0 m a:=by unfold Zp;rw [h];rfl
theorem IU {m:Z6} (h:ZI m=true) (who a b:Int):Zp m 11 who a b=UF m a b:=by unfold Zp;rw [h];rfl
theorem IV {m:Z6} (h:ZI m=true) (who a b:Int):Zp m 12 who a b=(FU m,0):=by unfold Zp;rw [h];rfl
theorem IW {m:Z6} (h:ZI m=true) (who a b:Int):Zp m 13 who a b=(Za m,0):=by unfold Zp;rw [h];rfl
theorem IX {m:Z6} (h:ZI m=true) (who a b:Int):Zp m 14 who a b=RE m who a:=by unfold Zp;rw [h];rfl
theorem PA {m:Z6} (h:ZI m=true) {k:Int} (hk:k<1\/14<k) (who a b:Int):Zp m k who a b=(m,3):=by
 unfold Zp;rw [if_pos h,if_neg (show ¬ k=1 by omega),if_neg (show ¬ k=2 by omega),if_neg (show ¬ k=3 by omega),if_neg (show ¬ k=4 by omega),if_neg (show ¬ k=5 by omega),if_neg (show ¬ k=6 by omega),if_neg (show ¬ k=7 by omega),if_neg (show ¬ k=8 by omega),if_neg (show ¬ k=9 by omega),if_neg (show ¬ k=10 by omega),if_neg (show ¬ k=11 by omega),if_neg (show ¬ k=12 by omega),if_neg (show ¬ k=13 by omega),if_neg (show ¬ k=14 by omega)]
theorem KK {m:Z6} (h:ZI m=true) (k who a b:Int):ZI (Zp m k who a b).1=true:=by
 by_cases hk:k<1\/14<k
 ·rw [PA h hk];exact h
 rcases (show k=1\/k=2\/k=3\/k=4\/k=5\/k=6\/k=7\/k=8\/k=9\/k=10\/k=11\/k=12\/k=13\/k=14 by omega) with rfl | rfl | rfl | rfl | rfl | rfl | rfl | rfl | rfl | rfl | rfl | rfl | rfl | rfl
 ·rw [Fp h];exact F4 h a b (-1)
 ·rw [Fq h];exact GQ h who
 ·rw [Fs h];exact Ii h who
 ·rw [Ft h];exact Jg h who
 ·rw [Fu h];exact GO h who a
 ·rw [Fv h];exact Is h who a
 ·rw [Fw h];exact Jk h who a b
 ·rw [Fx h];exact KG h a
 ·rw [Fy h];exact GF h a
 ·rw [IT h];exact G8 h a
 ·rw [IU h];exact IP h a b
 ·rw [IV h];exact DO h
 ·rw [IW h];exact (show ZI (Za m)=true by unfold Za;rw [h];exact Up h)
 ·rw [IX h];exact Gi h who a
open Go.ChangeShapes Go.WideShapes Go.ChangeAt Go.RowKit Go.Sort Go.Shelf Go.Proofs.Tryz
set_option maxRecDepth 100000
structure Cor (w X:World) (B R:Nat) (v0 v1 v2 v3 v4:Value) (M:Z6) (qs:List (ZW × Value)) (n:Nat) (D:DataW Unit):Prop where
 full:FullSmy (w.heap.size+2) X v0 v1 v2 v3 v4 M qs
 off:∀ k,WM v0 v1 v2 v3 v4 qs k->k ≠ B/\k ≠ R
 box:Blk X R 32 #[v0,v1,v2,v3,v4,.int .i64 M.now]
 res:Blk X (w.heap.size+1) 32 E6
 mp:Mp X B n D
 bb:Below w.heap.size w X
 hB:w.heap.size+2<=B
 hR:w.heap.size+2<=R
 hBR:B ≠ R
structure Lev (w X:World) (B R sx:Nat) (v0 v1 v2 v3 v4:Value) (M:Z6) (qs:List (ZW × Value)) (n:Nat) (D:DataW Unit) (sv:Array Value):Prop where
 cor:Cor w X B R v0 v1 v2 v3 v4 M qs n D
 seat:Blk X sx 58 sv
 offs:∀ k,WM v0 v1 v2 v3 v4 qs k->k ≠ sx
 hs:w.heap.size+2<=sx
 hBs:B ≠ sx
 hRs:R ≠ sx
section
variable {w X Y : World} {B R sx n : Nat} {v0 v1 v2 v3 v4 : Value} {M M2 : Z6} {qs rs : List (ZW × Value)} {D D2 : DataW Unit} {sv : Array Value}
theorem XT {a b:Nat} (h:a ≠ b):some a ≠ some b:=fun e=>h (by cases e;rfl)
theorem Lev.put (h:Lev w X B R sx v0 v1 v2 v3 v4 M qs n D sv) {g:Nat} (hg:WM v0 v1 v2 v3 v4 qs g) (hf:FullSmy (w.heap.size+2) Y v0 v1 v2 v3 v4 M2 qs) (ht:Two (some g) none X Y) (hn:M2.now=M.now):Lev w Y B R sx v0 v1 v2 v3 v4 M2 qs n D sv:=by
 obtain ⟨h,hseat,hoffs,hs,hBs,hRs⟩:=h;obtain ⟨g1,g2⟩:=h.off g hg;have g3:=hoffs g hg;have g0:=(h.full.own hg).1;exact ⟨⟨hf,h.off,by rw [hn];exact h.box.two ht (XT g2) (fun e=>by cases e),h.res.two ht (XT (by omega)) (fun e=>by cases e),h.mp.two ht (XT g1) (fun e=>by cases e),Two.up h.bb ht (by omega),h.hB,h.hR,h.hBR⟩,hseat.two ht (XT g3) (fun e=>by cases e),hoffs,hs,hBs,hRs⟩
theorem Lev.turn (h:Lev w X B R sx v0 v1 v2 v3 v4 M qs n D sv) (hb:Below X.heap.size X Y) {u0 u1 u2 u3 u4:Value} (hf:FullSmy X.heap.size Y u0 u1 u2 u3 u4 M2 rs):Lev w ((((((Y.setCell ⟨R,0,none⟩ u0).setCell ⟨R,1,none⟩ u1).setCell ⟨R,2,none⟩ u2).setCell ⟨R,3,none⟩ u3).setCell ⟨R,4,none⟩ u4).setCell ⟨R,5,none⟩ (.int .i64 M2.now)) B R sx u0 u1 u2 u3 u4 M2 rs n D sv:=by
 obtain ⟨h,hseat,hoffs,hs,hBs,hRs⟩:=h;have hBX:=h.mp.lt;have hRX:=h.box.lt;have hsX:=hseat.lt;have hrX:=h.res.lt;have ht:=J9 Y R u0 u1 u2 u3 u4 (.int .i64 M2.now);have hR:=h.hR;exact ⟨⟨(hf.two ht (fun k e=>⟨XT (by have:=(hf.own e).1;omega),fun e=>by cases e⟩)).mono (by omega),fun k e=>by have:=(hf.own e).1;omega,Blk.put6 _ _ _ _ _ _ (h.box.below hb hRX),(h.res.below hb hrX).two ht (XT (by omega)) (fun e=>by cases e),(h.mp.below hb).two ht (XT h.hBR.symm) (fun e=>by cases e),Two.up (h.bb.trans (hb.mono h.bb.size)) ht (by omega),h.hB,h.hR,h.hBR⟩,(hseat.below hb hsX).two ht (XT hRs) (fun e=>by cases e),fun k e=>by have:=(hf.own e).1;omega,hs,hBs,hRs⟩
theorem Cor.sit (h:Cor w X B R v0 v1 v2 v3 v4 M qs n D) (t:Array Value):Lev w (X.alloc (.cells t 58)) B R X.heap.size v0 v1 v2 v3 v4 M qs n D t:=by
 have hb:Below X.heap.size X (X.alloc (.cells t 58)):=ba _ _;have hBX:=h.mp.lt;have hRX:=h.box.lt;have hB:=h.hB;exact ⟨⟨h.full.below hb,h.off,h.box.below hb hRX,h.res.below hb h.res.lt,h.mp.below hb,h.bb.trans (hb.mono h.bb.size),h.hB,h.hR,h.hBR⟩,Blk.new _ _ _,fun k e=>by have:=(h.full.own e).2;omega,by omega,by omega,by omega⟩
theorem Cor.next (h:Cor w X B R v0 v1 v2 v3 v4 M qs n D) (ht:Two (some B) none X Y) {n2:Nat} (hm:Mp Y B n2 D2):Cor w Y B R v0 v1 v2 v3 v4 M qs n2 D2:=by
 have hB:=h.hB;exact ⟨h.full.two ht (fun k e=>⟨XT (h.off k e).1.symm,fun e=>by cases e⟩),h.off,h.box.two ht (XT h.hBR) (fun e=>by cases e),h.res.two ht (XT (by omega)) (fun e=>by cases e),hm,Two.up h.bb ht (by omega),h.hB,h.hR,h.hBR⟩
theorem Lev.next (h:Lev w X B R sx v0 v1 v2 v3 v4 M qs n D sv) (ht:Two (some B) none X Y) {n2:Nat} (hm:Mp Y B n2 D2):Lev w Y B R sx v0 v1 v2 v3 v4 M qs n2 D2 sv:=⟨h.cor.next ht hm,h.seat.two ht (XT h.hBs) (fun e=>by cases e),h.offs,h.hs,h.hBs,h.hRs⟩
theorem Lev.take {x y z:Value} (h:Lev w X B R sx v0 v1 v2 v3 v4 M qs n D #[x,y,z]) (a b c:Value):Lev w (((X.setCell ⟨sx,0,none⟩ a).setCell ⟨sx,1,none⟩ b).setCell ⟨sx,2,none⟩ c) B R sx v0 v1 v2 v3 v4 M qs n D #[a,b,c]:=by
 obtain ⟨h,hseat,hoffs,hs,hBs,hRs⟩:=h;have ht:=Ra X sx a b c;exact ⟨⟨h.full.two ht (fun k e=>⟨XT (hoffs k e).symm,fun e=>by cases e⟩),h.off,h.box.two ht (XT hRs.symm) (fun e=>by cases e),h.res.two ht (XT (by omega)) (fun e=>by cases e),h.mp.two ht (XT hBs.symm) (fun e=>by cases e),Two.up h.bb ht (by omega),h.hB,h.hR,h.hBR⟩,Blk.put3 _ _ _ hseat,hoffs,hs,hBs,hRs⟩
end
def AT (m:Z6) (w:World) (B R:Nat) (k:Nat) (i:Value) (X:World):Prop:=
 ∃ (M:Z6) (sx n:Nat) (D:DataW Unit) (v0 v1 v2 v3 v4:Value) (qs:List (ZW × Value)) (x y:Int) (f:Bool),i= .pointer (some ⟨sx,0,none⟩)/\k=Wi M/\ZI M=true/\XX M=XX m/\Lev w X B R sx v0 v1 v2 v3 v4 M qs n D #[.int .i64 x,.int .i64 y,.bool f]/\Ce (Yf M) x y f/\n+Wi M<=Wi m+1/\ ∀ l,Maps.has D l=true-> ∃ i:Nat,l= .int .i64 (i:Int)/\AU M (Pp M) i
theorem CJ {m:Z6} (h:ZI m=true):Wi m<=200:=by
 have hlo:=ZM h;have h12:=Zj hlo;have h8:=hlo.sane.eight;have h1:=PZ (YD m) m.dk.length;have h2:=PZ (VE m) m.sm.length;unfold Wi QI MI;omega
attribute [local go_sem ↓] Qj Qk
theorem Vz {w:World} {v0 v1 v2 v3 v4:Value} {m:Z6} (h:Smy w v0 v1 v2 v3 v4 m):Calls prog 8 #[.agg #[v0,v1,v2,v3,v4,.int .i64 m.now]] w fun e w'=>Cc w.heap.size (Za m) e w'/\Below w.heap.size w w':=by
 obtain ⟨Z,hZ⟩:=ZL (Za m);rw [hZ];have HZ:=Z9 hZ;clear hZ;obtain ⟨ok,Hok⟩:=Yt (ZI m);have hmm:= @run_makeMap prog;obtain ⟨a0,p0,a1,p1,a2,p2,a3,p3,a4,p4,rfl,rfl,rfl,rfl,rfl,K⟩:=Bx.new h;clear h;go_enter func8,ntmps8;go_upto_region 1 with fail;replace K:=K.alloc (.cells E6 32)
 have kr:Hid (Blk ((w.alloc (.cells (S6 a0 p0 a1 p1 a2 p2 a3 p3 a4 p4 m) 32)).alloc (.cells E6 32)) (w.heap.size+1) 32 E6):=Z9 (by
  have k:=Blk.new (w.alloc (.cells (S6 a0 p0 a1 p1 a2 p2 a3 p3 a4 p4 m) 32)) 32 E6;rw [Yy] at k
  exact k)
 generalize (w.alloc (.cells (S6 a0 p0 a1 p1 a2 p2 a3 p3 a4 p4 m) 32)).alloc (.cells E6 32)=W at *;obtain ⟨c0,c1,c2,c3,c4,c5⟩:=K.cells;go_wp2_with fail;refine ck (VT _ _ _ _ _ _ _ _ (uh Hok) K.smy) fun w1 hb=> ?_;replace K:=K.next hb;replace kr:=bl kr hb;clear hb c0 c1 c2 c3 c4 c5;cases ok
 ·obtain rfl:Z=XH:=by rw [<-uh HZ];unfold Za;rw [uh Hok];rfl
  obtain ⟨o0,o1,o2,o3,o4,o5⟩:=(uh kr).c6;obtain ⟨f0,f1,f2,f3,f4,f5⟩:=(uh kr).f6;go_wp2_with fail;refine ZE (v:= .agg E6) (by simp [results,results8,go_sem, *]) rfl ⟨⟨_,_,_,_,_,[],rfl,Vx _ _⟩,Below.put6 _ _ _ _ _ _ K.bb (Nat.le_succ _)⟩
 have hlo:=ZM (uh Hok);have HFew:=Z9 (Rl hlo);clear hlo;have HZ2:Hid (XX m=Z):=Z9 (by rw [<-uh HZ];unfold Za;rw [uh Hok];rfl);obtain ⟨c0,c1,c2,c3,c4,c5⟩:=K.cells;go_wp2_with fail;refine (TH K.smy (uh HFew)).mono ?_;rintro e w2 ⟨y0,y1,y2,y3,y4,oq,rfl,ho,hb⟩;obtain ⟨d0,e0,d1,e1,d2,e2,d3,e3,d4,e4,rfl,rfl,rfl,rfl,rfl,_⟩:=ho.smy.five;have hw1:w.heap.size+2<=w1.heap.size:=(uh kr).lt;replace kr:=bl kr hb;have hw2:w1.heap.size<=w2.heap.size:=hb.size;have BB:=Z9 (K.next hb).bb;have HO:=Z9 ho;clear hb c0 c1 c2 c3 c4 c5 K ho HZ HFew;go_upto_region 4 with fail;have hb1:Below w2.heap.size w2 (w2.alloc (.map #[] 0)):=ba _ _;have hsz:(w2.alloc (.map #[] 0)).heap.size=w2.heap.size+1:=Yy _ _;have hb2:Below w2.heap.size w2 ((w2.alloc (.map #[] 0)).alloc (.cells (S6 d0 e0 d1 e1 d2 e2 d3 e3 d4 e4 m) 32)):=hb1.alloc (by omega) _
 have C0:Cor w ((w2.alloc (.map #[] 0)).alloc (.cells (S6 d0 e0 d1 e1 d2 e2 d3 e3 d4 e4 m) 32)) w2.heap.size (w2.heap.size+1) (.slice d0 m.rm.length e0) (.slice d1 m.gd.length e1) (.slice d2 m.sm.length e2) (.slice d3 m.dk.length e3) (.slice d4 m.pc.length e4) m oq 0 (.map []):=by
  have k1:=Blk.new (w2.alloc (.map #[] 0)) 32 (S6 d0 e0 d1 e1 d2 e2 d3 e3 d4 e4 m);rw [hsz] at k1;exact ⟨((uh HO).below hb2).mono hw1,fun k e=>by have:=(uh HO).own e;omega,k1,(uh kr).below hb2 (uh kr).lt,(Mp.new w2).below ((ba _ _)),(uh BB).trans (hb2.mono (uh BB).size),by omega,by omega,by omega⟩
 have HC:=Z9 C0;clear C0 hb1 hb2 hsz HO kr BB;generalize (w2.alloc (.map #[] 0)).alloc (.cells (S6 d0 e0 d1 e1 d2 e2 d3 e3 d4 e4 m) 32)=X at *;generalize w2.heap.size=B at *;obtain ⟨c0,c1,c2,c3,c4,c5⟩:=(uh HC).box.c6;go_wp2_with fail;refine (QT (uh HC).full (fun k e=>((uh HC).off k e).1) (uh Hok) (uh HC).mp (by omega) (fun l hl=>by simp [Maps.has] at hl)).mono ?_;rintro e w3 ⟨⟨x,y,f,rfl,hsi⟩,ht,n',D',hm',hn',hk'⟩;have C1:=Z9 ((uh HC).next ht hm');have Hsi:=Z9 hsi;have Hk:=Z9 hk';clear ht hm' hk' hsi HC c0 c1 c2 c3 c4 c5;go_upto_region 5 with fail;have L1:=Z9 ((uh C1).sit #[.int .i64 x,.int .i64 y,.bool f]);clear C1;generalize w3.alloc (.cells #[.int .i64 x,.int .i64 y,.bool f] 58)=X3 at *;generalize w3.heap.size=sx at *
 go_loopg [5] (Wi m) (fun k i wr=>AT m w B (B+1) k i wr)
 case atStart=>exact ⟨m,sx,n',D',_,_,_,_,_,_,x,y,f,rfl,rfl,uh Hok,rfl,uh L1,uh Hsi,by omega,uh Hk⟩
 case round=>
  obtain ⟨M,sx,n,D,u0,u1,u2,u3,u4,qs,x,y,f,rfl,hgk,hsm,hlv,hL,hsi,hnl,hks⟩:=hrel;subst hgk;clear L1 Hsi Hk;have h12:=Zj (ZM hsm);have hfew:=CJ (uh Hok);obtain ⟨b0,q0,b1,q1,b2x,q2,b3,q3,b4,q4,rfl,rfl,rfl,rfl,rfl,_⟩:=hL.cor.full.smy.five;have Hsm:=Z9 hsm;have Hlv:=Z9 hlv;have HL:=Z9 hL;have Hks:=Z9 hks;clear hsm hlv hL hks;obtain ⟨r,hr⟩:=ZL (Yf M);rw [hr] at hsi;have Hr:=Z9 hr;clear hr;obtain ⟨t0,t1,t2⟩:=(uh HL).seat.c3;obtain ⟨c0,c1,c2,c3,c4,c5⟩:=(uh HL).cor.box.c6;cases r with
  | none=>
   obtain ⟨rfl,rfl,rfl⟩:=hsi;obtain rfl:Z=M:=by rw [<-uh HZ2,<-uh Hlv];exact SC (uh Hr)
   obtain ⟨o0,o1,o2,o3,o4,o5⟩:=(uh HL).cor.res.c6;obtain ⟨f0,f1,f2,f3,f4,f5⟩:=(uh HL).cor.res.f6;go_wp2_with fail;have HT:=J9 wr (w.heap.size+1) (.slice b0 Z.rm.length q0) (.slice b1 Z.gd.length q1) (.slice b2x Z.sm.length q2) (.slice b3 Z.dk.length q3) (.slice b4 Z.pc.length q4) (.int .i64 Z.now);refine ZE (v:= .agg (S6 b0 q0 b1 q1 b2x q2 b3 q3 b4 q4 Z)) (by simp [results,results8,go_sem, *]) rfl ⟨⟨_,_,_,_,_,qs,rfl,((uh HL).cor.full.two HT (fun k e=>⟨XT (by have:=((uh HL).cor.full.own e).1;omega),fun e=>by cases e⟩)).mono (by omega)⟩,Two.up (uh HL).cor.bb HT (Nat.le_succ _)⟩
  | some r2=>
   obtain ⟨wh,bb⟩:=r2;obtain ⟨rfl,rfl,rfl⟩:=hsi;have mv:=Vp (uh Hr);obtain ⟨b2,hga,_⟩:=RecAt.view ZT (by omega) (uh HL).cor.full.sm rfl (by have:=mv.who;omega);cases hga;obtain ⟨a0',a1',_⟩:=(ZM (uh Hsm)).at mv.who mv.pres;obtain ⟨bn,hbn⟩:∃ bn:Nat,(Z8 M.sm wh).2.1=(bn:Int):=⟨(Z8 M.sm wh).2.1.toNat,by omega⟩
   have hbl:bn<M.dk.length:=by omega
   have HP:=Z9 (AR (uh HL).cor.box (uh HL).cor.full mv.who mv.bench hbn hbl);have Mv:=Z9 mv;have HT:=Z9 (fun (X:World) (hX:Smy X (.slice b0 M.rm.length q0) (.slice b1 M.gd.length q1) (.slice (some ⟨b2,0,none⟩) M.sm.length q2) (.slice b3 M.dk.length q3) (.slice b4 M.pc.length q4) (N5 M wh bb))=>NL X _ _ _ _ _ (N5 M wh bb) hX);rw [BL mv] at HT;have Hnow:Hid ((N5 M wh bb).now=M.now):=Z9 rfl;have HF5:=Z9 (mv.falls);have HK5:Hid (ZI (XZ M wh bb)=true):=Z9 mv.keeps;have HLv5:Hid (XX (XZ M wh bb)=XX m):=Z9 ((P9 (uh Hr)).symm.trans (uh Hlv));have HS5:=Z9 (fun i hi=>GS (uh Hr) (fun _ h=>h) i hi);generalize XZ M wh bb=M5 at *;clear mv hbn hbl a0' a1';go_wp2_with fail;refine (uh HP).mono ?_;rintro e w4 ⟨rfl,hf4,ht4⟩;have L4:=Z9 ((uh HL).put (.inr (.inr (.inr (.inl rfl)))) hf4 ht4 (uh Hnow));clear hf4 ht4 HP HL t0 t1 t2 c0 c1 c2 c3 c4 c5;obtain ⟨c0,c1,c2,c3,c4,c5⟩:=(uh L4).cor.box.c6;go_wp2_with fail;refine (uh HT _ (uh L4).cor.full.smy).mono ?_;rintro e w5 ⟨x0,x1,x2,x3,x4,rs,rfl,hf5,hb5⟩;obtain ⟨z0,y0,z1,y1,z2,y2,z3,y3,z4,y4,rfl,rfl,rfl,rfl,rfl,_⟩:=hf5.smy.five;have L5:=Z9 ((uh L4).turn hb5 hf5);have kb5:=Z9 ((uh L4).cor.box.below hb5 (uh L4).cor.box.lt);clear hf5 hb5 L4 HT c0 c1 c2 c3 c4 c5;obtain ⟨c0,c1,c2,c3,c4,c5⟩:=(uh kb5).c6;obtain ⟨f0,f1,f2,f3,f4,f5⟩:=(uh kb5).f6;go_upto_region 9 with fail;clear c0 c1 c2 c3 c4 c5 f0 f1 f2 f3 f4 f5 kb5;generalize (((((w5.setCell ⟨B+1,0,none⟩ (.slice z0 M5.rm.length y0)).setCell ⟨B+1,1,none⟩ (.slice z1 M5.gd.length y1)).setCell ⟨B+1,2,none⟩ (.slice z2 M5.sm.length y2)).setCell ⟨B+1,3,none⟩ (.slice z3 M5.dk.length y3)).setCell ⟨B+1,4,none⟩ (.slice z4 M5.pc.length y4)).setCell ⟨B+1,5,none⟩ (.int .i64 M5.now)=X5 at *;obtain ⟨t0,t1,t2⟩:=(uh L5).seat.c3;go_upto_region 6 with fail;clear t0 t1 t2;have L6:=Z9 ((uh L5).cor.sit #[.int .i64 (wh:Int),.int .i64 (bb:Int),.bool true]);clear L5;generalize X5.alloc (.cells #[.int .i64 (wh:Int),.int .i64 (bb:Int),.bool true] 58)=X6 at *;generalize X5.heap.size=sy at *;obtain ⟨c0,c1,c2,c3,c4,c5⟩:=(uh L6).cor.box.c6;have hn5:n<=500:=by omega
   have hks5:∀ l,Maps.has D l=true-> ∃ i:Nat,l= .int .i64 (i:Int)/\Pp M5 i:=fun l hl=>by
    obtain ⟨i,e,hi⟩:=uh Hks l hl;exact ⟨i,e,uh HS5 i hi⟩
   have Hks5:=Z9 hks5;clear hks5;go_wp2_with fail;refine (QT (uh L6).cor.full (fun k e=>((uh L6).cor.off k e).1) (uh HK5) (uh L6).cor.mp hn5 (uh Hks5)).mono ?_;rintro e w7 ⟨⟨x7,y7,f7,rfl,hsi7⟩,ht7,n7,D7,hm7,hn7,hk7⟩;have L7:=Z9 ((uh L6).next ht7 hm7);have Hsi7:=Z9 hsi7;have Hk7:=Z9 hk7;clear ht7 hm7 hk7 hsi7 L6 c0 c1 c2 c3 c4 c5;obtain ⟨t0,t1,t2⟩:=(uh L7).seat.c3;obtain ⟨f0,f1,f2⟩:=(uh L7).seat.f3;go_wp2_with fail;have L8:=Z9 ((uh L7).take (.int .i64 x7) (.int .i64 y7) (.bool f7));have hlf:=uh HF5
   go_roundg (Wi M5)
   case measure=>omega
   case rel=>exact ⟨M5,sy,n7,D7,_,_,_,_,_,rs,x7,y7,f7,rfl,rfl,uh HK5,uh HLv5,uh L8,uh Hsi7,by omega,uh Hk7⟩
end Go.Proofs.YtlcpgkakdieeaaaGreat
