/- Part 29 of what the proof rests on. No condition but those that a theorem names. -/
import Derived.Test.YtmdgokjeobnnaaaGreatDoorXt22
import Derived.Test.YtmdgokjeobnnaaaGreatDoorXt26
import Derived.Test.YtmdgokjeobnnaaaGreatDoorXt27
import Derived.Deep.LoopGhost
set_option maxHeartbeats 8000000
set_option maxRecDepth 100000
namespace Go.Proofs.YtmdgokjeobnnaaaGreatDoor
open Go.ChangeShapes Go.WideShapes Go.ChangeAt Go.RowKit Go.Sort Go.Proofs.Tryz
set_option linter.unusedVariables false
set_option linter.unusedSimpArgs false
variable {w w' w0 w1 w2 w3 w₀ wr W W' X A B C : World} {v v0 v1 v2 v3 v4 u u0 u1 u2 u3 u4 : Value} {m : Z7}
def GN (n₀:Nat) (M:Z7) (e:Ending) (w':World):Prop:=
 ∃ u0 u1 u2 u3 u4 qs,e= .returned (.agg #[u0,u1,u2,u3,u4,.int .i64 M.now])/\FullSmy n₀ w' u0 u1 u2 u3 u4 M qs
theorem SB  (h:Smy w v0 v1 v2 v3 v4 m) :
  Calls prog 115 #[.agg #[v0,v1,v2,v3,v4,.int .i64 m.now]] w fun e w'=>GN w.heap.size (WZ m) e w'/\Below w.heap.size w w':=by
 obtain ⟨X,hX⟩:=ZE (WZ m);rw [hX];have HX:=Z9 hX;clear hX;have Hv0:=Z9 h;obtain ⟨a0,p0,a1,p1,a2,p2,a3,p3,a4,p4,rfl,rfl,rfl,rfl,rfl,_,_,_,_,_,_,_,_,_,_⟩:=h.five;clear h;obtain ⟨ok,Hok⟩:=WG (ZJ m);go_enter func115,ntmps115;go_wp2_with fail;obtain ⟨W,hW,kb,kr,BB⟩:=SH w 40 (S6 a0 p0 a1 p1 a2 p2 a3 p3 a4 p4 m) 40 E6;have Hv:=Z9 ((uh Hv0).below (uh BB));clear Hv0;rw [hW];clear hW;refine ck (Tv (uh Hok) (uh Hv)) fun w1 hb=> ?_;replace kb:=bl kb hb;replace kr:=bl kr hb;replace Hv:=Z9 ((uh Hv).below hb);replace BB:=bt BB hb;clear hb;cases ok
 ·
  obtain ⟨o0,o1,o2,o3,o4,o5⟩:=(uh kr).c6;obtain ⟨f0,f1,f2,f3,f4,f5⟩:=(uh kr).f6;go_wp2_with fail;have hX0:X=XG:=by rw [<-uh HX];unfold WZ;rw [uh Hok];rfl
  refine Zz (v:= .agg E6) (by simp [results,results115,go_sem, *]) rfl ⟨?_,?_⟩
  ·rw [hX0];exact ⟨_,_,_,_,_,[],rfl,TN _ _⟩
  ·iterate 6 (refine YU ?_ (by show _<=w.heap.size+1;omega) _)
   exact uh BB
 have hlo:=ZI (uh Hok);have HLo:=Z9 hlo;have HFew:=Z9 (OK hlo);clear hlo;obtain ⟨c0,c1,c2,c3,c4,c5⟩:=(uh kb).c6;go_wp2_with fail;clear c0 c1 c2 c3 c4 c5;have hWs:w.heap.size+2<=w1.heap.size:=by have:=(uh kr).lt;omega
 refine (XU (uh Hv) (uh HFew)).mono ?_;rintro e w2 ⟨y0,y1,y2,y3,y4,oq,rfl,ho,hb⟩;have k9:=ho.smy;obtain ⟨b0,q0,b1,q1,b2,q2,b3,q3,b4,q4,rfl,rfl,rfl,rfl,rfl,_,_,_,_,_,_,_,_,_,_⟩:=k9.five;clear k9;replace kb:=bl kb hb;replace kr:=bl kr hb;replace Hv:=Z9 ((uh Hv).below hb);replace BB:=bt BB hb;have HO:=Z9 (ho.mono hWs);have LO:Hid (∀ k,WE (.slice b0 m.rm.length q0) (.slice b1 m.gd.length q1) (.slice b2 m.sm.length q2) (.slice b3 m.dk.length q3) (.slice b4 m.pc.length q4) oq k->w.heap.size+2<=k/\k<w2.heap.size):=Z9 (fun k e=>(uh HO).own e);have hsz9:=hb.size;clear ho hb;go_upto_region 4 with fail;obtain ⟨W2,hW2,hba,ko⟩:=YW w2 40 (S6 b0 q0 b1 q1 b2 q2 b3 q3 b4 q4 m);replace kb:=bl kb hba;replace kr:=bl kr hba;replace Hv:=Z9 ((uh Hv).below hba);replace HO:=Z9 ((uh HO).below hba);replace BB:=bt BB hba;have hob:w.heap.size+2<=w2.heap.size:=XA hWs hsz9;clear hba hsz9 hWs;rw [hW2];clear hW2;generalize w2.heap.size=ob at *;have HX2:Hid (Vn m=X):=Z9 (by rw [<-uh HX];unfold WZ;rw [uh Hok];rfl);have hofR:∀ k,WE (.slice b0 m.rm.length q0) (.slice b1 m.gd.length q1) (.slice b2 m.sm.length q2) (.slice b3 m.dk.length q3) (.slice b4 m.pc.length q4) oq k->k ≠ ob:=fun k e=>by have:=(uh LO k e).2;omega
 have H2:Hid ((Value.slice b2 m.sm.length q2).ownBlock ≠ some ob):=Z9 (fun e=>hofR _ (.inr (.inr (.inr (.inl e)))) rfl);have H3:Hid ((Value.slice b3 m.dk.length q3).ownBlock ≠ some ob):=Z9 (fun e=>hofR _ (.inr (.inr (.inr (.inr (.inl e))))) rfl);clear hofR;go_wp2_with fail
 go_loopg [4] (Uy m+1) (fun k i wr=> ∃ (M:Z7) (more:Bool),i= .bool more/\k=(if more=true then Uy M+1 else 0)/\ZJ M=true/\M.now=m.now/\Vn M=Vn m/\(more=false->VS M=none)/\FullSmy (w.heap.size+2) wr (.slice b0 m.rm.length q0) (.slice b1 m.gd.length q1) (.slice b2 m.sm.length q2) (.slice b3 m.dk.length q3) (.slice b4 m.pc.length q4) M oq/\Two (Value.slice b2 m.sm.length q2).ownBlock (Value.slice b3 m.dk.length q3).ownBlock W2 wr)
 case atStart=>exact ⟨m,true,rfl,rfl,uh Hok,rfl,rfl,(fun e=>by cases e),uh HO,Two.refl _ _ _⟩
 case round=>
  obtain ⟨M,more,rfl,hgk,hsm,hnow,hlv,hno,hf1,htw⟩:=hrel;have HF1:=Z9 hf1;have Tw:=Z9 htw;have Hsm:=Z9 hsm;have Hnow:=Z9 hnow;have Hlv:=Z9 hlv;have Hno:=Z9 hno;replace ko:=Z9 ((uh ko).two htw (uh H2) (uh H3));clear hf1 htw hsm hnow hlv hno;cases more
  ·
   clear hgk;replace kr:=Z9 ((uh kr).two (uh Tw) (fun e=>by have:=(uh LO _ (.inr (.inr (.inr (.inl e))))).1;omega) (fun e=>by have:=(uh LO _ (.inr (.inr (.inr (.inr (.inl e)))))).1;omega));replace BB:=Z9 ((uh BB).trans ((uh Tw).below (uh BB).size (fun k e=>by have:=(uh LO k (.inr (.inr (.inr (.inl e))))).1;omega) (fun k e=>by have:=(uh LO k (.inr (.inr (.inr (.inr (.inl e)))))).1;omega)));obtain ⟨x0,x1,x2,x3,x4,x5⟩:=(uh ko).c6;obtain ⟨o0,o1,o2,o3,o4,o5⟩:=(uh kr).c6;obtain ⟨f0,f1,f2,f3,f4,f5⟩:=(uh kr).f6;go_wp2_with fail;have hX0:X=M:=by rw [<-uh HX2,<-uh Hlv];exact NA (uh Hno (by trivial))
   refine Zz (v:= .agg (S6 b0 q0 b1 q1 b2 q2 b3 q3 b4 q4 m)) (by simp [results,results115,go_sem, *]) rfl ⟨?_,?_⟩
   ·rw [hX0];refine ⟨_,_,_,_,_,oq,by rw [uh Hnow],?_⟩
    iterate 6 (refine FullSmy.set_off ?_ (fun k e=>by have:=(uh LO k e).1;omega) _ _)
    exact (uh HF1).mono (by omega)
   ·iterate 6 (refine YU ?_ (by show _<=w.heap.size+1;omega) _)
    exact uh BB
  simp only [if_true] at hgk;subst hgk;clear Hno;obtain ⟨mi,hmi⟩:=ZE (V8 M);have hc:=Q4 (uh HF1).smy;rw [uh Hnow] at hc;have Hc:=Z9 hc;clear hc;rw [hmi] at Hc;have Hmi:=Z9 hmi;clear hmi;obtain ⟨x0,x1,x2,x3,x4,x5⟩:=(uh ko).c6;cases mi with
  | some r=>
   obtain ⟨wh,bb⟩:=r;have Hc2:Hid (cB 145 #[.agg (S6 b0 q0 b1 q1 b2 q2 b3 q3 b4 q4 m)] wr (.tuple #[.int .i64 (wh:Int),.int .i64 (bb:Int),.bool true])):=Hc;clear Hc;have Hc:=Hc2;clear Hc2;go_wp2_with fail;clear x0 x1 x2 x3 x4 x5;refine ck (uh Hc) fun w5 hb=> ?_;replace HF1:=Z9 ((uh HF1).below hb);replace ko:=bl ko hb;replace Tw:=Z9 ((uh Tw).trans (Two.of_below hb));clear hb Hc;have hmv:VS M=some (wh,bb):=by unfold VS;rw [uh Hmi]
   have mv:=Uj hmv;have Hmv:=Z9 hmv;obtain ⟨a0',a1',_⟩:=(ZI (uh Hsm)).at mv.who mv.pres;obtain ⟨bn,hbn⟩:∃ bn:Nat,(Z8 M.sm wh).2.1=(bn:Int):=⟨(Z8 M.sm wh).2.1.toNat,by omega⟩
   have Hbn:=Z9 hbn;have hbl:bn<M.dk.length:=by omega
   have Mv:=Z9 mv;have Hbl:=Z9 hbl;clear hmv hbn hbl a0' a1' mv;have k8:Hid (Blk w5 ob 40 #[.slice b0 m.rm.length q0,.slice b1 m.gd.length q1,.slice b2 m.sm.length q2,.slice b3 m.dk.length q3,.slice b4 m.pc.length q4,.int .i64 M.now]):=Z9 (by rw [uh Hnow];exact uh ko);go_wp2_with fail;refine (VO (m:=M) (k:=wh) (bn:=bn) (b:=bb) (uh k8) (uh HF1) (uh H2) (uh H3) (uh Mv).who (uh Hbn) (uh Hbl) (uh Mv).bench).mono ?_;rintro e w7 ⟨rfl,hf7,ht7⟩;have k7:Hid (Blk w7 ob 40 #[.slice b0 m.rm.length q0,.slice b1 m.gd.length q1,.slice b2 m.sm.length q2,.slice b3 m.dk.length q3,.slice b4 m.pc.length q4,.int .i64 M.now]):=Z9 ((uh k8).two ht7 (uh H2) (uh H3));have HF7:=Z9 hf7;have T7:=Z9 ((uh Tw).trans ht7);clear hf7 ht7 k8;have h12:=YF (ZI (uh Hsm));have h8:=(ZI (uh Hsm)).sane.eight;have hl12:(Vo M wh bb).sm.length<=800:=by rw [VV];omega
   have hd8:(Vo M wh bb).dk.length<=1000:=by show M.dk.length<=1000;omega
   have Hl12:=Z9 hl12;have Hd8:=Z9 hd8;clear h12 h8 hl12 hd8;go_wp2_with fail;refine (Ub (m:=Vo M wh bb) (uh k7) (uh HF7) (uh H2) (uh H3) (uh Hl12) (uh Hd8)).mono ?_;rintro e w8 ⟨rfl,hf8,ht8⟩;have HF8:=Z9 hf8;have T8:=Z9 ((uh T7).trans ht8);clear hf8 ht8;go_wp2_with fail
   go_roundg (Uy (VT M wh bb)+1)
   case measure=>have:=(uh Mv).falls;omega
   case rel=>exact ⟨VT M wh bb,true,rfl,rfl,(uh Mv).keeps,((Zp _ _).2.2.2.1).trans (uh Hnow),(Pn (uh Hmv)).symm.trans (uh Hlv),(fun e=>by cases e),uh HF8,uh T8⟩
  | none=>
   have Hc2:Hid (cB 145 #[.agg (S6 b0 q0 b1 q1 b2 q2 b3 q3 b4 q4 m)] wr (.tuple #[.int .i64 0,.int .i64 0,.bool false])):=Hc;clear Hc;have Hc:=Hc2;clear Hc2;go_wp2_with fail;clear x0 x1 x2 x3 x4 x5;refine ck (uh Hc) fun w5 hb=> ?_;replace HF1:=Z9 ((uh HF1).below hb);replace ko:=bl ko hb;replace Tw:=Z9 ((uh Tw).trans (Two.of_below hb));clear hb Hc;obtain ⟨wi,hwi⟩:=ZE (Wm M);have hc:=RH (uh HF1).smy;rw [uh Hnow] at hc;have Hc:=Z9 hc;clear hc;rw [hwi] at Hc;have hmv:VS M=wi:=by unfold VS;rw [uh Hmi];exact hwi
   clear hwi;obtain ⟨x0,x1,x2,x3,x4,x5⟩:=(uh ko).c6;cases wi with
   | some r=>
    obtain ⟨wh,bb⟩:=r;have Hc2:Hid (cB 146 #[.agg (S6 b0 q0 b1 q1 b2 q2 b3 q3 b4 q4 m)] w5 (.tuple #[.int .i64 (wh:Int),.int .i64 (bb:Int),.bool true])):=Hc;clear Hc;have Hc:=Hc2;clear Hc2;have Hm0:=Z9 hmv;clear hmv;go_wp2_with fail;clear x0 x1 x2 x3 x4 x5;refine ck (uh Hc) fun w6 hb=> ?_;replace HF1:=Z9 ((uh HF1).below hb);replace ko:=bl ko hb;replace Tw:=Z9 ((uh Tw).trans (Two.of_below hb));clear hb Hc;have hmv:=uh Hm0;clear Hm0;have mv:=Uj hmv;have Hmv:=Z9 hmv;obtain ⟨a0',a1',_⟩:=(ZI (uh Hsm)).at mv.who mv.pres;obtain ⟨bn,hbn⟩:∃ bn:Nat,(Z8 M.sm wh).2.1=(bn:Int):=⟨(Z8 M.sm wh).2.1.toNat,by omega⟩
    have Hbn:=Z9 hbn;have hbl:bn<M.dk.length:=by omega
    have Mv:=Z9 mv;have Hbl:=Z9 hbl;clear hmv hbn hbl a0' a1' mv;have k8:Hid (Blk w6 ob 40 #[.slice b0 m.rm.length q0,.slice b1 m.gd.length q1,.slice b2 m.sm.length q2,.slice b3 m.dk.length q3,.slice b4 m.pc.length q4,.int .i64 M.now]):=Z9 (by rw [uh Hnow];exact uh ko);go_wp2_with fail;refine (VO (m:=M) (k:=wh) (bn:=bn) (b:=bb) (uh k8) (uh HF1) (uh H2) (uh H3) (uh Mv).who (uh Hbn) (uh Hbl) (uh Mv).bench).mono ?_;rintro e w7 ⟨rfl,hf7,ht7⟩;have k7:Hid (Blk w7 ob 40 #[.slice b0 m.rm.length q0,.slice b1 m.gd.length q1,.slice b2 m.sm.length q2,.slice b3 m.dk.length q3,.slice b4 m.pc.length q4,.int .i64 M.now]):=Z9 ((uh k8).two ht7 (uh H2) (uh H3));have HF7:=Z9 hf7;have T7:=Z9 ((uh Tw).trans ht7);clear hf7 ht7 k8;have h12:=YF (ZI (uh Hsm));have h8:=(ZI (uh Hsm)).sane.eight;have hl12:(Vo M wh bb).sm.length<=800:=by rw [VV];omega
    have hd8:(Vo M wh bb).dk.length<=1000:=by show M.dk.length<=1000;omega
    have Hl12:=Z9 hl12;have Hd8:=Z9 hd8;clear h12 h8 hl12 hd8;go_wp2_with fail;refine (Ub (m:=Vo M wh bb) (uh k7) (uh HF7) (uh H2) (uh H3) (uh Hl12) (uh Hd8)).mono ?_;rintro e w8 ⟨rfl,hf8,ht8⟩;have HF8:=Z9 hf8;have T8:=Z9 ((uh T7).trans ht8);clear hf8 ht8;go_wp2_with fail
    go_roundg (Uy (VT M wh bb)+1)
    case measure=>have:=(uh Mv).falls;omega
    case rel=>exact ⟨VT M wh bb,true,rfl,rfl,(uh Mv).keeps,((Zp _ _).2.2.2.1).trans (uh Hnow),(Pn (uh Hmv)).symm.trans (uh Hlv),(fun e=>by cases e),uh HF8,uh T8⟩
   | none=>
    have Hc2:Hid (cB 146 #[.agg (S6 b0 q0 b1 q1 b2 q2 b3 q3 b4 q4 m)] w5 (.tuple #[.int .i64 0,.int .i64 0,.bool false])):=Hc;clear Hc;have Hc:=Hc2;clear Hc2;have Hm0:=Z9 hmv;clear hmv;go_wp2_with fail;clear x0 x1 x2 x3 x4 x5;refine ck (uh Hc) fun w6 hb=> ?_;replace HF1:=Z9 ((uh HF1).below hb);replace ko:=bl ko hb;replace Tw:=Z9 ((uh Tw).trans (Two.of_below hb));clear hb Hc;go_wp2_with fail
    go_roundg 0
    case measure=>omega
    case rel=>exact ⟨M,false,rfl,rfl,uh Hsm,uh Hnow,uh Hlv,(fun _=>uh Hm0),uh HF1,uh Tw⟩
open Go.ChangeShapes Go.WideShapes Go.ChangeAt Go.RowKit Go.Sort
set_option maxRecDepth 100000
def ZD (m:Z7) (k who a b:Int):Z7 × Int:=
 if ZJ m then (if k=1 then U4 m a b (-1) else if k=2 then Up m who else if k=3 then Vi m who else if k=4 then Vm m who else if k=5 then VW m who a else if k=6 then WH m who a else if k=7 then VR m who a b else if k=8 then Xj m a else if k=9 then Ul m a else if k=10 then UD m a else if k=11 then VL m a b else if k=12 then (Lt m,0) else if k=13 then (WZ m,0) else if k=14 then TA m who a else (m,3)) else (XG,3)
theorem K0 (h:ZJ m=true) (who a b:Int):ZD m 1 who a b=U4 m a b (-1):=by unfold ZD;rw [h];rfl
theorem K6 (h:ZJ m=true) (who a b:Int):ZD m 2 who a b=Up m who:=by unfold ZD;rw [h];rfl
theorem K7 (h:ZJ m=true) (who a b:Int):ZD m 3 who a b=Vi m who:=by unfold ZD;rw [h];rfl
theorem K8 (h:ZJ m=true) (who a b:Int):ZD m 4 who a b=Vm m who:=by unfold ZD;rw [h];rfl
theorem La (h:ZJ m=true) (who a b:Int):ZD m 5 who a b=VW m who a:=by unfold ZD;rw [h];rfl
theorem Lb (h:ZJ m=true) (who a b:Int):ZD m 6 who a b=WH m who a:=by unfold ZD;rw [h];rfl
theorem Lc (h:ZJ m=true) (who a b:Int):ZD m 7 who a b=VR m who a b:=by unfold ZD;rw [h];rfl
theorem Ld (h:ZJ m=true) (who a b:Int):ZD m 8 who a b=Xj m a:=by unfold ZD;rw [h];rfl
theorem Le (h:ZJ m=true) (who a b:Int):ZD m 9 who a b=Ul m a:=by unfold ZD;rw [h];rfl
theorem Nk (h:ZJ m=true) (who a b:Int):ZD m 10 who a b=UD m a:=by unfold ZD;rw [h];rfl
theorem Nl (h:ZJ m=true) (who a b:Int):ZD m 11 who a b=VL m a b:=by unfold ZD;rw [h];rfl
theorem Nm (h:ZJ m=true) (who a b:Int):ZD m 12 who a b=(Lt m,0):=by unfold ZD;rw [h];rfl
theorem Nn (h:ZJ m=true) (who a b:Int):ZD m 13 who a b=(WZ m,0):=by unfold ZD;rw [h];rfl
theorem Np (h:ZJ m=true) (who a b:Int):ZD m 14 who a b=TA m who a:=by unfold ZD;rw [h];rfl
theorem RT (h:ZJ m=true) {k:Int} (hk:k<1\/14<k) (who a b:Int):ZD m k who a b=(m,3):=by
 unfold ZD;rw [if_pos h,if_neg (show ¬ k=1 by omega),if_neg (show ¬ k=2 by omega),if_neg (show ¬ k=3 by omega),if_neg (show ¬ k=4 by omega),if_neg (show ¬ k=5 by omega),if_neg (show ¬ k=6 by omega),if_neg (show ¬ k=7 by omega),if_neg (show ¬ k=8 by omega),if_neg (show ¬ k=9 by omega),if_neg (show ¬ k=10 by omega),if_neg (show ¬ k=11 by omega),if_neg (show ¬ k=12 by omega),if_neg (show ¬ k=13 by omega),if_neg (show ¬ k=14 by omega)]
theorem OO (h:ZJ m=true) (k who a b:Int):ZJ (ZD m k who a b).1=true:=by
 by_cases hk:k<1\/14<k
 ·rw [RT h hk];exact h
 rcases (show k=1\/k=2\/k=3\/k=4\/k=5\/k=6\/k=7\/k=8\/k=9\/k=10\/k=11\/k=12\/k=13\/k=14 by omega) with rfl | rfl | rfl | rfl | rfl | rfl | rfl | rfl | rfl | rfl | rfl | rfl | rfl | rfl
 ·rw [K0 h];exact Lx h a b (-1)
 ·rw [K6 h];exact Me h who
 ·rw [K7 h];exact MK h who
 ·rw [K8 h];exact Nz h who
 ·rw [La h];exact Ma h who a
 ·rw [Lb h];exact MQ h who a
 ·rw [Lc h];exact ND h who a b
 ·rw [Ld h];exact OI h a
 ·rw [Le h];exact L7 h a
 ·rw [Nk h];exact Mx h a
 ·rw [Nl h];exact Nh h a b
 ·rw [Nm h];exact JA h
 ·rw [Nn h];exact (show ZJ (WZ m)=true by unfold WZ;rw [h];exact NB h)
 ·rw [Np h];exact LH h who a
end Go.Proofs.YtmdgokjeobnnaaaGreatDoor
