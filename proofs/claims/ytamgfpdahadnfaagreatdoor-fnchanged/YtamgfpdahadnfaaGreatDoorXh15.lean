/- Part 15 of what the proof rests on. No condition but those that a theorem names. -/
import Derived.Test.YtamgfpdahadnfaaGreatDoorXh14
set_option maxHeartbeats 8000000
set_option maxRecDepth 100000
namespace Go.Proofs.YtamgfpdahadnfaaGreatDoor
open Go.ChangeShapes Go.WideShapes Go.ChangeAt Go.RowKit Go.Sort
set_option linter.unusedVariables false
set_option linter.unusedSimpArgs false
set_option maxRecDepth 100000
variable {w w' w0 w1 w2 w3 w₀ wr W W' X A B C : World} {v v0 v1 v2 v3 v4 u u0 u1 u2 u3 u4 : Value} {m : Z6}
def Zp (m:Z6) (k who a b:Int):Z6 × Int:=
 if ZI m then (if k=1 then S7 m a b (-1) else if k=2 then RL m who else if k=3 then Ty m who else if k=4 then TE m who else if k=5 then XE m who a else if k=6 then XW m who a else if k=7 then XD m who a b else if k=8 then V3 m a else if k=9 then RI m a else if k=10 then Sf m a else if k=11 then Ue m a b else if k=12 then (DL m,0) else if k=13 then (VV m,0) else if k=14 then Qw m who a else (m,3)) else (Yj,3)
theorem Dd (h:ZI m=true) (who a b:Int):Zp m 1 who a b=S7 m a b (-1):=by unfold Zp;rw [h];rfl
theorem De (h:ZI m=true) (who a b:Int):Zp m 2 who a b=RL m who:=by unfold Zp;rw [h];rfl
theorem Df (h:ZI m=true) (who a b:Int):Zp m 3 who a b=Ty m who:=by unfold Zp;rw [h];rfl
theorem Dg (h:ZI m=true) (who a b:Int):Zp m 4 who a b=TE m who:=by unfold Zp;rw [h];rfl
theorem Dh (h:ZI m=true) (who a b:Int):Zp m 5 who a b=XE m who a:=by unfold Zp;rw [h];rfl
theorem Di (h:ZI m=true) (who a b:Int):Zp m 6 who a b=XW m who a:=by unfold Zp;rw [h];rfl
theorem Dj (h:ZI m=true) (who a b:Int):Zp m 7 who a b=XD m who a b:=by unfold Zp;rw [h];rfl
theorem Dk (h:ZI m=true) (who a b:Int):Zp m 8 who a b=V3 m a:=by unfold Zp;rw [h];rfl
theorem Dl (h:ZI m=true) (who a b:Int):Zp m 9 who a b=RI m a:=by unfold Zp;rw [h];rfl
theorem Gb (h:ZI m=true) (who a b:Int):Zp m 10 who a b=Sf m a:=by unfold Zp;rw [h];rfl
theorem Gc (h:ZI m=true) (who a b:Int):Zp m 11 who a b=Ue m a b:=by unfold Zp;rw [h];rfl
theorem Gd (h:ZI m=true) (who a b:Int):Zp m 12 who a b=(DL m,0):=by unfold Zp;rw [h];rfl
theorem Ge (h:ZI m=true) (who a b:Int):Zp m 13 who a b=(VV m,0):=by unfold Zp;rw [h];rfl
theorem Gf (h:ZI m=true) (who a b:Int):Zp m 14 who a b=Qw m who a:=by unfold Zp;rw [h];rfl
theorem NV (h:ZI m=true) {k:Int} (hk:k<1\/14<k) (who a b:Int):Zp m k who a b=(m,3):=by
 unfold Zp;rw [if_pos h,if_neg (show ¬ k=1 by omega),if_neg (show ¬ k=2 by omega),if_neg (show ¬ k=3 by omega),if_neg (show ¬ k=4 by omega),if_neg (show ¬ k=5 by omega),if_neg (show ¬ k=6 by omega),if_neg (show ¬ k=7 by omega),if_neg (show ¬ k=8 by omega),if_neg (show ¬ k=9 by omega),if_neg (show ¬ k=10 by omega),if_neg (show ¬ k=11 by omega),if_neg (show ¬ k=12 by omega),if_neg (show ¬ k=13 by omega),if_neg (show ¬ k=14 by omega)]
theorem Jb (h:ZI m=true) (k who a b:Int):ZI (Zp m k who a b).1=true:=by
 by_cases hk:k<1\/14<k
 ·rw [NV h hk];exact h
 rcases (show k=1\/k=2\/k=3\/k=4\/k=5\/k=6\/k=7\/k=8\/k=9\/k=10\/k=11\/k=12\/k=13\/k=14 by omega) with rfl | rfl | rfl | rfl | rfl | rfl | rfl | rfl | rfl | rfl | rfl | rfl | rfl | rfl
 ·rw [Dd h];exact DZ h a b (-1)
 ·rw [De h];exact ES h who
 ·rw [Df h];exact Fs h who
 ·rw [Dg h];exact Gx h who
 ·rw [Dh h];exact Ms h who a
 ·rw [Di h];exact NN h who a
 ·rw [Dj h];exact Oa h who a b
 ·rw [Dk h];exact I3 h a
 ·rw [Dl h];exact EG h a
 ·rw [Gb h];exact Fd h a
 ·rw [Gc h];exact F7 h a b
 ·rw [Gd h];exact Bu h
 ·rw [Ge h];exact (show ZI (VV m)=true by unfold VV;rw [h];exact Gz h)
 ·rw [Gf h];exact Ei h who a
theorem zk {g:Nat} {zs:List Int} (h:∀ j,j<zs.length-> ∀ i u,(Sn (Z8 zs j))[i]?=some u->w.cell? ⟨g,j*1+i,none⟩=some u) {j:Nat} (hj:j<zs.length):w.cell? ⟨g,j,none⟩=some (.int .i64 (Z8 zs j)):=by
 have:=h j hj 0 _ rfl;simpa using this
theorem FO {who:Int} (h:WJ m=true\/(WJ m=false/\(YN m who).length=0)):YQ m who=(YE m who m.dk.length).1:=by
 unfold YQ
 rcases h with e | ⟨e,e'⟩
 ·rw [e];rfl
 ·rw [e,e'];rfl
theorem FN {who:Int} (h:WJ m=false) (h':0<(YN m who).length):YQ m who=(Xg m who (YN m who) (YN m who).length).1:=by
 unfold YQ;rw [h,decide_eq_true h'];rfl
theorem EB {who:Int} {k:Nat} (hm:Yw m who k=true) (h:(YE m who k).1<0\/(YE m who k).2<XM (Zc m k who) (Zd m.rm k)):YE m who (k+1)=((k:Int),XM (Zc m k who) (Zd m.rm k)):=by
 show (if _ then _ else _)=_;rw [hm]
 rcases h with h | h
 ·rw [decide_eq_true h];rfl
 ·rw [decide_eq_true h,Bool.or_true];rfl
theorem Cb {who:Int} {k:Nat} (h:Yw m who k=false\/(¬ (YE m who k).1<0/\ ¬ (YE m who k).2<XM (Zc m k who) (Zd m.rm k))):YE m who (k+1)=YE m who k:=by
 show (if _ then _ else _)=_
 rcases h with h | ⟨h,h'⟩
 ·rw [h];rfl
 ·rw [decide_eq_false h,decide_eq_false h',Bool.or_false,Bool.and_false];rfl
theorem Lo {who:Int} {f:List Int} : Xg m who f 1=(Z8 f 0,Za m who (Z8 f 0)):=by
 cases f<;>rfl
theorem NO {who:Int} {f:List Int} {k:Nat} (h1:1<=k) (hk:k<f.length):Xg m who f (k+1)=WT m who (Xg m who f k) (Z8 f k):=by
 unfold Xg
 have e:f.take (k+1)=f.take k++[Z8 f k]:=by
  rw [List.take_add_one,List.getElem?_eq_getElem hk,Q6 hk];rfl
 rw [e,List.drop_append_of_le_length (by simp;omega),List.foldl_append];rfl
theorem DQ {who:Nat} {f:List Int} {k:Nat} (h1:1<=k) (hk:k<f.length) (h:Za m (who:Int) (Z8 f k)<(Xg m (who:Int) f k).2\/(Za m (who:Int) (Z8 f k)=(Xg m (who:Int) f k).2/\Z8 f k=(Z8 m.sm who).2.1)):Xg m (who:Int) f (k+1)=(Z8 f k,Za m (who:Int) (Z8 f k)):=by
 rw [NO h1 hk];unfold WT;exact if_pos h
theorem BA {who:Nat} {f:List Int} {k:Nat} (h1:1<=k) (hk:k<f.length) (h:¬ (Za m (who:Int) (Z8 f k)<(Xg m (who:Int) f k).2\/(Za m (who:Int) (Z8 f k)=(Xg m (who:Int) f k).2/\Z8 f k=(Z8 m.sm who).2.1))):Xg m (who:Int) f (k+1)=Xg m (who:Int) f k:=by
 rw [NO h1 hk];unfold WT;exact if_neg h
theorem Wc  {who:Nat} (h:Smy w v0 v1 v2 v3 v4 m) (hS:Sane m) (hp:m.pc.length<=1000) (hA:QJ m who) :
  Calls Tryz.prog 49 #[.agg #[v0,v1,v2,v3,v4,.int .i64 m.now],.int .i64 (who:Int)] w fun e w'=>e= .returned (.int .i64 (YQ m (who:Int)))/\Below w.heap.size w w':=by
 have Hv:=Z9 (h.alloc (.cells #[v0,v1,v2,v3,v4,.int .i64 m.now] 32));obtain ⟨a0,p0,a1,p1,a2,p2,a3,p3,a4,p4,rfl,rfl,rfl,rfl,rfl,_,_,_,_,_,_,_,_,_,_⟩:=h.five;clear h;obtain ⟨BB0,kb0⟩:=Wd w 32 (S6 a0 p0 a1 p1 a2 p2 a3 p3 a4 p4 m);have HS:=Z9 hS;have HA:=Z9 hA;have HP:=Z9 hp;have h8:=hS.eight;clear hS hA hp;obtain ⟨c0,c1,c2,c3,c4,c5⟩:=(uh kb0).c6
 have hX:(WJ m=true\/(WJ m=false/\(YN m (who:Int)).length=0))\/(WJ m=false/\0<(YN m (who:Int)).length):=by
  cases WJ m
  ·by_cases h0:(YN m (who:Int)).length=0
   ·exact .inl (.inr ⟨rfl,h0⟩)
   ·exact .inr ⟨rfl,by omega⟩
  ·exact .inl (.inl rfl)
 rcases hX with hX | ⟨hcr,hle⟩
 ·rw [FO hX]
  rcases hX with hcr | ⟨hcr,hle⟩
  all_goals
   go_enter Tryz.func49,Tryz.ntmps49;go_wp2_with (first | (go_at_call 106;refine (Rx (uh Hv) (uh HS) (uh HA)).mono ?_;rintro e w1 ⟨fv,rfl,hf1,hb1⟩;obtain ⟨la,lc,rfl⟩:=RecAt.shape hf1;have HF:=Z9 hf1;have B1:=Z9 hb1;have kb1:=Z9 ((uh kb0).below hb1 (uh kb0).lt);have Hv1:=Z9 ((uh Hv).below hb1);have BB1:=Z9 ((uh BB0).trans (hb1.mono (uh BB0).size));clear hf1 hb1 kb0 Hv BB0 B1 c0 c1 c2 c3 c4 c5;have d0:=(uh kb1).cell (i:=0) (v:= .slice a0 m.rm.length p0) rfl;have d1:=(uh kb1).cell (i:=1) (v:= .slice a1 m.gd.length p1) rfl;have d2:=(uh kb1).cell (i:=2) (v:= .slice a2 m.sm.length p2) rfl;have d3:=(uh kb1).cell (i:=3) (v:= .slice a3 m.dk.length p3) rfl;have d4:=(uh kb1).cell (i:=4) (v:= .slice a4 m.pc.length p4) rfl;have d5:=(uh kb1).cell (i:=5) (v:= .int .i64 m.now) rfl) | (go_at_call 107;refine (Rw (uh Hv1) (uh HS)).mono ?_;rintro e w2 ⟨he,hb2⟩;rw [hcr] at he;subst he;have B2:=Z9 hb2;clear hb2) | fail)
   have kb2:=Z9 ((uh kb1).below (uh B2) (uh kb1).lt);have Hv2:=Z9 ((uh Hv1).below (uh B2));have BB2:=Z9 ((uh BB1).trans ((uh B2).mono (uh BB1).size));clear kb1 Hv1 BB1 B2 d0 d1 d2 d3 d4 d5 HF
   go_loopw [10,11,12] (fun bv mv i wr=> ∃ k:Nat,k<=m.dk.length/\bv= .int .i64 (YE m (who:Int) k).1/\mv= .int .i64 (YE m (who:Int) k).2/\i= .int .i64 k/\Blk wr w.heap.size 32 (S6 a0 p0 a1 p1 a2 p2 a3 p3 a4 p4 m)/\Smy wr (.slice a0 m.rm.length p0) (.slice a1 m.gd.length p1) (.slice a2 m.sm.length p2) (.slice a3 m.dk.length p3) (.slice a4 m.pc.length p4) m/\Below w.heap.size w wr) (fun _ _ i _=>m.dk.length-(intOf i).toNat)
   case atStart=>exact ⟨0,ZA _,rfl,rfl,rfl,uh kb2,uh Hv2,uh BB2⟩
   case round=>
    obtain ⟨k,hk,rfl,rfl,rfl,hkb,hv,hb0⟩:=hrel;have kb:=Z9 hkb;have Hv3:=Z9 hv;have BB:=Z9 hb0;clear hkb hv hb0 kb2 BB2 Hv2;obtain ⟨e0,e1,e2,e3,e4,e5⟩:=(uh kb).c6;by_cases hlt:k<m.dk.length
    ·have hlt1:(k:Int)<(m.dk.length:Int):=by omega
     have Hno:=Z9 (fun hh=>Cb (m:=m) (who:=(who:Int)) (k:=k) hh);have Hyes:=Z9 (fun ha hh=>EB (m:=m) (who:=(who:Int)) (k:=k) ha hh);have hfo:=Ta ((uh HS).bench hlt);have Hma:=Z9 (fun (W:World) (hW:Below wr.heap.size wr W)=>Sy ((uh Hv3).below hW) (uh HA).lt hlt (by omega) (uh HA).y0 (uh HA).y1);have Hu:=Z9 (fun (W:World) (hW:Below wr.heap.size wr W)=>TN (k:Int) (who:Int) ((uh Hv3).below hW) (uh HS).guilded (by have:=(uh HS).few;omega));have Hf:=Z9 (fun (W:World) (hW:Below wr.heap.size wr W)=>U8 (k:Int) ((uh Hv3).below hW).rm ((uh HS).bench hlt));rw [<-hfo] at Hf;clear hfo;have Ht:=Z9 (fun (W:World)=>Calls.same_below (NG (Zc m (k:Int) (who:Int)) (Zd m.rm (k:Int)) W));generalize Yw m (who:Int) k=ma at *;generalize Zc m (k:Int) (who:Int)=us at *;generalize Zd m.rm (k:Int)=fo at *;generalize XM us fo=sp at *;obtain ⟨bt,hbt⟩:∃ q,(YE m (who:Int) k).1=q:=⟨_,rfl⟩
     obtain ⟨mt,hmt⟩:∃ q,(YE m (who:Int) k).2=q:=⟨_,rfl⟩
     rw [hbt,hmt] at Hno Hyes;rw [hbt,hmt];have Hbt:=Z9 hbt;have Hmt:=Z9 hmt;clear hbt hmt;have y0:=ZW e0;have y1:=ZW e1;have y2:=ZW e2;have y3:=ZW e3;have y4:=ZW e4;have y5:=ZW e5;cases ma
     ·go_wp2_with fail
      refine wq ?_
      repeat (go_big_quiet_step (first | exact ZY (uh Hu _ (Z0 _ _ _)) | exact ZY (uh Hf _ (Z0 _ _ _)) | exact ZY (uh Ht _)))
      refine wpQuiet_nil ?_;intro _ hw';obtain ⟨⟨dq,osq⟩,hw''⟩:=hw';subst hw'';go_wp2_with (go_at_call 112;refine (uh Hma _ (Z0 _ _ _)).mono ?_;rintro e w5 ⟨rfl,hb5⟩;have HX:=Z9 ((Z0 wr dq osq).trans (hb5.mono (Z0 _ _ _).size));clear hb5)
      go_roundw
      case rel=>exact ⟨k+1,by omega,by rw [uh Hno (.inl (by simp)),uh Hbt],by rw [uh Hno (.inl (by simp)),uh Hmt],by go_num,(uh kb).below (uh HX) (uh kb).lt,(uh Hv3).below (uh HX),(uh BB).trans ((uh HX).mono (uh BB).size)⟩
      case measure=>exact ms
     by_cases hb1:bt<0
     ·go_wp2_with fail
      refine wq ?_
      repeat (go_big_quiet_step (first | exact ZY (uh Hu _ (Z0 _ _ _)) | exact ZY (uh Hf _ (Z0 _ _ _)) | exact ZY (uh Ht _)))
      refine wpQuiet_nil ?_;intro _ hw';obtain ⟨⟨dq,osq⟩,hw''⟩:=hw';subst hw'';go_wp2_with (go_at_call 112;refine (uh Hma _ (Z0 _ _ _)).mono ?_;rintro e w5 ⟨rfl,hb5⟩;have HX:=Z9 ((Z0 wr dq osq).trans (hb5.mono (Z0 _ _ _).size));clear hb5)
      go_roundw
      case rel=>exact ⟨k+1,by omega,by rw [uh Hyes (by simp) (.inl hb1)],by rw [uh Hyes (by simp) (.inl hb1)],by go_num,(uh kb).below (uh HX) (uh kb).lt,(uh Hv3).below (uh HX),(uh BB).trans ((uh HX).mono (uh BB).size)⟩
      case measure=>exact ms
     by_cases hb2:mt<sp
     ·go_wp2_with fail
      refine wq ?_
      repeat (go_big_quiet_step (first | exact ZY (uh Hu _ (Z0 _ _ _)) | exact ZY (uh Hf _ (Z0 _ _ _)) | exact ZY (uh Ht _)))
      refine wpQuiet_nil ?_;intro _ hw';obtain ⟨⟨dq,osq⟩,hw''⟩:=hw';subst hw'';go_wp2_with (go_at_call 112;refine (uh Hma _ (Z0 _ _ _)).mono ?_;rintro e w5 ⟨rfl,hb5⟩;have HX:=Z9 ((Z0 wr dq osq).trans (hb5.mono (Z0 _ _ _).size));clear hb5)
      go_roundw
      case rel=>exact ⟨k+1,by omega,by rw [uh Hyes (by simp) (.inr hb2)],by rw [uh Hyes (by simp) (.inr hb2)],by go_num,(uh kb).below (uh HX) (uh kb).lt,(uh Hv3).below (uh HX),(uh BB).trans ((uh HX).mono (uh BB).size)⟩
      case measure=>exact ms
     ·go_wp2_with fail
      refine wq ?_
      repeat (go_big_quiet_step (first | exact ZY (uh Hu _ (Z0 _ _ _)) | exact ZY (uh Hf _ (Z0 _ _ _)) | exact ZY (uh Ht _)))
      refine wpQuiet_nil ?_;intro _ hw';obtain ⟨⟨dq,osq⟩,hw''⟩:=hw';subst hw'';go_wp2_with (go_at_call 112;refine (uh Hma _ (Z0 _ _ _)).mono ?_;rintro e w5 ⟨rfl,hb5⟩;have HX:=Z9 ((Z0 wr dq osq).trans (hb5.mono (Z0 _ _ _).size));clear hb5)
      go_roundw
      case rel=>exact ⟨k+1,by omega,by rw [uh Hno (.inr ⟨by omega,by omega⟩),uh Hbt],by rw [uh Hno (.inr ⟨by omega,by omega⟩),uh Hmt],by go_num,(uh kb).below (uh HX) (uh kb).lt,(uh Hv3).below (uh HX),(uh BB).trans ((uh HX).mono (uh BB).size)⟩
      case measure=>exact ms
    ·obtain rfl:k=m.dk.length:=by omega
     go_wp2_with fail;go_ret;exact ⟨rfl,uh BB⟩
 ·rw [FN hcr hle]
  have hlb:(YN m (who:Int)).length<=m.dk.length:=OB m (who:Int) m.dk.length;generalize hL:YN m (who:Int)=L at *;go_enter Tryz.func49,Tryz.ntmps49;go_wp2_with (first | (go_at_call 106;refine (Rx (uh Hv) (uh HS) (uh HA)).mono ?_;rintro e w1 ⟨fv,rfl,hf1,hb1⟩;rw [hL] at hf1;obtain ⟨la,lc,rfl⟩:=RecAt.shape hf1;obtain ⟨g,rfl,_,g1,hgc,_⟩:=RecAt.view YH (by omega) hf1 rfl hle;have C1:=Z9 (fun j hj=>zk hgc (j:=j) hj);have kb1:=Z9 ((uh kb0).below hb1 (uh kb0).lt);have Hv1:=Z9 ((uh Hv).below hb1);have BB1:=Z9 ((uh BB0).trans (hb1.mono (uh BB0).size));clear hf1 hb1 hgc kb0 Hv BB0 c0 c1 c2 c3 c4 c5;have d0:=(uh kb1).cell (i:=0) (v:= .slice a0 m.rm.length p0) rfl;have d1:=(uh kb1).cell (i:=1) (v:= .slice a1 m.gd.length p1) rfl;have d2:=(uh kb1).cell (i:=2) (v:= .slice a2 m.sm.length p2) rfl;have d3:=(uh kb1).cell (i:=3) (v:= .slice a3 m.dk.length p3) rfl;have d4:=(uh kb1).cell (i:=4) (v:= .slice a4 m.pc.length p4) rfl;have d5:=(uh kb1).cell (i:=5) (v:= .int .i64 m.now) rfl) | (go_at_call 107;refine (Rw (uh Hv1) (uh HS)).mono ?_;rintro e w2 ⟨he,hb2⟩;rw [hcr] at he;subst he;have kb2:=Z9 ((uh kb1).below hb2 (uh kb1).lt);have Hv2:=Z9 ((uh Hv1).below hb2);have BB2:=Z9 ((uh BB1).trans (hb2.mono (uh BB1).size));have C2:=Z9 (fun j hj=>(hb2.cell (p:=⟨g,j,none⟩) g1).trans (uh C1 j hj));have g2:=Zf g1 hb2.size;clear hb2 kb1 Hv1 BB1 C1 g1 d0 d1 d2 d3 d4 d5;have d0:=(uh kb2).cell (i:=0) (v:= .slice a0 m.rm.length p0) rfl;have d1:=(uh kb2).cell (i:=1) (v:= .slice a1 m.gd.length p1) rfl;have d2:=(uh kb2).cell (i:=2) (v:= .slice a2 m.sm.length p2) rfl;have d3:=(uh kb2).cell (i:=3) (v:= .slice a3 m.dk.length p3) rfl;have d4:=(uh kb2).cell (i:=4) (v:= .slice a4 m.pc.length p4) rfl;have d5:=(uh kb2).cell (i:=5) (v:= .int .i64 m.now) rfl;have x0:=uh C2 0 hle) | (go_at_call 108;refine (N6 _ (uh Hv2) (uh HS) (uh HP) (uh HA).lt (uh HA).st).mono ?_;rintro e w3 ⟨rfl,hb3⟩;have B3:=Z9 hb3;clear hb3) | fail)
  have kb3:=Z9 ((uh kb2).below (uh B3) (uh kb2).lt);have Hv3:=Z9 ((uh Hv2).below (uh B3));have BB3:=Z9 ((uh BB2).trans ((uh B3).mono (uh BB2).size));have C3:=Z9 (fun j hj=>((uh B3).cell (p:=⟨g,j,none⟩) g2).trans (uh C2 j hj));have g3:=Zf g2 (uh B3).size;clear kb2 Hv2 BB2 B3 C2 g2 d0 d1 d2 d3 d4 d5 x0
  go_loopw [6,7,8] (fun bv lv i wr=> ∃ k:Nat,1<=k/\k<=L.length/\bv= .int .i64 (Xg m (who:Int) L k).1/\lv= .int .i64 (Xg m (who:Int) L k).2/\i= .int .i64 k/\(∀ j,j<L.length->wr.cell? ⟨g,j,none⟩=some (.int .i64 (Z8 L j)))/\g<wr.heap.size/\Blk wr w.heap.size 32 (S6 a0 p0 a1 p1 a2 p2 a3 p3 a4 p4 m)/\Smy wr (.slice a0 m.rm.length p0) (.slice a1 m.gd.length p1) (.slice a2 m.sm.length p2) (.slice a3 m.dk.length p3) (.slice a4 m.pc.length p4) m/\Below w.heap.size w wr) (fun _ _ i _=>L.length-(intOf i).toNat)
  case atStart=>exact ⟨1,Z2 _,by omega,by rw [Lo],by rw [Lo],rfl,uh C3,g3,uh kb3,uh Hv3,uh BB3⟩
  case round=>
   obtain ⟨k,hk1,hk,rfl,rfl,rfl,hc,hg,hkb,hv,hb0⟩:=hrel;have HC:=Z9 hc;have kb:=Z9 hkb;have Hv4:=Z9 hv;have BB:=Z9 hb0;clear hkb hv hb0 kb3 BB3 Hv3 hc C3 g3;obtain ⟨e0,e1,e2,e3,e4,e5⟩:=(uh kb).c6;by_cases hlt:k<L.length
   ·have hlt1:(k:Int)<(L.length:Int):=by omega
    have x0:=uh HC k hlt;obtain ⟨_,_,hse,_,_,r2⟩:=(uh Hv4).sm;cases hse;have hwl:=(uh HA).lt
    rcases r2 with e0 | ⟨sb,so,rfl,hbs,hcs⟩
    ·rw [e0] at hwl;simp at hwl
    obtain ⟨_,s1,_⟩:=Zw hcs hwl;clear hcs;have hwl1:(who:Int)<(m.sm.length:Int):=by omega
    have Hno:=Z9 (fun hh=>BA (m:=m) (who:=who) (k:=k) hk1 hlt hh);have Hyes:=Z9 (fun hh=>DQ (m:=m) (who:=who) (k:=k) hk1 hlt hh);have Hw:=Z9 (fun (W:World) (hW:Below wr.heap.size wr W)=>N6 (Z8 L k) ((uh Hv4).below hW) (uh HS) (uh HP) (uh HA).lt (uh HA).st);generalize Za m (who:Int) (Z8 L k)=n at *;generalize Z8 L k=x at *;generalize (Z8 m.sm who).2.1=y at *;obtain ⟨bt,hbt⟩:∃ q,(Xg m (who:Int) L k).1=q:=⟨_,rfl⟩
    obtain ⟨lt,hmt⟩:∃ q,(Xg m (who:Int) L k).2=q:=⟨_,rfl⟩
    rw [hmt] at Hno Hyes;rw [hbt,hmt];have Hbt:=Z9 hbt;have Hmt:=Z9 hmt;clear hbt hmt;have y0:=ZW e0;have y1:=ZW e1;have y2:=ZW e2;have y3:=ZW e3;have y4:=ZW e4;have y5:=ZW e5;have z0:=ZW x0;have z1:=ZW s1;go_wp2_with fail;refine wq ?_
    repeat (go_big_quiet_step (first | exact ZY (uh Hw _ (Z0 _ _ _))))
    refine wpQuiet_nil ?_;intro _ hw';obtain ⟨⟨dq,osq⟩,hw''⟩:=hw';subst hw'';go_wp2_with fail;have hX:=Z9 (Z0 wr dq osq);have q0:=y0 dq osq;have q1:=y1 dq osq;have q2:=y2 dq osq;have q3:=y3 dq osq;have q4:=y4 dq osq;have q5:=y5 dq osq;have r0:=z0 dq osq;have r1:=z1 dq osq;clear z0 z1 x0 s1 y0 y1 y2 y3 y4 y5 e0 e1 e2 e3 e4 e5 Hw;have HC2:=Z9 (fun j hj=>((uh hX).cell (p:=⟨g,j,none⟩) hg).trans (uh HC j hj));have hg2:=Zf hg (uh hX).size;have kb9:=Z9 ((uh kb).below (uh hX) (uh kb).lt);have Hv9:=Z9 ((uh Hv4).below (uh hX));have BB9:=Z9 ((uh BB).trans ((uh hX).mono (uh BB).size));clear HC hg kb Hv4 BB hX hbs;generalize grow (redrawn wr dq) osq=X at *;have r2:=ZW r0;have r3:=ZW r1;have t0:=ZW q0;have t1:=ZW q1;have t2:=ZW q2;have t3:=ZW q3;have t4:=ZW q4;have t5:=ZW q5;by_cases hn:n<lt
    ·refine wq ?_
     repeat (go_big_quiet_step (fail))
     refine wpQuiet_nil ?_;intro _ hw';obtain ⟨⟨dq,osq⟩,hw''⟩:=hw';subst hw'';go_wp2_with fail;go_roundw
     case rel=>exact ⟨k+1,by omega,by omega,by rw [uh Hyes (by omega)],by rw [uh Hyes (by omega)],by go_num,fun j hj=>((Z0 X dq osq).cell (p:=⟨g,j,none⟩) hg2).trans (uh HC2 j hj),Zf hg2 (Z0 X dq osq).size,(uh kb9).below (Z0 X dq osq) (uh kb9).lt,(uh Hv9).below (Z0 X dq osq),(uh BB9).trans ((Z0 X dq osq).mono (uh BB9).size)⟩
     case measure=>exact ms
    by_cases he:n=lt
    ·subst he
     by_cases hxy:x=y
     ·subst hxy
      refine wq ?_
      repeat (go_big_quiet_step (fail))
      refine wpQuiet_nil ?_;intro _ hw';obtain ⟨⟨dq,osq⟩,hw''⟩:=hw';subst hw'';go_wp2_with fail;go_roundw
      case rel=>exact ⟨k+1,by omega,by omega,by rw [uh Hyes (by omega)],by rw [uh Hyes (by omega)],by go_num,fun j hj=>((Z0 X dq osq).cell (p:=⟨g,j,none⟩) hg2).trans (uh HC2 j hj),Zf hg2 (Z0 X dq osq).size,(uh kb9).below (Z0 X dq osq) (uh kb9).lt,(uh Hv9).below (Z0 X dq osq),(uh BB9).trans ((Z0 X dq osq).mono (uh BB9).size)⟩
      case measure=>exact ms
     ·refine wq ?_
      repeat (go_big_quiet_step (fail))
      refine wpQuiet_nil ?_;intro _ hw';obtain ⟨⟨dq,osq⟩,hw''⟩:=hw';subst hw'';go_wp2_with fail;go_roundw
      case rel=>exact ⟨k+1,by omega,by omega,by rw [uh Hno (by omega),uh Hbt],by rw [uh Hno (by omega),uh Hmt],by go_num,fun j hj=>((Z0 X dq osq).cell (p:=⟨g,j,none⟩) hg2).trans (uh HC2 j hj),Zf hg2 (Z0 X dq osq).size,(uh kb9).below (Z0 X dq osq) (uh kb9).lt,(uh Hv9).below (Z0 X dq osq),(uh BB9).trans ((Z0 X dq osq).mono (uh BB9).size)⟩
      case measure=>exact ms
    ·have e1:(n ==lt)=false:=by simpa using he
     have e2:decide (n=lt)=false:=Xr he;refine wq ?_
     repeat (go_big_quiet_step (fail))
     refine wpQuiet_nil ?_;intro _ hw';obtain ⟨⟨dq,osq⟩,hw''⟩:=hw';subst hw'';go_wp2_with fail;go_roundw
     case rel=>exact ⟨k+1,by omega,by omega,by rw [uh Hno (by omega),uh Hbt],by rw [uh Hno (by omega),uh Hmt],by go_num,fun j hj=>((Z0 X dq osq).cell (p:=⟨g,j,none⟩) hg2).trans (uh HC2 j hj),Zf hg2 (Z0 X dq osq).size,(uh kb9).below (Z0 X dq osq) (uh kb9).lt,(uh Hv9).below (Z0 X dq osq),(uh BB9).trans ((Z0 X dq osq).mono (uh BB9).size)⟩
     case measure=>exact ms
   ·obtain rfl:k=L.length:=by omega
    go_wp2_with fail;go_ret;exact ⟨rfl,uh BB⟩
theorem Tn (h:Loose m):m.pc.length<=1000:=by
 rw [VX h];have hd:=h.head;unfold YD at hd;simp only [ZM,YW] at hd;have:=(Zo hd.1).2.1;omega
theorem P5 (h:Loose m) {k:Nat} (hk:k<m.sm.length) (hs:(Z8 m.sm k).1 ≠ 0):QJ m k/\ ∃ bn:Nat,(Z8 m.sm k).2.1=(bn:Int)/\bn<m.dk.length:=by
 obtain ⟨p,_,hb⟩:=h.limits hk hs;obtain ⟨⟨st,be,rk,my,gu,lo,hi,hd,ca,ut,wk⟩,hrk⟩:∃ d,Z8 m.sm k=d:=⟨_,rfl⟩
 rw [hrk] at p hb;obtain ⟨_,x1,_,x3,_⟩:=Zi p;simp only at hb;refine ⟨⟨hk,hs,?_,?_⟩,be.toNat,?_,by omega⟩
 ·rw [hrk];show (0:Int)<=my;omega
 ·rw [hrk];show my<=255;omega
 ·rw [hrk];show be=_;omega
theorem JB  (who:Int) (h:Smy w v0 v1 v2 v3 v4 m) :
  Calls Tryz.prog 18 #[.agg #[v0,v1,v2,v3,v4,.int .i64 m.now],.int .i64 who] w fun e w'=>TX w.heap.size (Ty m who).1 (Ty m who).2 e w'/\Below w.heap.size w w':=by
 obtain ⟨X,hX⟩:∃ x,Ty m who=x:=⟨_,rfl⟩
 rw [hX];have HX:=Z9 hX;clear hX;have Hv0:=Z9 h;obtain ⟨a0,p0,a1,p1,a2,p2,a3,p3,a4,p4,rfl,rfl,rfl,rfl,rfl,_,_,_,_,_,_,_,_,_,_⟩:=h.five;clear h;obtain ⟨ok,hok⟩:∃ q,ZI m=q:=⟨_,rfl⟩
 have Hok:=Z9 hok;clear hok;go_enter Tryz.func18,Tryz.ntmps18;go_wp2_with fail;obtain ⟨W,hW,kb,kr,BB⟩:=YG w 32 (S6 a0 p0 a1 p1 a2 p2 a3 p3 a4 p4 m) 32 E6;have Hv:=Z9 ((uh Hv0).below (uh BB));clear Hv0;rw [hW];clear hW;refine ck (XN (uh Hok) (uh Hv)) fun w1 hb=> ?_;replace kb:=bl kb hb;replace kr:=bl kr hb;replace Hv:=Z9 ((uh Hv).below hb);replace BB:=bt BB hb;clear hb;cases ok
 ·
  obtain ⟨c0,c1,c2,c3,c4,c5⟩:=(uh kb).c6;go_wp2_with fail;clear c0 c1 c2 c3 c4 c5;refine ck (XY (uh Hv)) fun w2 hb=> ?_;replace kb:=bl kb hb;replace kr:=bl kr hb;replace Hv:=Z9 ((uh Hv).below hb);replace BB:=bt BB hb;clear hb;obtain ⟨o0,o1,o2,o3,o4,o5⟩:=(uh kr).c6;obtain ⟨f0,f1,f2,f3,f4,f5⟩:=(uh kr).f6;go_wp2_with fail;have hX0:X=(Yj,3):=by rw [<-uh HX];unfold Ty;rw [uh Hok];rfl
  exact ZS (v:= .tuple #[.agg E6,.int .i64 3]) (by simp [results,Tryz.results18,go_sem, *]) rfl (Zb hX0 rfl (Yr _ _) (uh BB))
 have hlo:=ZK (uh Hok);have HLo:=Z9 hlo;have HFew:=Z9 (WK hlo);clear hlo;obtain ⟨c0,c1,c2,c3,c4,c5⟩:=(uh kb).c6;go_wp2_with fail;clear c0 c1 c2 c3 c4 c5;refine (T6 (uh Hv) (uh HFew) (uh kb) (uh kr) (uh BB)).mono ?_;clear kb kr Hv BB;rintro e w2 ⟨b0,q0,b1,q1,b2,q2,b3,q3,b4,q4,oq,rfl,W2,ob,hW2,hob2,kb,kr,Hv,HO,ko,LO,hob,BB⟩;go_upto_region 4 with fail
 (try rw [hW2])
 (try rw [hob2])
 clear hW2 hob2;obtain ⟨qw,hqw⟩:∃ q,WU m who=q:=⟨_,rfl⟩
 have Hqw:=Z9 hqw;clear hqw;obtain ⟨c0,c1,c2,c3,c4,c5⟩:=(uh kb).c6;go_wp2_with fail;clear c0 c1 c2 c3 c4 c5;refine ck (Ul (uh Hqw) (uh Hv)) fun w3 hb=> ?_;replace kb:=bl kb hb;replace kr:=bl kr hb;replace Hv:=Z9 ((uh Hv).below hb);replace HO:=Z9 ((uh HO).below hb);replace ko:=bl ko hb;replace BB:=bt BB hb;clear hb;cases qw
 ·
  obtain ⟨x0,x1,x2,x3,x4,x5⟩:=(uh ko).c6;obtain ⟨o0,o1,o2,o3,o4,o5⟩:=(uh kr).c6;obtain ⟨f0,f1,f2,f3,f4,f5⟩:=(uh kr).f6;go_wp2_with fail;have hX0:X=(m,1):=by rw [<-uh HX];unfold Ty;rw [uh Hok,uh Hqw];rfl
  exact ZS (v:= .tuple #[.agg (S6 b0 q0 b1 q1 b2 q2 b3 q3 b4 q4 m),.int .i64 1]) (by simp [results,Tryz.results18,go_sem, *]) rfl (Zb hX0 rfl (uh HO) (uh BB))
 obtain ⟨k,rfl,hk,hs0⟩:=Yl (uh Hqw);have hk1:(k:Int)<(m.sm.length:Int):=by omega
 obtain ⟨hA,bn,hbn,hbnl⟩:=P5 (uh HLo) hk hs0;have HA:=Z9 hA;clear hA;obtain ⟨_,_,hse,_,_,r2⟩:=(uh Hv).sm;cases hse
 rcases r2 with e0 | ⟨sb,off,rfl,hbw,hcl⟩
 ·rw [e0] at hk;simp at hk
 obtain ⟨d0,d1,d2,d3,d4,d5,d6,d7,d8,d9,d10⟩:=Zw hcl hk;clear hcl;obtain ⟨⟨st,be,rk,my,gu,lo,hi,hd,ca,ut,wk⟩,hrk⟩:∃ d,Z8 m.sm k=d:=⟨_,rfl⟩
 rw [hrk] at d0 d1 d2 d3 d4 d5 d6 d7 d8 d9 d10 hbn hs0;simp only at d0 d1 d2 d3 d4 d5 d6 d7 d8 d9 d10 hbn hs0;subst hbn;have Hrk:=Z9 hrk;clear hrk;have c2:=(uh kb).cell (i:=2) (v:= .slice (some ⟨sb,off,none⟩) m.sm.length p2) rfl;go_upto_region 7 with fail;clear d0 d1 d2 d3 d4 d5 d6 d7 d8 d9 d10 c2;obtain ⟨W3,hW3,hba,ks⟩:=YF w3 40 (I11 st (bn:Int) rk my gu lo hi hd ca ut wk);replace kb:=bl kb hba;replace kr:=bl kr hba;replace Hv:=Z9 ((uh Hv).below hba);replace HO:=Z9 ((uh HO).below hba);replace ko:=bl ko hba;replace BB:=bt BB hba;clear hba;rw [hW3];clear hW3;generalize w3.heap.size=sv at *;by_cases hst:st=1;rotate_left
 ·
  have e0:=(uh ks).cell (i:=0) (v:= .int .i64 st) rfl;have hst1:(st ==1)=false:=by simp [hst]
  have hst2:decide (st=1)=false:=by simp [hst]
  obtain ⟨x0,x1,x2,x3,x4,x5⟩:=(uh ko).c6;obtain ⟨o0,o1,o2,o3,o4,o5⟩:=(uh kr).c6;obtain ⟨f0,f1,f2,f3,f4,f5⟩:=(uh kr).f6;go_wp2_with fail;have hX0:X=(m,2):=by rw [<-uh HX];unfold Ty;rw [uh Hok,uh Hqw];simp only [if_true,Zz];rw [if_neg (show ¬ (Z8 m.sm k).1=1 by rw [uh Hrk];exact hst)]
  exact ZS (v:= .tuple #[.agg (S6 b0 q0 b1 q1 b2 q2 b3 q3 b4 q4 m),.int .i64 2]) (by simp [results,Tryz.results18,go_sem, *]) rfl (Zb hX0 rfl (uh HO) (uh BB))
 subst hst;have Hst:Hid ((Z8 m.sm k).1=1):=Z9 (by rw [uh Hrk]);have e0:=(uh ks).cell (i:=0) (v:= .int .i64 1) rfl;obtain ⟨b,hb⟩:∃ q,YQ m (k:Int)=q:=⟨_,rfl⟩
 have Hb:=Z9 hb;clear hb;obtain ⟨c0,c1,c2,c3,c4,c5⟩:=(uh kb).c6;go_wp2_with fail;clear c0 c1 c2 c3 c4 c5;clear e0;refine (Wc (who:=k) (uh Hv) (uh HLo).sane (Tn (uh HLo)) (uh HA)).mono ?_;rw [uh Hb];rintro e w4 ⟨rfl,hb⟩;replace kb:=bl kb hb;replace kr:=bl kr hb;replace Hv:=Z9 ((uh Hv).below hb);replace HO:=Z9 ((uh HO).below hb);replace ko:=bl ko hb;replace ks:=bl ks hb;replace BB:=bt BB hb;clear hb;by_cases hbn:b<0
 ·
  obtain ⟨x0,x1,x2,x3,x4,x5⟩:=(uh ko).c6;obtain ⟨o0,o1,o2,o3,o4,o5⟩:=(uh kr).c6;obtain ⟨f0,f1,f2,f3,f4,f5⟩:=(uh kr).f6;go_wp2_with fail;have hX0:X=(m,2):=by rw [<-uh HX];unfold Ty;rw [uh Hok,uh Hqw];simp only [if_true,Zz];rw [if_pos (uh Hst),uh Hb,if_pos hbn]
  exact ZS (v:= .tuple #[.agg (S6 b0 q0 b1 q1 b2 q2 b3 q3 b4 q4 m),.int .i64 2]) (by simp [results,Tryz.results18,go_sem, *]) rfl (Zb hX0 rfl (uh HO) (uh BB))
 obtain ⟨bb,hbb,rfl⟩:∃ bb:Nat,bb<m.dk.length/\b=(bb:Int):=by
  rcases VS m (k:Int) with ⟨e,_⟩ | ⟨bb,hbl,e,_⟩
  ·rw [uh Hb] at e;omega
  ·exact ⟨bb,hbl,(uh Hb).symm.trans e⟩
 obtain ⟨c0,c1,c2,c3,c4,c5⟩:=(uh kb).c6;go_wp2_with fail;clear c0 c1 c2 c3 c4 c5;have hobw:=(uh ko).lt;refine (XT (uh Hv) (uh HFew)).mono ?_;rintro e w5 ⟨y0,y1,y2,y3,y4,xq,rfl,ho,hb⟩;have k9:=ho.smy;obtain ⟨xa0,xp0,xa1,xp1,xa2,xp2,xa3,xp3,xa4,xp4,rfl,rfl,rfl,rfl,rfl,_,_,_,_,_,_,_,_,_,_⟩:=k9.five;clear k9;replace kb:=bl kb hb;replace kr:=bl kr hb;replace Hv:=Z9 ((uh Hv).below hb);replace HO:=Z9 ((uh HO).below hb);replace ko:=bl ko hb;replace ks:=bl ks hb;replace BB:=bt BB hb;have hszx:=hb.size;have HY:=Z9 (ho.mono (n₁:=w.heap.size+2) (by omega));have LX:Hid (∀ k,Wg (.slice xa0 m.rm.length xp0) (.slice xa1 m.gd.length xp1) (.slice xa2 m.sm.length xp2) (.slice xa3 m.dk.length xp3) (.slice xa4 m.pc.length xp4) xq k->ob+1<=k/\k<w5.heap.size):=Z9 (fun k e=>by have:=ho.own e;omega);have hxb:ob+1<=w5.heap.size:=by omega
 clear ho hb hobw hszx;go_upto_region 13 with fail;obtain ⟨W4,hW4,hba,kx⟩:=YF w5 32 (S6 xa0 xp0 xa1 xp1 xa2 xp2 xa3 xp3 xa4 xp4 m);replace kb:=bl kb hba;replace kr:=bl kr hba;replace Hv:=Z9 ((uh Hv).below hba);replace HO:=Z9 ((uh HO).below hba);replace ko:=bl ko hba;replace ks:=bl ks hba;replace HY:=Z9 ((uh HY).below hba);replace BB:=bt BB hba;clear hba;rw [hW4];clear hW4;generalize w5.heap.size=xb at *;obtain ⟨_,_,hde,_,_,r3⟩:=(uh Hv).dk;cases hde
 rcases r3 with e0 | ⟨db,doff,rfl,hdw,hcl⟩
 ·rw [e0] at hbb;simp at hbb
 obtain ⟨_,_,m1⟩:=Y4 hcl hbnl;obtain ⟨_,_,m2⟩:=Y4 hcl hbb;clear hcl;obtain ⟨mk1,hmk1⟩:∃ q,(Z8 m.dk bn).2.2=q:=⟨_,rfl⟩
 obtain ⟨mk2,hmk2⟩:∃ q,(Z8 m.dk bb).2.2=q:=⟨_,rfl⟩
 rw [hmk1] at m1;rw [hmk2] at m2
 have hwk:RW m k (bb:Int)=setS m k (2,(bb:Int),rk,my,gu,lo,hi,(YL (Zq hd mk1 mk2) mk2),ca,ut,wk):=by
  unfold RW DI Qk Xy Xq;rw [uh Hrk];simp only [Zz];rw [hmk1,hmk2]
 have Hwk:=Z9 hwk;clear hmk1 hmk2 hwk;have c3:=(uh kb).cell (i:=3) (v:= .slice (some ⟨db,doff,none⟩) m.dk.length p3) rfl;have e1:=(uh ks).cell (i:=1) (v:= .int .i64 (bn:Int)) rfl;have e7:=(uh ks).cell (i:=7) (v:= .int .i64 hd) rfl;obtain ⟨g2,hga,_,_,hc2,hz2⟩:=RecAt.view ZX (by omega) (uh HY).sm rfl (by omega);cases hga;have hg2o:=(uh LX g2 (.inr (.inr (.inr (.inl rfl)))))
 have x2:=(uh kx).cell (i:=2) (v:= .slice (some ⟨g2,0,none⟩) m.sm.length xp2) rfl;have s7:=hc2 k hk 7 _ rfl;have f7:=hz2 (k*11+7);have hput:=(uh HY).putS rfl (j:=k) (i:=7) hk (by omega) (.int .i64 (YL (Zq hd mk1 mk2) mk2)) (1,(bn:Int),rk,my,gu,lo,hi,(YL (Zq hd mk1 mk2) mk2),ca,ut,wk) (by rw [uh Hrk];rfl);have HP:=Z9 hput;clear hput hc2 hz2;have hbn2:(bn:Int)<(m.dk.length:Int):=by omega
 have hbb2:(bb:Int)<(m.dk.length:Int):=by omega
 go_wp2_with fail;refine ZP (S:=fun w'=>w'.cell? ⟨xb,2,none⟩=some (.slice (some ⟨g2,0,none⟩) m.sm.length xp2)/\w'.cell? ⟨sv,7,none⟩=some (.int .i64 hd)/\w'.cell? ⟨w.heap.size,3,none⟩=some (.slice (some ⟨db,doff,none⟩) m.dk.length p3)/\w'.cell? ⟨sv,1,none⟩=some (.int .i64 (bn:Int))/\w'.cell? ⟨db,doff+bn*3+2,none⟩=some (.int .i64 mk1)/\w'.cell? ⟨db,doff+bb*3+2,none⟩=some (.int .i64 mk2)) (by kernel_rfl) (Xs _ _) (by kernel_rfl) ⟨x2,e7,c3,e1,m1,m2⟩ (fun hHeld=> ?_);simp only [Xt,Xu,YT,YM,Nat.zero_add,Nat.reduceAdd]
 iterate 18 refine tz ?_
 refine tp 19 ?_;refine tp 20 ?_;refine tp 21 ?_;refine tp 22 ?_;refine tp 23 ?_;refine tp 24 ?_;refine rd 18 rfl (fun K hK=> ?_);go_simp;refine ck (QE hd mk1 mk2 _) fun w9 hw9=> ?_;subst w9;refine hK.out _ _ hHeld (fun hHeld=> ?_);clear hK K
 (try simp only [Act.put,sA,sZ,sS])
 refine rd 25 rfl (fun K hK=> ?_);go_simp;refine ck (MN (Zq hd mk1 mk2) mk2 _) fun w9 hw9=> ?_;subst w9;refine hK.out _ _ hHeld (fun hHeld=> ?_);clear hK K
 (try simp only [Act.put,sA,sZ,sS])
 refine tp 26 ?_;refine tp 27 ?_;refine wpAnyH_done (by kernel_rfl) ?_ _;refine ZF rfl rfl ?_;go_simp;clear hHeld x2 e7 c3 e1 m1 m2 s7 f7;go_wp2_with fail;replace kx:Hid (Blk ((W4.setCell ⟨g2,k*11+7,none⟩ (.int .i64 (YL (Zq hd mk1 mk2) mk2))).drew) xb 32 (S6 xa0 xp0 xa1 xp1 (some ⟨g2,0,none⟩) xp2 xa3 xp3 xa4 xp4 m)):=Z9 ((((uh kx).other (a:=⟨g2,k*11+7,none⟩) (by show xb ≠ g2;omega) (.int .i64 (YL (Zq hd mk1 mk2) mk2)))).below (Z1 _ _).drew ((uh kx).other (a:=⟨g2,k*11+7,none⟩) (by show xb ≠ g2;omega) (.int .i64 (YL (Zq hd mk1 mk2) mk2))).lt);replace ko:Hid (Blk ((W4.setCell ⟨g2,k*11+7,none⟩ (.int .i64 (YL (Zq hd mk1 mk2) mk2))).drew) ob 32 (S6 b0 q0 b1 q1 b2 q2 b3 q3 b4 q4 m)):=Z9 ((((uh ko).other (a:=⟨g2,k*11+7,none⟩) (by show ob ≠ g2;omega) (.int .i64 (YL (Zq hd mk1 mk2) mk2)))).below (Z1 _ _).drew ((uh ko).other (a:=⟨g2,k*11+7,none⟩) (by show ob ≠ g2;omega) (.int .i64 (YL (Zq hd mk1 mk2) mk2))).lt);replace kr:Hid (Blk ((W4.setCell ⟨g2,k*11+7,none⟩ (.int .i64 (YL (Zq hd mk1 mk2) mk2))).drew) (w.heap.size+1) 32 E6):=Z9 ((((uh kr).other (a:=⟨g2,k*11+7,none⟩) (by show (w.heap.size+1) ≠ g2;omega) (.int .i64 (YL (Zq hd mk1 mk2) mk2)))).below (Z1 _ _).drew ((uh kr).other (a:=⟨g2,k*11+7,none⟩) (by show (w.heap.size+1) ≠ g2;omega) (.int .i64 (YL (Zq hd mk1 mk2) mk2))).lt);replace HO:Hid (FullSmy (w.heap.size+2) ((W4.setCell ⟨g2,k*11+7,none⟩ (.int .i64 (YL (Zq hd mk1 mk2) mk2))).drew) (.slice b0 m.rm.length q0) (.slice b1 m.gd.length q1) (.slice b2 m.sm.length q2) (.slice b3 m.dk.length q3) (.slice b4 m.pc.length q4) m oq):=Z9 (((uh HO).set_off (fun k e=>by have:=(uh LO k e).2;omega) _ _).below (Z1 _ _).drew);replace HP:=Z9 ((uh HP).below (Z1 _ _).drew);replace BB:Hid (Below w.heap.size w ((W4.setCell ⟨g2,k*11+7,none⟩ (.int .i64 (YL (Zq hd mk1 mk2) mk2))).drew)):=Z9 ((uh BB).setCell (p:=⟨g2,k*11+7,none⟩) (by show w.heap.size<=g2;omega) (.int .i64 (YL (Zq hd mk1 mk2) mk2))).drew;clear kb Hv ks HY;generalize (W4.setCell ⟨g2,k*11+7,none⟩ (.int .i64 (YL (Zq hd mk1 mk2) mk2))).drew=W5 at *;have hofX:∀ k,Wg (.slice xa0 m.rm.length xp0) (.slice xa1 m.gd.length xp1) (.slice (some ⟨g2,0,none⟩) m.sm.length xp2) (.slice xa3 m.dk.length xp3) (.slice xa4 m.pc.length xp4) xq k->k ≠ xb:=fun k e=>by have:=(uh LX k e).2;omega
 refine (Mb (m:=setS m k (1,(bn:Int),rk,my,gu,lo,hi,(YL (Zq hd mk1 mk2) mk2),ca,ut,wk)) (k:=k) (uh kx) (uh HP) (fun e=>hofX _ (.inr (.inr (.inr (.inl e)))) rfl) (fun e=>hofX _ (.inr (.inr (.inr (.inr (.inl e))))) rfl) (by show k<(m.sm.set k _).length;simp;omega) (bb:Int)).mono ?_;rintro e w7 ⟨rfl,hf7,ht7⟩
 have hW:setS (setS m k (1,(bn:Int),rk,my,gu,lo,hi,(YL (Zq hd mk1 mk2) mk2),ca,ut,wk)) k (2,(bb:Int),(Z8 (setS m k (1,(bn:Int),rk,my,gu,lo,hi,(YL (Zq hd mk1 mk2) mk2),ca,ut,wk)).sm k).2.2)=RW m k (bb:Int):=by
  rw [Q7,uh Hwk];show setS m k (2,(bb:Int),(Z8 (m.sm.set k _) k).2.2)=_;rw [ZJ hk,if_pos rfl]
 rw [hW] at hf7;replace kx:=Z9 ((uh kx).two ht7 (fun e=>hofX _ (.inr (.inr (.inr (.inl e)))) rfl) (fun e=>hofX _ (.inr (.inr (.inr (.inr (.inl e))))) rfl));replace ko:=Z9 ((uh ko).two ht7 (fun e=>by have:=(uh LX _ (.inr (.inr (.inr (.inl e))))).1;omega) (fun e=>by have:=(uh LX _ (.inr (.inr (.inr (.inr (.inl e)))))).1;omega));replace kr:=Z9 ((uh kr).two ht7 (fun e=>by have:=(uh LX _ (.inr (.inr (.inr (.inl e))))).1;omega) (fun e=>by have:=(uh LX _ (.inr (.inr (.inr (.inr (.inl e)))))).1;omega));replace HO:=Z9 ((uh HO).keep (fun k e0=>ht7.block k ((uh HO).own e0).2 (fun e=>by have:=(uh LX _ (.inr (.inr (.inr (.inl e))))).1;have:=(uh LO k e0).2;omega) (fun e=>by have:=(uh LX _ (.inr (.inr (.inr (.inr (.inl e)))))).1;have:=(uh LO k e0).2;omega)));replace BB:=Z9 ((uh BB).trans (ht7.below (uh BB).size (fun k e=>by have:=(uh LX k (.inr (.inr (.inr (.inl e))))).1;omega) (fun k e=>by have:=(uh LX k (.inr (.inr (.inr (.inr (.inl e)))))).1;omega)));replace HP:=Z9 hf7;clear hf7 ht7 hW hofX;obtain ⟨lb,hlb⟩:∃ q,Yv (RW m k (bb:Int))=q:=⟨_,rfl⟩
 have Hlb:=Z9 hlb;clear hlb;obtain ⟨z0,z1,z2,z3,z4,z5⟩:=(uh kx).c6;go_wp2_with fail;clear z0 z1 z2 z3 z4 z5;refine (Sx (m:=RW m k (bb:Int)) (uh HP).smy).mono ?_;rw [uh Hlb];rintro e w8 ⟨rfl,hb⟩;replace kx:=bl kx hb;replace ko:=bl ko hb;replace kr:=bl kr hb;replace HO:=Z9 ((uh HO).below hb);replace HP:=Z9 ((uh HP).below hb);replace BB:=bt BB hb;clear hb;cases lb
 ·
  obtain ⟨x0,x1,x2,x3,x4,x5⟩:=(uh ko).c6;obtain ⟨o0,o1,o2,o3,o4,o5⟩:=(uh kr).c6;obtain ⟨f0,f1,f2,f3,f4,f5⟩:=(uh kr).f6;go_wp2_with fail;have hX0:X=(m,4):=by rw [<-uh HX];unfold Ty;rw [uh Hok,uh Hqw];simp only [if_true,Zz];rw [if_pos (uh Hst),uh Hb,if_neg (by omega),uh Hlb];rfl
  exact ZS (v:= .tuple #[.agg (S6 b0 q0 b1 q1 b2 q2 b3 q3 b4 q4 m),.int .i64 4]) (by simp [results,Tryz.results18,go_sem, *]) rfl (Zb hX0 rfl (uh HO) (uh BB))
 have hfw:=uh HFew;go_wp2_with fail;refine (UZ (m:=RW m k (bb:Int)) (uh kx) (uh HP) (fun k e=>by have:=(uh LX k e).2;omega) (uh kr) (uh BB) (by show (m.sm.set k _).length<=800;have:=hfw.sm;simp;omega) hfw.dk).mono ?_;clear kr BB;rintro e w9 ⟨rfl,HF9,kr,BB⟩;obtain ⟨o0,o1,o2,o3,o4,o5⟩:=(uh kr).c6;obtain ⟨f0,f1,f2,f3,f4,f5⟩:=(uh kr).f6;go_wp2_with fail;have hX0:X=(ZN (RW m k (bb:Int)),0):=by rw [<-uh HX];unfold Ty;rw [uh Hok,uh Hqw];simp only [if_true,Zz];rw [if_pos (uh Hst),uh Hb,if_neg (by omega),uh Hlb];rfl
 have hnow:(ZN (RW m k (bb:Int))).now=m.now:=(ZG _ _).2.2.2.1;exact ZS (v:= .tuple #[.agg (S6 xa0 xp0 xa1 xp1 (some ⟨g2,0,none⟩) xp2 xa3 xp3 xa4 xp4 m),.int .i64 0]) (by simp [results,Tryz.results18,go_sem,setS,TI,Yc,pushS,RW, *]) rfl (Zb hX0 hnow (uh HF9) (uh BB))
theorem FullSmy.pushS {n₀:Nat}  {qs:List (ZZ × Value)} {s:Z3} (h:FullSmy n₀ w v0 v1 v2 v3 v4 m qs) (hb:Below w.heap.size w w1) (hg:w1.grownBy w' v2.ownBlock) (hat:u.ownBlock=v2.ownBlock\/u.ownBlock=some w1.heap.size) (hr:SmithsAt n₀ w' u (m.sm++[s])):FullSmy n₀ w' v0 v1 u v3 v4 (pushS m s) qs:=by
 have hsz:=hb.size;have hk:∀ k,k<w.heap.size->v2.ownBlock ≠ some k->w'.heap[k]?=w.heap[k]?:=fun k hk hn=>(hg.block k (by omega) (Ne.symm hn)).trans (hb.block k hk)
 have hu:∀ {b:Nat},u.ownBlock=some b->v2.ownBlock=some b\/w.heap.size<=b:=fun {b} e=>by
  rcases hat with e' | e'
  ·exact .inl (e'.symm.trans e)
  ·right;rw [e'] at e;cases e;exact hsz
 refine ⟨h.hall.same2 fun k e=>hk k ?_ fun e'=> ?_,h.rm,RecAt.same h.gd fun k e=>hk k (RecAt.lt h.gd e).2 fun e'=>h.a12 k e e',hr,RecAt.same h.dk fun k e=>hk k (RecAt.lt h.dk e).2 fun e'=>h.a23 k e' e,RecAt.same h.pc fun k e=>hk k (RecAt.lt h.pc e).2 fun e'=>h.a24 k e' e,h.h1,⟨fun b e e'=> ?_,fun q hq b e e'=> ?_⟩,h.h3,h.h4,fun b e e'=> ?_,h.a13,h.a14,fun b e e'=> ?_,fun b e e'=> ?_,h.a34⟩
 ·exact (h.hall.lt e).2
 ·rcases e with e | ⟨q,hq,e⟩
  ·exact h.h2.1 k e' e
  ·exact h.h2.2 q hq k e' e
 ·rcases hu e with e2 | e2
  ·exact h.h2.1 b e2 e'
  ·have:=(h.hall.lt (.inl e')).2;omega
 ·rcases hu e with e2 | e2
  ·exact h.h2.2 q hq b e2 e'
  ·have:=(h.hall.lt (.inr ⟨q,hq,e'⟩)).2;omega
 ·rcases hu e' with e2 | e2
  ·exact h.a12 b e e2
  ·have:=(RecAt.lt h.gd e).2;omega
 ·rcases hu e with e2 | e2
  ·exact h.a23 b e2 e'
  ·have:=(RecAt.lt h.dk e').2;omega
 ·rcases hu e with e2 | e2
  ·exact h.a24 b e2 e'
  ·have:=(RecAt.lt h.pc e').2;omega
theorem Jz  (rank:Int) (may:Int) (guild:Int) (h:Smy w v0 v1 v2 v3 v4 m) :
  Calls Tryz.prog 10 #[.agg #[v0,v1,v2,v3,v4,.int .i64 m.now],.int .i64 rank,.int .i64 may,.int .i64 guild] w fun e w'=>TX w.heap.size (S7 m rank may guild).1 (S7 m rank may guild).2 e w'/\Below w.heap.size w w':=by
 obtain ⟨X,hX⟩:∃ x,S7 m rank may guild=x:=⟨_,rfl⟩
 rw [hX];have HX:=Z9 hX;clear hX;have Hv0:=Z9 h;obtain ⟨a0,p0,a1,p1,a2,p2,a3,p3,a4,p4,rfl,rfl,rfl,rfl,rfl,_,_,_,_,_,_,_,_,_,_⟩:=h.five;clear h;obtain ⟨ok,hok⟩:∃ q,ZI m=q:=⟨_,rfl⟩
 have Hok:=Z9 hok;clear hok;go_enter Tryz.func10,Tryz.ntmps10;go_wp2_with fail;obtain ⟨W,hW,kb,kr,BB⟩:=YG w 32 (S6 a0 p0 a1 p1 a2 p2 a3 p3 a4 p4 m) 32 E6;have Hv:=Z9 ((uh Hv0).below (uh BB));clear Hv0;rw [hW];clear hW;refine ck (XN (uh Hok) (uh Hv)) fun w1 hb=> ?_;replace kb:=bl kb hb;replace kr:=bl kr hb;replace Hv:=Z9 ((uh Hv).below hb);replace BB:=bt BB hb;clear hb;cases ok
 ·
  obtain ⟨c0,c1,c2,c3,c4,c5⟩:=(uh kb).c6;go_wp2_with fail;clear c0 c1 c2 c3 c4 c5;refine ck (XY (uh Hv)) fun w2 hb=> ?_;replace kb:=bl kb hb;replace kr:=bl kr hb;replace Hv:=Z9 ((uh Hv).below hb);replace BB:=bt BB hb;clear hb;obtain ⟨o0,o1,o2,o3,o4,o5⟩:=(uh kr).c6;obtain ⟨f0,f1,f2,f3,f4,f5⟩:=(uh kr).f6;go_wp2_with fail;have hX0:X=(Yj,3):=by rw [<-uh HX];unfold S7;rw [uh Hok];rfl
  exact ZS (v:= .tuple #[.agg #[.slice none 0 0,.slice none 0 0,.slice none 0 0,.slice none 0 0,.slice none 0 0,.int .i64 0],.int .i64 3]) (by simp [results,Tryz.results10,go_sem, *]) rfl (Zb hX0 rfl (Yr _ _) (uh BB))
 have hlo:=ZK (uh Hok);have HLo:=Z9 hlo;have HFew:=Z9 (WK hlo);clear hlo;obtain ⟨c0,c1,c2,c3,c4,c5⟩:=(uh kb).c6;go_wp2_with fail;clear c0 c1 c2 c3 c4 c5;refine (T6 (uh Hv) (uh HFew) (uh kb) (uh kr) (uh BB)).mono ?_;clear kb kr Hv BB;rintro e w2 ⟨b0,q0,b1,q1,b2,q2,b3,q3,b4,q4,oq,rfl,W2,ob,hW2,hob2,kb,kr,Hv,HO,ko,LO,hob,BB⟩;go_upto_region 4 with fail
 (try rw [hW2])
 (try rw [hob2])
 clear hW2 hob2;go_upto_region 5 with fail;obtain ⟨W3,hW3,hba,ks⟩:=YF W2 40 #[.int .i64 1,.int .i64 0,.int .i64 rank,.int .i64 may,.int .i64 guild,.int .i64 0,.int .i64 1024,.int .i64 0,.int .i64 0,.int .i64 0,.int .i64 0];replace kb:=bl kb hba;replace kr:=bl kr hba;replace Hv:=Z9 ((uh Hv).below hba);replace HO:=Z9 ((uh HO).below hba);replace ko:=bl ko hba;replace BB:=bt BB hba;clear hba;rw [hW3];clear hW3;generalize W2.heap.size=sv at *;obtain ⟨sk,hsk⟩:∃ q,Zx (Ye rank may guild)=q:=⟨_,rfl⟩
 have Hsk:=Z9 hsk;have Hsk2:Hid (Zx (1,0,rank,may,guild,0,1024,0,0,0,0)=sk):=Z9 hsk;clear hsk;obtain ⟨e0,e1,e2,e3,e4,e5,e6,e7,e8,e9,e10⟩:=(uh ks).c11;go_wp2_with fail;clear e0 e1 e2 e3 e4 e5 e6 e7 e8 e9 e10;refine (Zm 1 0 rank may guild 0 1024 0 0 0 0 _).mono ?_;rw [uh Hsk2];rintro e w3 ⟨rfl,hb⟩;replace kb:=bl kb hb;replace kr:=bl kr hb;replace Hv:=Z9 ((uh Hv).below hb);replace HO:=Z9 ((uh HO).below hb);replace ko:=bl ko hb;replace ks:=bl ks hb;replace BB:=bt BB hb;clear hb;cases sk
 ·
  obtain ⟨x0,x1,x2,x3,x4,x5⟩:=(uh ko).c6;obtain ⟨o0,o1,o2,o3,o4,o5⟩:=(uh kr).c6;obtain ⟨f0,f1,f2,f3,f4,f5⟩:=(uh kr).f6;go_wp2_with fail;have hX0:X=(m,3):=by rw [<-uh HX];unfold S7;rw [uh Hok,uh Hsk];rfl
  exact ZS (v:= .tuple #[.agg #[.slice b0 m.rm.length q0,.slice b1 m.gd.length q1,.slice b2 m.sm.length q2,.slice b3 m.dk.length q3,.slice b4 m.pc.length q4,.int .i64 m.now],.int .i64 3]) (by simp [results,Tryz.results10,go_sem, *]) rfl (Zb hX0 rfl (uh HO) (uh BB))
 have hgl:=(uh HFew).gd;have c1:=(uh kb).cell (i:=1) (v:= .slice a1 m.gd.length p1) rfl;by_cases hg:guild<(m.gd.length:Int);rotate_left
 ·
  obtain ⟨x0,x1,x2,x3,x4,x5⟩:=(uh ko).c6;obtain ⟨o0,o1,o2,o3,o4,o5⟩:=(uh kr).c6;obtain ⟨f0,f1,f2,f3,f4,f5⟩:=(uh kr).f6;go_wp2_with fail;have hX0:X=(m,3):=by rw [<-uh HX];unfold S7;rw [uh Hok,uh Hsk];simp only [if_true,Bool.true_and];rw [show decide (guild<(m.gd.length:Int))=false by simp;omega];rfl
  exact ZS (v:= .tuple #[.agg #[.slice b0 m.rm.length q0,.slice b1 m.gd.length q1,.slice b2 m.sm.length q2,.slice b3 m.dk.length q3,.slice b4 m.pc.length q4,.int .i64 m.now],.int .i64 3]) (by simp [results,Tryz.results10,go_sem, *]) rfl (Zb hX0 rfl (uh HO) (uh BB))
 have Hg:=Z9 hg;have c2:=(uh kb).cell (i:=2) (v:= .slice a2 m.sm.length p2) rfl;by_cases hl:m.sm.length=12
 ·
  have Hl:=Z9 hl;have hl1:((m.sm.length:Int) ==12)=true:=by rw [hl];rfl
  have hl2:decide ((m.sm.length:Int)=12)=true:=by rw [hl];rfl
  clear hl;obtain ⟨x0,x1,x2,x3,x4,x5⟩:=(uh ko).c6;obtain ⟨o0,o1,o2,o3,o4,o5⟩:=(uh kr).c6;obtain ⟨f0,f1,f2,f3,f4,f5⟩:=(uh kr).f6;go_wp2_with fail;have hX0:X=(m,4):=by rw [<-uh HX];unfold S7;rw [uh Hok,uh Hsk];simp only [if_true,Bool.true_and];rw [show decide (guild<(m.gd.length:Int))=true from decide_eq_true (uh Hg)];simp only [if_true];rw [if_pos (uh Hl)]
  exact ZS (v:= .tuple #[.agg #[.slice b0 m.rm.length q0,.slice b1 m.gd.length q1,.slice b2 m.sm.length q2,.slice b3 m.dk.length q3,.slice b4 m.pc.length q4,.int .i64 m.now],.int .i64 4]) (by simp [results,Tryz.results10,go_sem, *]) rfl (Zb hX0 rfl (uh HO) (uh BB))
 have Hl:=Z9 hl;have hl0:¬ (m.sm.length:Int)=12:=by omega
 have hl1:((m.sm.length:Int) ==12)=false:=by simp [hl0]
 have hl2:decide ((m.sm.length:Int)=12)=false:=by simp [hl0]
 clear hl;obtain ⟨c0,c1,c2,c3,c4,c5⟩:=(uh kb).c6;go_wp2_with fail;clear c0 c1 c2 c3 c4 c5;have hobw:=(uh ko).lt;refine (XT (uh Hv) (uh HFew)).mono ?_;rintro e w4 ⟨y0,y1,y2,y3,y4,xq,rfl,ho,hb⟩;have k9:=ho.smy;obtain ⟨xa0,xp0,xa1,xp1,xa2,xp2,xa3,xp3,xa4,xp4,rfl,rfl,rfl,rfl,rfl,_,_,_,_,_,_,_,_,_,_⟩:=k9.five;clear k9;replace kb:=bl kb hb;replace kr:=bl kr hb;replace Hv:=Z9 ((uh Hv).below hb);replace HO:=Z9 ((uh HO).below hb);replace ko:=bl ko hb;replace ks:=bl ks hb;replace BB:=bt BB hb;have hszx:=hb.size;have HY:=Z9 (ho.mono (n₁:=w.heap.size+2) (by omega));have LX:Hid (∀ k,Wg (.slice xa0 m.rm.length xp0) (.slice xa1 m.gd.length xp1) (.slice xa2 m.sm.length xp2) (.slice xa3 m.dk.length xp3) (.slice xa4 m.pc.length xp4) xq k->ob+1<=k/\k<w4.heap.size):=Z9 (fun k e=>by have:=ho.own e;omega);have hxb:ob+1<=w4.heap.size:=by omega
 clear ho hb hobw hszx;go_upto_region 11 with fail;obtain ⟨W4,hW4,hba,kx⟩:=YF w4 32 (S6 xa0 xp0 xa1 xp1 xa2 xp2 xa3 xp3 xa4 xp4 m);replace kb:=bl kb hba;replace kr:=bl kr hba;replace Hv:=Z9 ((uh Hv).below hba);replace HO:=Z9 ((uh HO).below hba);replace ko:=bl ko hba;replace ks:=bl ks hba;replace HY:=Z9 ((uh HY).below hba);replace BB:=bt BB hba;clear hba;rw [hW4];clear hW4;generalize w4.heap.size=xb at *;clear hl0 hl1 hl2 hg c1 c2
 have hx:Loose (pushS m (Ye rank may guild)):=by
  have h12:=Yz (uh HLo)
  rcases GM (uh HLo) (uh Hsk) (uh Hg) with e | e
  ·exact e
  ·exact absurd (Nat.le_antisymm h12 e) (uh Hl)
 have hrn:Z8 (m.sm++[Ye rank may guild]) m.sm.length=Ye rank may guild:=by rw [Vv,if_pos rfl]
 have HAx:Hid (QJ (pushS m (Ye rank may guild)) m.sm.length):=Z9 (P5 hx (by unfold pushS;simp) (by show (Z8 (m.sm++_) _).1 ≠ 0;rw [hrn];show (1:Int) ≠ 0;omega)).1;have HLx:=Z9 hx;obtain ⟨n1,hn1⟩:∃ n,n=m.sm.length+1:=⟨_,rfl⟩
 have Hn1:=Z9 hn1;have hn1n:m.sm.length<n1:=by omega
 have hnn:(m.sm.length:Int)<(n1:Int):=by omega
 clear hn1;have hsz4:w.heap.size+2<=W4.heap.size:=by have:=(uh kx).lt;omega
 clear hx;have x2:=(uh kx).cell (i:=2) (v:= .slice xa2 m.sm.length xp2) rfl;have fx:=(uh kx).free 2;obtain ⟨e0,e1,e2,e3,e4,e5,e6,e7,e8,e9,e10⟩:=(uh ks).c11;have hsl:=(uh HFew).sm;have hx2:∀ k,(Value.slice xa2 m.sm.length xp2).ownBlock=some k->k<xb:=fun k e=>(uh LX k (.inr (.inr (.inr (.inl e))))).2;go_upto_region 12 with (at_builtin;refine ZH tyS rfl (.tmp 50) (.tmp 52) 28 Tryz.underlying28 rfl (w.heap.size+2) _ _ m.sm [Ye rank may guild] rfl rfl (RecAt.later (uh HY).sm ((ba _ _))) (Wy (Ye rank may guild) rfl (Z2 _) (by omega)) (by simp;omega) (by simp;omega) ?_;intro u9 w9 hp9 hg9 hat9;obtain ⟨a9,c9,hu9⟩:=RecAt.shape hp9;rw [show (m.sm++[Ye rank may guild]).length=n1 by rw [uh Hn1];simp] at hu9;subst hu9;have k9:=((uh kx).below ((Z1 _ _).alloc (Z2 _) (.cells #[.int .i64 1,.int .i64 0,.int .i64 rank,.int .i64 may,.int .i64 guild,.int .i64 0,.int .i64 1024,.int .i64 0,.int .i64 0,.int .i64 0,.int .i64 0] 40)) (uh kx).lt).same (hg9.block xb (by have:=(uh kx).lt;simp;omega) (fun e=>by have:=hx2 _ e.symm;omega));have o9:=k9.cell (i:=2) (v:= .slice xa2 m.sm.length xp2) rfl;have f9:=k9.free 2;have HP9:=Z9 hp9;have HG9:=Z9 hg9;have HT9:=Z9 hat9;clear hp9 hg9 hat9 k9)
 clear x2 fx o9 f9 e0 e1 e2 e3 e4 e5 e6 e7 e8 e9 e10;have hba:Below W4.heap.size W4 (W4.alloc (.cells #[.int .i64 1,.int .i64 0,.int .i64 rank,.int .i64 may,.int .i64 guild,.int .i64 0,.int .i64 1024,.int .i64 0,.int .i64 0,.int .i64 0,.int .i64 0] 40)):=ba _ _;have hP:=(uh HY).pushS hba (uh HG9) (uh HT9) (uh HP9);have hown:∀ k,k<W4.heap.size->(Value.slice xa2 m.sm.length xp2).ownBlock ≠ some k->w9.heap[k]?=W4.heap[k]?:=fun k hk hn=>((uh HG9).block k (by have:=hba.size;omega) (Ne.symm hn)).trans (hba.block k hk);have hx2o:∀ k,(Value.slice xa2 m.sm.length xp2).ownBlock=some k->ob+1<=k:=fun k e=>(uh LX k (.inr (.inr (.inr (.inl e))))).1;have hxbl:=(uh kx).lt
 have LX9:Hid (∀ k,Wg (.slice xa0 m.rm.length xp0) (.slice xa1 m.gd.length xp1) (.slice a9 n1 c9) (.slice xa3 m.dk.length xp3) (.slice xa4 m.pc.length xp4) xq k->ob+1<=k/\k ≠ xb):=Z9 (fun k e=>by
  rcases e with e | e | e | e | e | e
  ·have:=uh LX k (.inl e);omega
  ·have:=uh LX k (.inr (.inl e));omega
  ·have:=uh LX k (.inr (.inr (.inl e)));omega
  ·rcases uh HT9 with e' | e'
   ·have:=uh LX k (.inr (.inr (.inr (.inl (e'.symm.trans e)))));omega
   ·rw [e'] at e
    have e8:=Option.some.inj e;have:=hba.size;omega
  ·have:=uh LX k (.inr (.inr (.inr (.inr (.inl e)))));omega
  ·have:=uh LX k (.inr (.inr (.inr (.inr (.inr e)))));omega)
 replace kx:Hid (Blk (w9.setCell ⟨xb,2,none⟩ (.slice a9 n1 c9)) xb 32 #[.slice xa0 m.rm.length xp0,.slice xa1 m.gd.length xp1,.slice a9 n1 c9,.slice xa3 m.dk.length xp3,.slice xa4 m.pc.length xp4,.int .i64 m.now]):=Z9 (((uh kx).same (hown xb hxbl (fun e=>by have:=hx2 _ e;omega))).set 2 _);replace ko:Hid (Blk (w9.setCell ⟨xb,2,none⟩ (.slice a9 n1 c9)) ob 32 #[.slice b0 m.rm.length q0,.slice b1 m.gd.length q1,.slice b2 m.sm.length q2,.slice b3 m.dk.length q3,.slice b4 m.pc.length q4,.int .i64 m.now]):=Z9 (((uh ko).same (hown ob (uh ko).lt (fun e=>by have:=hx2o _ e;omega))).other (a:=⟨xb,2,none⟩) (by show ob ≠ xb;omega) _);replace kr:Hid (Blk (w9.setCell ⟨xb,2,none⟩ (.slice a9 n1 c9)) (w.heap.size+1) 32 #[.slice none 0 0,.slice none 0 0,.slice none 0 0,.slice none 0 0,.slice none 0 0,.int .i64 0]):=Z9 (((uh kr).same (hown (w.heap.size+1) (uh kr).lt (fun e=>by have:=hx2o _ e;omega))).other (a:=⟨xb,2,none⟩) (by show (w.heap.size+1) ≠ xb;omega) _);replace HO:Hid (FullSmy (w.heap.size+2) (w9.setCell ⟨xb,2,none⟩ (.slice a9 n1 c9)) (.slice b0 m.rm.length q0) (.slice b1 m.gd.length q1) (.slice b2 m.sm.length q2) (.slice b3 m.dk.length q3) (.slice b4 m.pc.length q4) m oq):=Z9 (((uh HO).keep (fun k e0=>hown k ((uh HO).own e0).2 (fun e=>by have:=hx2o k e;have:=(uh LO k e0).2;omega))).set_off (fun k e=>by have:=(uh LO k e).2;omega) _ _);have HP:Hid (FullSmy (w.heap.size+2) (w9.setCell ⟨xb,2,none⟩ (.slice a9 n1 c9)) (.slice xa0 m.rm.length xp0) (.slice xa1 m.gd.length xp1) (.slice a9 n1 c9) (.slice xa3 m.dk.length xp3) (.slice xa4 m.pc.length xp4) (pushS m (Ye rank may guild)) xq):=Z9 (hP.set_off (fun k e=>(uh LX9 k e).2) _ _);replace BB:Hid (Below w.heap.size w (w9.setCell ⟨xb,2,none⟩ (.slice a9 n1 c9))):=Z9 (((((uh BB).trans (hba.mono (uh BB).size)).trans ((Z1 _ _).grown (uh HG9) (by have:=hba.size;omega) (fun k e=>by have:=hx2o k e;omega)))).setCell (p:=⟨xb,2,none⟩) (by show w.heap.size<=xb;omega) _);clear LX HY HG9 HT9 HP9 hP hown hx2o hx2 hba hxbl kb Hv ks hsz4;have LX:=LX9;clear LX9;generalize w9.setCell ⟨xb,2,none⟩ (.slice a9 n1 c9)=W5 at *;have hl1:(m.sm++[Ye rank may guild]).length=n1:=by rw [uh Hn1];simp
 obtain ⟨g2,hga,_,_,_,_⟩:=RecAt.view ZX (by omega) (uh HP).sm hl1.symm (by show 0<(m.sm++[Ye rank may guild]).length;omega);cases hga;have hg2o:=(uh LX g2 (.inr (.inr (.inr (.inl rfl)))))
 obtain ⟨b,hb⟩:∃ q,Lt m (Ye rank may guild)=q:=⟨_,rfl⟩
 have Hb:=Z9 hb;have Hb2:Hid (YQ (pushS m (Ye rank may guild)) (m.sm.length:Int)=b):=Z9 hb;clear hb;obtain ⟨z0,z1,z2,z3,z4,z5⟩:=(uh kx).c6;go_wp2_with fail;clear z0 z1 z2 z3 z4 z5;refine (Wc (m:=pushS m (Ye rank may guild)) (who:=m.sm.length) (uh HP).smy (uh HLx).sane (Tn (uh HLx)) (uh HAx)).mono ?_;rw [uh Hb2];rintro e w5 ⟨rfl,hb⟩;replace kx:=bl kx hb;replace ko:=bl ko hb;replace kr:=bl kr hb;replace HO:=Z9 ((uh HO).below hb);replace HP:=Z9 ((uh HP).below hb);replace BB:=bt BB hb;clear hb;by_cases hbn:b<0
 ·
  obtain ⟨x0,x1,x2,x3,x4,x5⟩:=(uh ko).c6;obtain ⟨o0,o1,o2,o3,o4,o5⟩:=(uh kr).c6;obtain ⟨f0,f1,f2,f3,f4,f5⟩:=(uh kr).f6;go_wp2_with fail;have hX0:X=(m,2):=by rw [<-uh HX];unfold S7;rw [uh Hok,uh Hsk];simp only [if_true,Bool.true_and];rw [show decide (guild<(m.gd.length:Int))=true from decide_eq_true (uh Hg)];simp only [if_true];rw [if_neg (uh Hl),uh Hb,if_pos hbn]
  exact ZS (v:= .tuple #[.agg #[.slice b0 m.rm.length q0,.slice b1 m.gd.length q1,.slice b2 m.sm.length q2,.slice b3 m.dk.length q3,.slice b4 m.pc.length q4,.int .i64 m.now],.int .i64 2]) (by simp [results,Tryz.results10,go_sem, *]) rfl (Zb hX0 rfl (uh HO) (uh BB))
 obtain ⟨bb,hbb,rfl⟩:∃ bb:Nat,bb<m.dk.length/\b=(bb:Int):=by
  rcases VS (pushS m (Ye rank may guild)) (m.sm.length:Int) with ⟨e,_⟩ | ⟨bb,hbl,e,_⟩
  ·rw [uh Hb2] at e;omega
  ·exact ⟨bb,hbl,(uh Hb2).symm.trans e⟩
 go_wp2_with fail;have hofX:∀ k,Wg (.slice xa0 m.rm.length xp0) (.slice xa1 m.gd.length xp1) (.slice (some ⟨g2,0,none⟩) n1 c9) (.slice xa3 m.dk.length xp3) (.slice xa4 m.pc.length xp4) xq k->k ≠ xb:=fun k e=>by have:=(uh LX k e).2;omega
 refine (Mb (m:=pushS m (Ye rank may guild)) (k:=m.sm.length) (uh kx) (uh HP) (fun e=>hofX _ (.inr (.inr (.inr (.inl e)))) rfl) (fun e=>hofX _ (.inr (.inr (.inr (.inr (.inl e))))) rfl) (by show m.sm.length<(m.sm++[Ye rank may guild]).length;omega) (bb:Int)).mono ?_;rintro e w7 ⟨rfl,hf7,ht7⟩
 have hW:((2,(bb:Int),(Z8 (pushS m (Ye rank may guild)).sm m.sm.length).2.2):Z3)=(2,(bb:Int),rank,may,guild,0,1024,0,0,0,0):=by
  show ((2,(bb:Int),(Z8 (m.sm++[Ye rank may guild]) m.sm.length).2.2):Z3)=_;rw [hrn];rfl
 rw [hW] at hf7;replace kx:=Z9 ((uh kx).two ht7 (fun e=>hofX _ (.inr (.inr (.inr (.inl e)))) rfl) (fun e=>hofX _ (.inr (.inr (.inr (.inr (.inl e))))) rfl));replace kr:=Z9 ((uh kr).two ht7 (fun e=>by have:=(uh LX _ (.inr (.inr (.inr (.inl e))))).1;omega) (fun e=>by have:=(uh LX _ (.inr (.inr (.inr (.inr (.inl e)))))).1;omega));replace BB:=Z9 ((uh BB).trans (ht7.below (uh BB).size (fun k e=>by have:=(uh LX k (.inr (.inr (.inr (.inl e))))).1;omega) (fun k e=>by have:=(uh LX k (.inr (.inr (.inr (.inr (.inl e)))))).1;omega)));replace HP:=Z9 hf7;clear hf7 ht7 hW hofX HO ko;obtain ⟨mk,hmk⟩:∃ q,(Z8 m.dk bb).2.2=q:=⟨_,rfl⟩
 have Hmk:Hid (Xy m (bb:Int)=mk):=Z9 (by unfold Xy;simpa using hmk);obtain ⟨g3,hga,_,_,hc3,_⟩:=RecAt.view Zu (by omega) (uh HP).dk rfl (by show 0<m.dk.length;omega);cases hga;have d2:=hc3 bb hbb 2 (.int .i64 mk) (by rw [<-hmk];rfl);clear hc3 hmk;have hl2:((m.sm++[Ye rank may guild]).set m.sm.length ((2:Int),(bb:Int),rank,may,guild,(0:Int),(1024:Int),(0:Int),(0:Int),(0:Int),(0:Int))).length=n1:=by rw [V7];exact hl1
 obtain ⟨_,hga,_,_,hc2,hz2⟩:=RecAt.view ZX (by omega) (uh HP).sm hl2.symm (by show 0<((m.sm++[Ye rank may guild]).set m.sm.length _).length;omega);cases hga;have hr2:Z8 ((m.sm++[Ye rank may guild]).set m.sm.length ((2:Int),(bb:Int),rank,may,guild,(0:Int),(1024:Int),(0:Int),(0:Int),(0:Int),(0:Int))) m.sm.length=((2:Int),(bb:Int),rank,may,guild,(0:Int),(1024:Int),(0:Int),(0:Int),(0:Int),(0:Int)):=by rw [ZJ (by omega),if_pos rfl]
 have s7:=hc2 m.sm.length (by show m.sm.length<((m.sm++[Ye rank may guild]).set m.sm.length _).length;omega) 7 (.int .i64 0) (by show (ZU (Z8 ((m.sm++[Ye rank may guild]).set m.sm.length ((2:Int),(bb:Int),rank,may,guild,(0:Int),(1024:Int),(0:Int),(0:Int),(0:Int),(0:Int))) m.sm.length))[7]?=_;rw [hr2];rfl);have f7:=hz2 (m.sm.length*11+7);have hput:=(uh HP).putS hl2.symm (j:=m.sm.length) (i:=7) (by show m.sm.length<((m.sm++[Ye rank may guild]).set m.sm.length _).length;omega) (by omega) (.int .i64 mk) (Qk (Ye rank may guild) (bb:Int) mk) (by show ZU _=(ZU (Z8 ((m.sm++[Ye rank may guild]).set m.sm.length ((2:Int),(bb:Int),rank,may,guild,(0:Int),(1024:Int),(0:Int),(0:Int),(0:Int),(0:Int))) m.sm.length)).set 7 _;rw [hr2];rfl);simp only [setS,List.set_set] at hput;have HQ:Hid (FullSmy (w.heap.size+2) (w7.setCell ⟨g2,m.sm.length*11+7,none⟩ (.int .i64 mk)) (.slice xa0 m.rm.length xp0) (.slice xa1 m.gd.length xp1) (.slice (some ⟨g2,0,none⟩) n1 c9) (.slice (some ⟨g3,0,none⟩) m.dk.length xp3) (.slice xa4 m.pc.length xp4) (setS (pushS m (Ye rank may guild)) m.sm.length (Qk (Ye rank may guild) (bb:Int) mk)) xq):=Z9 hput;clear hput hc2 hz2 hr2 hl2;have x2:=(uh kx).cell (i:=2) (v:= .slice (some ⟨g2,0,none⟩) n1 c9) rfl;have x3:=(uh kx).cell (i:=3) (v:= .slice (some ⟨g3,0,none⟩) m.dk.length xp3) rfl;have hbb2:(bb:Int)<(m.dk.length:Int):=by omega
 go_wp2_with fail;refine ZP (S:=fun w'=>w'.cell? ⟨xb,2,none⟩=some (.slice (some ⟨g2,0,none⟩) n1 c9)/\w'.cell? ⟨xb,3,none⟩=some (.slice (some ⟨g3,0,none⟩) m.dk.length xp3)/\w'.cell? ⟨g3,bb*3+2,none⟩=some (.int .i64 mk)) (by kernel_rfl) (Xs _ _) (by kernel_rfl) ⟨x2,x3,d2⟩ (fun hHeld=> ?_);simp only [Xt,Xu,YT,YM,Nat.zero_add,Nat.reduceAdd]
 iterate 11 refine tz ?_
 refine wpAnyH_done (by kernel_rfl) ?_ _;refine ZF rfl rfl ?_;go_simp;clear hHeld x2 x3 d2 s7 f7;go_wp2_with fail;replace kx:Hid (Blk ((w7.setCell ⟨g2,m.sm.length*11+7,none⟩ (.int .i64 mk)).drew) xb 32 #[.slice xa0 m.rm.length xp0,.slice xa1 m.gd.length xp1,.slice (some ⟨g2,0,none⟩) n1 c9,.slice (some ⟨g3,0,none⟩) m.dk.length xp3,.slice xa4 m.pc.length xp4,.int .i64 m.now]):=Z9 (((uh kx).other (a:=⟨g2,m.sm.length*11+7,none⟩) (by show xb ≠ g2;omega) (.int .i64 mk)).below (Z1 _ _).drew ((uh kx).other (a:=⟨g2,m.sm.length*11+7,none⟩) (by show xb ≠ g2;omega) (.int .i64 mk)).lt);replace kr:Hid (Blk ((w7.setCell ⟨g2,m.sm.length*11+7,none⟩ (.int .i64 mk)).drew) (w.heap.size+1) 32 #[.slice none 0 0,.slice none 0 0,.slice none 0 0,.slice none 0 0,.slice none 0 0,.int .i64 0]):=Z9 (((uh kr).other (a:=⟨g2,m.sm.length*11+7,none⟩) (by show (w.heap.size+1) ≠ g2;omega) (.int .i64 mk)).below (Z1 _ _).drew ((uh kr).other (a:=⟨g2,m.sm.length*11+7,none⟩) (by show (w.heap.size+1) ≠ g2;omega) (.int .i64 mk)).lt);replace BB:Hid (Below w.heap.size w ((w7.setCell ⟨g2,m.sm.length*11+7,none⟩ (.int .i64 mk)).drew)):=Z9 ((uh BB).setCell (p:=⟨g2,m.sm.length*11+7,none⟩) (by show w.heap.size<=g2;omega) (.int .i64 mk)).drew;replace HP:=Z9 ((uh HQ).below (Z1 _ _).drew);clear HQ;generalize (w7.setCell ⟨g2,m.sm.length*11+7,none⟩ (.int .i64 mk)).drew=W8 at *;have hfw:=uh HFew;refine (UZ (m:=setS (pushS m (Ye rank may guild)) m.sm.length (Qk (Ye rank may guild) (bb:Int) mk)) (uh kx) (uh HP) (fun k e=>by have:=(uh LX k e).2;omega) (uh kr) (uh BB) (by show ((m.sm++[Ye rank may guild]).set m.sm.length _).length<=800;have:=Yz (uh HLo);simp;omega) hfw.dk).mono ?_;clear kr BB;rintro e w9 ⟨rfl,HF9,kr,BB⟩;obtain ⟨o0,o1,o2,o3,o4,o5⟩:=(uh kr).c6;obtain ⟨f0,f1,f2,f3,f4,f5⟩:=(uh kr).f6;go_wp2_with fail;have hX0:X=(ZN (setS (pushS m (Ye rank may guild)) m.sm.length (Qk (Ye rank may guild) (bb:Int) mk)),0):=by rw [<-uh HX];unfold S7;rw [uh Hok,uh Hsk];simp only [if_true,Bool.true_and];rw [show decide (guild<(m.gd.length:Int))=true from decide_eq_true (uh Hg)];simp only [if_true];rw [if_neg (uh Hl),uh Hb,if_neg (by omega),uh Hmk]
 have hnow:(ZN (setS (pushS m (Ye rank may guild)) m.sm.length (Qk (Ye rank may guild) (bb:Int) mk))).now=m.now:=(ZG _ _).2.2.2.1;exact ZS (v:= .tuple #[.agg #[.slice xa0 m.rm.length xp0,.slice xa1 m.gd.length xp1,.slice (some ⟨g2,0,none⟩) n1 c9,.slice (some ⟨g3,0,none⟩) m.dk.length xp3,.slice xa4 m.pc.length xp4,.int .i64 m.now],.int .i64 0]) (by simp [results,Tryz.results10,go_sem,setS,TI,Yc,pushS, *]) rfl (Zb hX0 hnow (uh HF9) (uh BB))
theorem JA  (who:Int) (h:Smy w v0 v1 v2 v3 v4 m) :
  Calls Tryz.prog 252 #[.agg #[v0,v1,v2,v3,v4,.int .i64 m.now],.int .i64 who] w fun e w'=>TX w.heap.size (RL m who).1 (RL m who).2 e w'/\Below w.heap.size w w':=by
 obtain ⟨X,hX⟩:∃ x,RL m who=x:=⟨_,rfl⟩
 rw [hX];have HX:=Z9 hX;clear hX;have Hv0:=Z9 h;obtain ⟨a0,p0,a1,p1,a2,p2,a3,p3,a4,p4,rfl,rfl,rfl,rfl,rfl,_,_,_,_,_,_,_,_,_,_⟩:=h.five;clear h;obtain ⟨ok,hok⟩:∃ q,ZI m=q:=⟨_,rfl⟩
 have Hok:=Z9 hok;clear hok;go_enter Tryz.func252,Tryz.ntmps252;go_wp2_with fail;obtain ⟨W,hW,kb,kr,BB⟩:=YG w 32 (S6 a0 p0 a1 p1 a2 p2 a3 p3 a4 p4 m) 32 E6;have Hv:=Z9 ((uh Hv0).below (uh BB));clear Hv0;rw [hW];clear hW;refine ck (XN (uh Hok) (uh Hv)) fun w1 hb=> ?_;replace kb:=bl kb hb;replace kr:=bl kr hb;replace Hv:=Z9 ((uh Hv).below hb);replace BB:=bt BB hb;clear hb;cases ok
 ·
  obtain ⟨c0,c1,c2,c3,c4,c5⟩:=(uh kb).c6;go_wp2_with fail;clear c0 c1 c2 c3 c4 c5;refine ck (XY (uh Hv)) fun w2 hb=> ?_;replace kb:=bl kb hb;replace kr:=bl kr hb;replace Hv:=Z9 ((uh Hv).below hb);replace BB:=bt BB hb;clear hb;obtain ⟨o0,o1,o2,o3,o4,o5⟩:=(uh kr).c6;obtain ⟨f0,f1,f2,f3,f4,f5⟩:=(uh kr).f6;go_wp2_with fail;have hX0:X=(Yj,3):=by rw [<-uh HX];unfold RL;rw [uh Hok];rfl
  exact ZS (v:= .tuple #[.agg E6,.int .i64 3]) (by simp [results,Tryz.results252,go_sem, *]) rfl (Zb hX0 rfl (Yr _ _) (uh BB))
 have hlo:=ZK (uh Hok);have HLo:=Z9 hlo;have HFew:=Z9 (WK hlo);clear hlo;obtain ⟨c0,c1,c2,c3,c4,c5⟩:=(uh kb).c6;go_wp2_with fail;clear c0 c1 c2 c3 c4 c5;refine (T6 (uh Hv) (uh HFew) (uh kb) (uh kr) (uh BB)).mono ?_;clear kb kr Hv BB;rintro e w2 ⟨b0,q0,b1,q1,b2,q2,b3,q3,b4,q4,oq,rfl,W2,ob,hW2,hob2,kb,kr,Hv,HO,ko,LO,hob,BB⟩;go_upto_region 4 with fail
 (try rw [hW2])
 (try rw [hob2])
 clear hW2 hob2;obtain ⟨qw,hqw⟩:∃ q,WU m who=q:=⟨_,rfl⟩
 have Hqw:=Z9 hqw;clear hqw;obtain ⟨c0,c1,c2,c3,c4,c5⟩:=(uh kb).c6;go_wp2_with fail;clear c0 c1 c2 c3 c4 c5;refine ck (Ul (uh Hqw) (uh Hv)) fun w3 hb=> ?_;replace kb:=bl kb hb;replace kr:=bl kr hb;replace Hv:=Z9 ((uh Hv).below hb);replace HO:=Z9 ((uh HO).below hb);replace ko:=bl ko hb;replace BB:=bt BB hb;clear hb;cases qw
 ·
  obtain ⟨x0,x1,x2,x3,x4,x5⟩:=(uh ko).c6;obtain ⟨o0,o1,o2,o3,o4,o5⟩:=(uh kr).c6;obtain ⟨f0,f1,f2,f3,f4,f5⟩:=(uh kr).f6;go_wp2_with fail;have hX0:X=(m,1):=by rw [<-uh HX];unfold RL;rw [uh Hok,uh Hqw];rfl
  exact ZS (v:= .tuple #[.agg (S6 b0 q0 b1 q1 b2 q2 b3 q3 b4 q4 m),.int .i64 1]) (by simp [results,Tryz.results252,go_sem, *]) rfl (Zb hX0 rfl (uh HO) (uh BB))
 obtain ⟨k,rfl,hk,hs0⟩:=Yl (uh Hqw);have hk1:(k:Int)<(m.sm.length:Int):=by omega
 obtain ⟨_,_,hse,_,_,r2⟩:=(uh Hv).sm;cases hse
 rcases r2 with e0 | ⟨sb,off,rfl,hbw,hcl⟩
 ·rw [e0] at hk;simp at hk
 obtain ⟨d0,d1,d2,d3,d4,d5,d6,d7,d8,d9,d10⟩:=Zw hcl hk;clear hcl;obtain ⟨ps,hps⟩:∃ q,ZL (Z8 m.sm k)=q:=⟨_,rfl⟩
 have Hps:=Z9 hps;obtain ⟨⟨st,be,rk,my,gu,lo,hi,hd,ca,ut,wk⟩,hrk⟩:∃ d,Z8 m.sm k=d:=⟨_,rfl⟩
 rw [hrk] at d0 d1 d2 d3 d4 d5 d6 d7 d8 d9 d10 hps;simp only at d0 d1 d2 d3 d4 d5 d6 d7 d8 d9 d10;have c2:=(uh kb).cell (i:=2) (v:= .slice (some ⟨sb,off,none⟩) m.sm.length p2) rfl;have Hpt:=Z9 hps;clear hps;go_wp2_with fail;refine ck (Yu (uh Hpt) _) fun w4 hb=> ?_;replace kb:=bl kb hb;replace kr:=bl kr hb;replace Hv:=Z9 ((uh Hv).below hb);replace HO:=Z9 ((uh HO).below hb);replace ko:=bl ko hb;replace BB:=bt BB hb;clear hb d0 d1 d2 d3 d4 d5 d6 d7 d8 d9 d10 c2;cases ps
 ·
  obtain ⟨x0,x1,x2,x3,x4,x5⟩:=(uh ko).c6;obtain ⟨o0,o1,o2,o3,o4,o5⟩:=(uh kr).c6;obtain ⟨f0,f1,f2,f3,f4,f5⟩:=(uh kr).f6;go_wp2_with fail;have hX0:X=(m,2):=by rw [<-uh HX];unfold RL;rw [uh Hok,uh Hqw];simp only [if_true,Zz];rw [uh Hps];rfl
  exact ZS (v:= .tuple #[.agg (S6 b0 q0 b1 q1 b2 q2 b3 q3 b4 q4 m),.int .i64 2]) (by simp [results,Tryz.results252,go_sem, *]) rfl (Zb hX0 rfl (uh HO) (uh BB))
 obtain ⟨g2,hga,_,_,hc2,hz2⟩:=RecAt.view ZX (by omega) (uh HO).sm rfl (by omega);cases hga;have s0:=hc2 k hk 0 _ rfl;have f0:=hz2 (k*11);have x2:=(uh ko).cell (i:=2) (v:= .slice (some ⟨g2,0,none⟩) m.sm.length q2) rfl;have hput:=(uh HO).putS rfl (j:=k) (i:=0) hk (by omega) (.int .i64 1) (stS (Z8 m.sm k) 1) rfl;simp only [Nat.add_zero] at s0 hput;have hg2o:=(uh LO g2 (.inr (.inr (.inr (.inl rfl)))))
 clear hc2 hz2;go_upto_region 9 with fail;clear s0 f0 x2;have HP:=Z9 hput;clear hput HO;replace ko:Hid (Blk (w4.setCell ⟨g2,k*11,none⟩ (.int .i64 1)) ob 32 (S6 b0 q0 b1 q1 (some ⟨g2,0,none⟩) q2 b3 q3 b4 q4 m)):=Z9 ((uh ko).other (a:=⟨g2,k*11,none⟩) (by show ob ≠ g2;omega) _);replace kr:Hid (Blk (w4.setCell ⟨g2,k*11,none⟩ (.int .i64 1)) (w.heap.size+1) 32 E6):=Z9 ((uh kr).other (a:=⟨g2,k*11,none⟩) (by show w.heap.size+1 ≠ g2;omega) _);replace BB:Hid (Below w.heap.size w (w4.setCell ⟨g2,k*11,none⟩ (.int .i64 1))):=Z9 ((uh BB).setCell (p:=⟨g2,k*11,none⟩) (by show w.heap.size<=g2;omega) _);clear kb Hv;generalize w4.setCell ⟨g2,k*11,none⟩ (.int .i64 1)=W3 at *;have hfw:=uh HFew;go_wp2_with fail;refine (UZ (m:=setS m k (stS (Z8 m.sm k) 1)) (uh ko) (uh HP) (fun k e=>by have:=(uh LO k e).2;omega) (uh kr) (uh BB) (by show (m.sm.set k _).length<=800;have:=hfw.sm;simp;omega) hfw.dk).mono ?_;clear kr BB;rintro e w5 ⟨rfl,HF9,kr,BB⟩;obtain ⟨o0,o1,o2,o3,o4,o5⟩:=(uh kr).c6;obtain ⟨f0,f1,f2,f3,f4,f5⟩:=(uh kr).f6;go_wp2_with fail;have hX0:X=(ZN (setS m k (stS (Z8 m.sm k) 1)),0):=by rw [<-uh HX];unfold RL;rw [uh Hok,uh Hqw];simp only [if_true,Zz];rw [uh Hps];rfl
 have hnow:(ZN (setS m k (stS (Z8 m.sm k) 1))).now=m.now:=(ZG _ _).2.2.2.1;exact ZS (v:= .tuple #[.agg (S6 b0 q0 b1 q1 (some ⟨g2,0,none⟩) q2 b3 q3 b4 q4 m),.int .i64 0]) (by simp [results,Tryz.results252,go_sem,setS,TI,Yc,pushS, *]) rfl (Zb hX0 hnow (uh HF9) (uh BB))
theorem La  (who:Int) (h:Smy w v0 v1 v2 v3 v4 m) :
  Calls Tryz.prog 253 #[.agg #[v0,v1,v2,v3,v4,.int .i64 m.now],.int .i64 who] w fun e w'=>TX w.heap.size (TE m who).1 (TE m who).2 e w'/\Below w.heap.size w w':=by
 obtain ⟨X,hX⟩:∃ x,TE m who=x:=⟨_,rfl⟩
 rw [hX];have HX:=Z9 hX;clear hX;have Hv0:=Z9 h;obtain ⟨a0,p0,a1,p1,a2,p2,a3,p3,a4,p4,rfl,rfl,rfl,rfl,rfl,_,_,_,_,_,_,_,_,_,_⟩:=h.five;clear h;obtain ⟨ok,hok⟩:∃ q,ZI m=q:=⟨_,rfl⟩
 have Hok:=Z9 hok;clear hok;go_enter Tryz.func253,Tryz.ntmps253;go_wp2_with fail;obtain ⟨W,hW,kb,kr,BB⟩:=YG w 32 (S6 a0 p0 a1 p1 a2 p2 a3 p3 a4 p4 m) 32 E6;have Hv:=Z9 ((uh Hv0).below (uh BB));clear Hv0;rw [hW];clear hW;refine ck (XN (uh Hok) (uh Hv)) fun w1 hb=> ?_;replace kb:=bl kb hb;replace kr:=bl kr hb;replace Hv:=Z9 ((uh Hv).below hb);replace BB:=bt BB hb;clear hb;cases ok
 ·
  obtain ⟨c0,c1,c2,c3,c4,c5⟩:=(uh kb).c6;go_wp2_with fail;clear c0 c1 c2 c3 c4 c5;refine ck (XY (uh Hv)) fun w2 hb=> ?_;replace kb:=bl kb hb;replace kr:=bl kr hb;replace Hv:=Z9 ((uh Hv).below hb);replace BB:=bt BB hb;clear hb;obtain ⟨o0,o1,o2,o3,o4,o5⟩:=(uh kr).c6;obtain ⟨f0,f1,f2,f3,f4,f5⟩:=(uh kr).f6;go_wp2_with fail;have hX0:X=(Yj,3):=by rw [<-uh HX];unfold TE;rw [uh Hok];rfl
  exact ZS (v:= .tuple #[.agg E6,.int .i64 3]) (by simp [results,Tryz.results253,go_sem, *]) rfl (Zb hX0 rfl (Yr _ _) (uh BB))
 have hlo:=ZK (uh Hok);have HLo:=Z9 hlo;have HFew:=Z9 (WK hlo);clear hlo;obtain ⟨c0,c1,c2,c3,c4,c5⟩:=(uh kb).c6;go_wp2_with fail;clear c0 c1 c2 c3 c4 c5;refine (T6 (uh Hv) (uh HFew) (uh kb) (uh kr) (uh BB)).mono ?_;clear kb kr Hv BB;rintro e w2 ⟨b0,q0,b1,q1,b2,q2,b3,q3,b4,q4,oq,rfl,W2,ob,hW2,hob2,kb,kr,Hv,HO,ko,LO,hob,BB⟩;go_upto_region 4 with fail
 (try rw [hW2])
 (try rw [hob2])
 clear hW2 hob2;obtain ⟨qw,hqw⟩:∃ q,WU m who=q:=⟨_,rfl⟩
 have Hqw:=Z9 hqw;clear hqw;obtain ⟨c0,c1,c2,c3,c4,c5⟩:=(uh kb).c6;go_wp2_with fail;clear c0 c1 c2 c3 c4 c5;refine ck (Ul (uh Hqw) (uh Hv)) fun w3 hb=> ?_;replace kb:=bl kb hb;replace kr:=bl kr hb;replace Hv:=Z9 ((uh Hv).below hb);replace HO:=Z9 ((uh HO).below hb);replace ko:=bl ko hb;replace BB:=bt BB hb;clear hb;cases qw
 ·
  obtain ⟨x0,x1,x2,x3,x4,x5⟩:=(uh ko).c6;obtain ⟨o0,o1,o2,o3,o4,o5⟩:=(uh kr).c6;obtain ⟨f0,f1,f2,f3,f4,f5⟩:=(uh kr).f6;go_wp2_with fail;have hX0:X=(m,1):=by rw [<-uh HX];unfold TE;rw [uh Hok,uh Hqw];rfl
  exact ZS (v:= .tuple #[.agg (S6 b0 q0 b1 q1 b2 q2 b3 q3 b4 q4 m),.int .i64 1]) (by simp [results,Tryz.results253,go_sem, *]) rfl (Zb hX0 rfl (uh HO) (uh BB))
 obtain ⟨k,rfl,hk,hs0⟩:=Yl (uh Hqw);have hk1:(k:Int)<(m.sm.length:Int):=by omega
 obtain ⟨g2,hga,_,_,hc2,hz2⟩:=RecAt.view ZX (by omega) (uh HO).sm rfl (by omega);cases hga;have hg2o:=(uh LO g2 (.inr (.inr (.inr (.inl rfl)))))
 have x2:=(uh ko).cell (i:=2) (v:= .slice (some ⟨g2,0,none⟩) m.sm.length q2) rfl;obtain ⟨s0,s1,s2,s3,s4,s5,s6,s7,s8,s9,s10⟩:=ET (hc2 k hk);obtain ⟨g0,g1,g2,g3,g4,g5,g6,g7,g8,g9,g10⟩:=BL hz2 (k*11);simp only [Nat.add_zero] at s0 g0;have HP:=Z9 ((uh HO).putW rfl hk (0,0,0,0,0,0,0,0,0,0,0));clear hc2 hz2 HO;go_upto_region 7 with fail;clear x2 s0 g0 s1 g1 s2 g2 s3 g3 s4 g4 s5 g5 s6 g6 s7 g7 s8 g8 s9 g9 s10 g10;rw [AX];replace ko:=MC (g:=g2) (by omega) (ZU (0,0,0,0,0,0,0,0,0,0,0)) (o:=k*11) ko;replace kr:=MC (g:=g2) (by omega) (ZU (0,0,0,0,0,0,0,0,0,0,0)) (o:=k*11) kr;replace BB:=EV (g:=g2) (by omega) (ZU (0,0,0,0,0,0,0,0,0,0,0)) (o:=k*11) BB;clear kb Hv;generalize QG w3 g2 (k*11) (ZU (0,0,0,0,0,0,0,0,0,0,0))=W3 at *;have hfw:=uh HFew;go_wp2_with fail;refine (UZ (m:=setS m k Vf) (uh ko) (uh HP) (fun k e=>by have:=(uh LO k e).2;omega) (uh kr) (uh BB) (by show (m.sm.set k _).length<=800;have:=hfw.sm;simp;omega) hfw.dk).mono ?_;clear kr BB;rintro e w4 ⟨rfl,HF9,kr,BB⟩;obtain ⟨o0,o1,o2,o3,o4,o5⟩:=(uh kr).c6;obtain ⟨f0,f1,f2,f3,f4,f5⟩:=(uh kr).f6;go_wp2_with fail;have hX0:X=(ZN (setS m k Vf),0):=by rw [<-uh HX];unfold TE;rw [uh Hok,uh Hqw];simp only [if_true,Zz]
 have hnow:(ZN (setS m k Vf)).now=m.now:=(ZG _ _).2.2.2.1;exact ZS (v:= .tuple #[.agg (S6 b0 q0 b1 q1 (some ⟨g2,0,none⟩) q2 b3 q3 b4 q4 m),.int .i64 0]) (by simp [results,Tryz.results253,go_sem,setS,TI,Yc,pushS, *]) rfl (Zb hX0 hnow (uh HF9) (uh BB))
open Go.ChangeShapes Go.WideShapes Go.ChangeAt Go.RowKit Go.Sort Go.Deep
theorem Fb (rank:Int) (w:World):Calls Tryz.prog 76 #[.agg E11,.int .i64 rank] w fun e w'=>e= .returned (.tuple #[.agg E11,.bool false])/\Below w.heap.size w w':=by
 have Hs:Hid (Zx (0,0,0,0,0,0,0,0,0,0,0)=true):=Z9 rfl;go_enter Tryz.func76,Tryz.ntmps76;go_wp2_with fail;refine (Zm 0 0 0 0 0 0 0 0 0 0 0 _).mono ?_;rw [uh Hs];rintro e w1 ⟨rfl,hb⟩;have kb:Blk w1 w.heap.size 40 E11:=((Blk.new w 40 E11).alloc _).below hb (by simp;omega)
 have ko:Blk w1 (w.heap.size+1) 40 E11:=by
  have k:=Blk.new (w.alloc (.cells E11 40)) 40 E11;rw [ZB] at k;exact k.below hb (by simp)
 have hsz:w.heap.size+2<=w1.heap.size:=by have:=hb.size;simp at this;omega
 have hl0:w.heap.size<w1.heap.size:=by omega
 have hl1:w.heap.size+1<w1.heap.size:=by omega
 have B1:=Z9 ((((Z1 w.heap.size w).alloc (Z2 _) _).alloc (by simp) _).trans (hb.mono (by simp;omega)));have Kb:=Z9 kb;have Ko:=Z9 ko;obtain ⟨c0,c1,c2,c3,c4,c5,c6,c7,c8,c9,c10⟩:=kb.c11;obtain ⟨o0,o1,o2,o3,o4,o5,o6,o7,o8,o9,o10⟩:=ko.c11;obtain ⟨of0,of1,of2,of3,of4,of5,of6,of7,of8,of9,of10⟩:=ko.f11;clear hb kb ko;go_wp2_with fail;refine ZS (v:= .tuple #[.agg E11,.bool false]) (by simp [results,Tryz.results76,go_sem,o0,o1,o2,o3,o4,o5,o6,o7,o8,o9,o10]) rfl ⟨rfl,?_⟩
 iterate 11 (refine YS ?_ (by simp) _)
 exact uh B1
theorem Ip {st be rk my gu lo hi hd ca ut wk:Int} (rank:Int) (w:World) (hs:Zx (st,be,rk,my,gu,lo,hi,hd,ca,ut,wk)=false):Calls Tryz.prog 76 #[.agg (I11 st be rk my gu lo hi hd ca ut wk),.int .i64 rank] w fun e w'=>e= .returned (.tuple #[.agg E11,.bool false])/\Below w.heap.size w w':=by
 have Hs:=Z9 hs;clear hs;go_enter Tryz.func76,Tryz.ntmps76;go_wp2_with fail;refine (Zm st be rk my gu lo hi hd ca ut wk _).mono ?_;rw [uh Hs];rintro e w1 ⟨rfl,hb⟩;have kb:Blk w1 w.heap.size 40 (I11 st be rk my gu lo hi hd ca ut wk):=((Blk.new w 40 (I11 st be rk my gu lo hi hd ca ut wk)).alloc _).below hb (by simp;omega)
 have ko:Blk w1 (w.heap.size+1) 40 E11:=by
  have k:=Blk.new (w.alloc (.cells (I11 st be rk my gu lo hi hd ca ut wk) 40)) 40 E11;rw [ZB] at k;exact k.below hb (by simp)
 have hsz:w.heap.size+2<=w1.heap.size:=by have:=hb.size;simp at this;omega
 have hl0:w.heap.size<w1.heap.size:=by omega
 have hl1:w.heap.size+1<w1.heap.size:=by omega
 have B1:=Z9 ((((Z1 w.heap.size w).alloc (Z2 _) _).alloc (by simp) _).trans (hb.mono (by simp;omega)));have Kb:=Z9 kb;have Ko:=Z9 ko;obtain ⟨c0,c1,c2,c3,c4,c5,c6,c7,c8,c9,c10⟩:=kb.c11;obtain ⟨o0,o1,o2,o3,o4,o5,o6,o7,o8,o9,o10⟩:=ko.c11;obtain ⟨of0,of1,of2,of3,of4,of5,of6,of7,of8,of9,of10⟩:=ko.f11;clear hb kb ko;go_wp2_with fail;refine ZS (v:= .tuple #[.agg E11,.bool false]) (by simp [results,Tryz.results76,go_sem,o0,o1,o2,o3,o4,o5,o6,o7,o8,o9,o10]) rfl ⟨rfl,?_⟩
 iterate 11 (refine YS ?_ (by simp) _)
 exact uh B1
theorem A5 {st be rk my gu lo hi hd ca ut wk:Int} (rank:Int) (w:World) (hs:Zx (st,be,rk,my,gu,lo,hi,hd,ca,ut,wk)=true) (hst:(st ==0)=false) (hw:inB rank (-5) 5=false):Calls Tryz.prog 76 #[.agg (I11 st be rk my gu lo hi hd ca ut wk),.int .i64 rank] w fun e w'=>e= .returned (.tuple #[.agg (I11 st be rk my gu lo hi hd ca ut wk),.bool false])/\Below w.heap.size w w':=by
 have Hs:=Z9 hs;clear hs;go_enter Tryz.func76,Tryz.ntmps76;go_wp2_with fail;refine (Zm st be rk my gu lo hi hd ca ut wk _).mono ?_;rw [uh Hs];rintro e w1 ⟨rfl,hb⟩;have kb:Blk w1 w.heap.size 40 (I11 st be rk my gu lo hi hd ca ut wk):=((Blk.new w 40 (I11 st be rk my gu lo hi hd ca ut wk)).alloc _).below hb (by simp;omega)
 have ko:Blk w1 (w.heap.size+1) 40 E11:=by
  have k:=Blk.new (w.alloc (.cells (I11 st be rk my gu lo hi hd ca ut wk) 40)) 40 E11;rw [ZB] at k;exact k.below hb (by simp)
 have hsz:w.heap.size+2<=w1.heap.size:=by have:=hb.size;simp at this;omega
 have hl0:w.heap.size<w1.heap.size:=by omega
 have hl1:w.heap.size+1<w1.heap.size:=by omega
 have B1:=Z9 ((((Z1 w.heap.size w).alloc (Z2 _) _).alloc (by simp) _).trans (hb.mono (by simp;omega)));have Kb:=Z9 kb;have Ko:=Z9 ko;obtain ⟨c0,c1,c2,c3,c4,c5,c6,c7,c8,c9,c10⟩:=kb.c11;obtain ⟨o0,o1,o2,o3,o4,o5,o6,o7,o8,o9,o10⟩:=ko.c11;obtain ⟨of0,of1,of2,of3,of4,of5,of6,of7,of8,of9,of10⟩:=ko.f11;clear hb kb ko;go_wp2_with (go_at_call 102;refine (YR _ _).mono ?_;rintro e w' ⟨rfl,h9⟩;subst w')
 refine ZS (v:= .tuple #[.agg (I11 st be rk my gu lo hi hd ca ut wk),.bool false]) (by simp [results,Tryz.results76,go_sem,o0,o1,o2,o3,o4,o5,o6,o7,o8,o9,o10]) rfl ⟨rfl,?_⟩
 iterate 11 (refine YS ?_ (by simp) _)
 exact uh B1
theorem CA {st be rk my gu lo hi hd ca ut wk:Int} {rank x:Int} (hx:Zl rank=x) (x0:335<=x) (x1:x<=3125) (a0:0<=ca) (a1:ca<=3125) (hs:Zx (st,be,rk,my,gu,lo,hi,hd,ca,ut,wk)=true) (hst:(st ==0)=false) (hw:inB rank (-5) 5=true):Calls Tryz.prog 76 #[.agg (I11 st be rk my gu lo hi hd ca ut wk),.int .i64 rank] w fun e w'=>e= .returned (.tuple #[.agg (I11 st be rank my gu lo hi hd (ca%x) ut wk),.bool true])/\Below w.heap.size w w':=by
 have Hs:=Z9 hs;have Hx:=Z9 hx;have hne:¬ x=0:=by omega
 clear hx hs;go_enter Tryz.func76,Tryz.ntmps76;go_wp2_with fail;refine (Zm st be rk my gu lo hi hd ca ut wk _).mono ?_;rw [uh Hs];rintro e w1 ⟨rfl,hb⟩;have kb:Blk w1 w.heap.size 40 (I11 st be rk my gu lo hi hd ca ut wk):=((Blk.new w 40 (I11 st be rk my gu lo hi hd ca ut wk)).alloc _).below hb (by simp;omega)
 have ko:Blk w1 (w.heap.size+1) 40 E11:=by
  have k:=Blk.new (w.alloc (.cells (I11 st be rk my gu lo hi hd ca ut wk) 40)) 40 E11;rw [ZB] at k;exact k.below hb (by simp)
 have hsz:w.heap.size+2<=w1.heap.size:=by have:=hb.size;simp at this;omega
 have hl0:w.heap.size<w1.heap.size:=by omega
 have hl1:w.heap.size+1<w1.heap.size:=by omega
 have B1:=Z9 ((((Z1 w.heap.size w).alloc (Z2 _) _).alloc (by simp) _).trans (hb.mono (by simp;omega)));have Kb:=Z9 kb;have Ko:=Z9 ko;obtain ⟨c0,c1,c2,c3,c4,c5,c6,c7,c8,c9,c10⟩:=kb.c11;obtain ⟨o0,o1,o2,o3,o4,o5,o6,o7,o8,o9,o10⟩:=ko.c11;obtain ⟨of0,of1,of2,of3,of4,of5,of6,of7,of8,of9,of10⟩:=ko.f11;clear hb kb ko;have bf2:=(uh Kb).free 2;go_wp2_with (go_at_call 102;refine (YR _ _).mono ?_;rintro e w' ⟨rfl,h9⟩;subst w')
 have kb:Blk (w1.setCell ⟨w.heap.size,2,none⟩ (.int .i64 rank)) w.heap.size 40 (I11 st be rank my gu lo hi hd ca ut wk):=(uh Kb).set 2 (.int .i64 rank);have ko:Blk (w1.setCell ⟨w.heap.size,2,none⟩ (.int .i64 rank)) (w.heap.size+1) 40 E11:=(uh Ko).other (a:=⟨w.heap.size,2,none⟩) (by simp) _;have B2:=Z9 ((uh B1).setCell (p:=⟨w.heap.size,2,none⟩) (Z2 _) (.int .i64 rank));clear c0 o0 of0 c1 o1 of1 c2 o2 of2 c3 o3 of3 c4 o4 of4 c5 o5 of5 c6 o6 of6 c7 o7 of7 c8 o8 of8 c9 o9 of9 c10 o10 of10 bf2 Kb Ko B1 hsz hl0 hl1;generalize w1.setCell ⟨w.heap.size,2,none⟩ (.int .i64 rank)=W2 at *;obtain ⟨c0,c1,c2,c3,c4,c5,c6,c7,c8,c9,c10⟩:=kb.c11;obtain ⟨o0,o1,o2,o3,o4,o5,o6,o7,o8,o9,o10⟩:=ko.c11;obtain ⟨of0,of1,of2,of3,of4,of5,of6,of7,of8,of9,of10⟩:=ko.f11;have bf8:=kb.free 8;clear kb ko
 go_region_with (go_at_call 104;refine (YB (uh Hx) _).mono ?_;rintro e w' ⟨rfl,h9⟩;subst w')
 all_goals
  go_wp2_with fail;refine ZS (v:= .tuple #[.agg (I11 st be rank my gu lo hi hd (ca%x) ut wk),.bool true]) (by simp [results,Tryz.results76,go_sem,o0,o1,o2,o3,o4,o5,o6,o7,o8,o9,o10]) rfl ⟨rfl,?_⟩;refine Below.drew ?_
  iterate 12 (refine YS ?_ (by simp) _)
  exact uh B2
theorem SS {x:Z3} (h:Zh x=true):Zx x=true:=by unfold Zx;rw [h,Bool.or_true]
theorem NB {x:Z3} (rank:Int) (hg:Wt x=true):Zr x rank=(Vf,false):=by
 have e:=Wa hg;subst e;rfl
theorem OV {x:Z3} (rank:Int) (hg:Wt x=false) (hp:Zh x=false):Zr x rank=(Vf,false):=by unfold Zr;rw [hp,hg];rfl
theorem KW {x:Z3} {rank:Int} (hp:Zh x=true) (hw:inB rank (-5) 5=false):Zr x rank=(x,false):=by unfold Zr;rw [hp,hw];rfl
theorem Mw {x:Z3} {rank:Int} (hp:Zh x=true) (hw:inB rank (-5) 5=true):Zr x rank=(Qh x rank,true):=by unfold Zr;rw [hp,hw];rfl
theorem A6 {st:Int} (h:1<=st):(st ==0)=false:=by simp;omega
theorem MO {x y:Z3} {rank:Int} {q:Bool} (h:Zr x rank=(y,q)) (w:World):Calls Tryz.prog 76 #[.agg (ZU x).toArray,.int .i64 rank] w fun e w'=>e= .returned (.tuple #[.agg (ZU y).toArray,.bool q])/\Below w.heap.size w w':=by
 obtain ⟨st,be,rk,my,gu,lo,hi,hd,ca,ut,wk⟩:=x;have hz:=Ol rank;cases hg:Wt (st,be,rk,my,gu,lo,hi,hd,ca,ut,wk)
 ·cases hp:Zh (st,be,rk,my,gu,lo,hi,hd,ca,ut,wk)
  ·rw [OV rank hg hp] at h
   obtain ⟨rfl,rfl⟩:=Prod.mk.inj h;exact Ip rank w (by unfold Zx;rw [hg,hp];rfl)
  ·cases hw:inB rank (-5) 5
   ·rw [KW hp hw] at h
    obtain ⟨rfl,rfl⟩:=Prod.mk.inj h;exact A5 rank w (SS hp) (A6 (Zi hp).1.1) hw
   ·rw [Mw hp hw] at h
    obtain ⟨rfl,rfl⟩:=Prod.mk.inj h;obtain ⟨⟨s0,s1⟩,_,hr,_,_,_,⟨d0,d1⟩,⟨a0,a1⟩,_,⟨k0,k1⟩⟩:=Zi hp;have hr0:=WB hr;have hr1:=(Vw rk).2;have a2:ca<=3125:=by omega
    have x0:=WB hw;have x1:=(Vw rank).2;have hs:Zx (Qh (st,be,rk,my,gu,lo,hi,hd,ca,ut,wk) rank)=true:=SS (SL hp hw);exact CA rfl x0 x1 a0 a2 (SS hp) (A6 s0) hw
 ·rw [NB rank hg] at h
  obtain ⟨rfl,rfl⟩:=Prod.mk.inj h;cases Wa hg;exact Fb rank w
end Go.Proofs.YtamgfpdahadnfaaGreatDoor
