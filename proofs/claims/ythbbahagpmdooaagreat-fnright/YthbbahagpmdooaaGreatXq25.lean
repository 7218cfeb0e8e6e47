/- Part 25 of what the proof rests on. No condition but those that a theorem names. -/
import Derived.Test.YthbbahagpmdooaaGreatXq24
set_option maxHeartbeats 8000000
set_option maxRecDepth 100000
namespace Go.Proofs.YthbbahagpmdooaaGreat
open Go.ChangeShapes Go.WideShapes Go.ChangeAt Go.RowKit Go.Sort
set_option linter.unusedVariables false
set_option linter.unusedSimpArgs false
set_option maxRecDepth 100000
variable {w w' w0 w1 w2 w3 w₀ wr W W' X A B C : World} {v v0 v1 v2 v3 v4 u u0 u1 u2 u3 u4 : Value} {m : Z4}
def Zz (m:Z4) (k who a b:Int):Z4 × Int:=
 if ZO m then (if k=1 then VQ m a b (-1) else if k=2 then Vg m who else if k=3 then VT m who else if k=4 then Wu m who else if k=5 then WJ m who a else if k=6 then Xv m who a else if k=7 then WH m who a b else if k=8 then XM m a else if k=9 then Vd m a else if k=10 then VC m a else if k=11 then WD m a b else if k=12 then (Nb m,0) else if k=13 then (XW m,0) else if k=14 then UE m who a else (m,3)) else (Yp,3)
theorem I1 (h:ZO m=true) (who a b:Int):Zz m 1 who a b=VQ m a b (-1):=by unfold Zz;rw [h];rfl
theorem I2 (h:ZO m=true) (who a b:Int):Zz m 2 who a b=Vg m who:=by unfold Zz;rw [h];rfl
theorem I3 (h:ZO m=true) (who a b:Int):Zz m 3 who a b=VT m who:=by unfold Zz;rw [h];rfl
theorem I4 (h:ZO m=true) (who a b:Int):Zz m 4 who a b=Wu m who:=by unfold Zz;rw [h];rfl
theorem I5 (h:ZO m=true) (who a b:Int):Zz m 5 who a b=WJ m who a:=by unfold Zz;rw [h];rfl
theorem I6 (h:ZO m=true) (who a b:Int):Zz m 6 who a b=Xv m who a:=by unfold Zz;rw [h];rfl
theorem I7 (h:ZO m=true) (who a b:Int):Zz m 7 who a b=WH m who a b:=by unfold Zz;rw [h];rfl
theorem I8 (h:ZO m=true) (who a b:Int):Zz m 8 who a b=XM m a:=by unfold Zz;rw [h];rfl
theorem I9 (h:ZO m=true) (who a b:Int):Zz m 9 who a b=Vd m a:=by unfold Zz;rw [h];rfl
theorem Ly (h:ZO m=true) (who a b:Int):Zz m 10 who a b=VC m a:=by unfold Zz;rw [h];rfl
theorem Lz (h:ZO m=true) (who a b:Int):Zz m 11 who a b=WD m a b:=by unfold Zz;rw [h];rfl
theorem LA (h:ZO m=true) (who a b:Int):Zz m 12 who a b=(Nb m,0):=by unfold Zz;rw [h];rfl
theorem LB (h:ZO m=true) (who a b:Int):Zz m 13 who a b=(XW m,0):=by unfold Zz;rw [h];rfl
theorem LC (h:ZO m=true) (who a b:Int):Zz m 14 who a b=UE m who a:=by unfold Zz;rw [h];rfl
theorem QZ (h:ZO m=true) {k:Int} (hk:k<1\/14<k) (who a b:Int):Zz m k who a b=(m,3):=by
 unfold Zz
 rw [if_pos h,if_neg (show ¬ k=1 by omega),if_neg (show ¬ k=2 by omega),if_neg (show ¬ k=3 by omega),if_neg (show ¬ k=4 by omega),if_neg (show ¬ k=5 by omega),if_neg (show ¬ k=6 by omega),if_neg (show ¬ k=7 by omega),if_neg (show ¬ k=8 by omega),if_neg (show ¬ k=9 by omega),if_neg (show ¬ k=10 by omega),if_neg (show ¬ k=11 by omega),if_neg (show ¬ k=12 by omega),if_neg (show ¬ k=13 by omega),if_neg (show ¬ k=14 by omega)]
theorem Np (h:ZO m=true) (k who a b:Int):ZO (Zz m k who a b).1=true:=by
 by_cases hk:k<1\/14<k
 ·rw [QZ h hk];exact h
 rcases (show k=1\/k=2\/k=3\/k=4\/k=5\/k=6\/k=7\/k=8\/k=9\/k=10\/k=11\/k=12\/k=13\/k=14 by omega) with rfl | rfl | rfl | rfl | rfl | rfl | rfl | rfl | rfl | rfl | rfl | rfl | rfl | rfl
 ·rw [I1 h];exact Jz h a b (-1)
 ·rw [I2 h];exact Kn h who
 ·rw [I3 h];exact KU h who
 ·rw [I4 h];exact LW h who
 ·rw [I5 h];exact Kl h who a
 ·rw [I6 h];exact K7 h who a
 ·rw [I7 h];exact L4 h who a b
 ·rw [I8 h];exact Nk h a
 ·rw [I9 h];exact Ke h a
 ·rw [Ly h];exact KD h a
 ·rw [Lz h];exact Lw h a b
 ·rw [LA h];exact GB h
 ·rw [LB h];exact (show ZO (XW m)=true by unfold XW;rw [h];exact LZ h)
 ·rw [LC h];exact JP h who a
theorem EX {g:Nat} {zs:List Int} (h:∀ j,j<zs.length-> ∀ i u,(Ug (Z8 zs j))[i]?=some u->w.cell? ⟨g,j*1+i,none⟩=some u) {j:Nat} (hj:j<zs.length):w.cell? ⟨g,j,none⟩=some (.int .i64 (Z8 zs j)):=by
 have:=h j hj 0 _ rfl
 simpa using this
theorem Lh {who:Int} (h:VU m=true\/(VU m=false/\(Yc m who).length=0)):YB m who=(XP m who m.desks.length).1:=by
 unfold YB
 rcases h with e | ⟨e,e'⟩
 ·rw [e];rfl
 ·rw [e,e'];rfl
theorem Lg {who:Int} (h:VU m=false) (h':0<(Yc m who).length):YB m who=(XG m who (Yc m who) (Yc m who).length).1:=by
 unfold YB
 rw [h,decide_eq_true h'];rfl
theorem J8 {who:Int} {k:Nat} (hm:Ye m who k=true) (h:(XP m who k).1<0\/(XP m who k).2<U6 (Yn m k who) (YU m.rooms k)):XP m who (k+1)=((k:Int),U6 (Yn m k who) (YU m.rooms k)):=by
 show (if _ then _ else _)=_
 rw [hm]
 rcases h with h | h
 ·rw [decide_eq_true h];rfl
 ·rw [decide_eq_true h,Bool.or_true];rfl
theorem Ia {who:Int} {k:Nat} (h:Ye m who k=false\/(¬ (XP m who k).1<0/\ ¬ (XP m who k).2<U6 (Yn m k who) (YU m.rooms k))):XP m who (k+1)=XP m who k:=by
 show (if _ then _ else _)=_
 rcases h with h | ⟨h,h'⟩
 ·rw [h];rfl
 ·rw [decide_eq_false h,decide_eq_false h',Bool.or_false,Bool.and_false];rfl
theorem O7 {who:Int} {f:List Int} : XG m who f 1=(Z8 f 0,Yq m who (Z8 f 0)):=by
 cases f<;>rfl
theorem QT {who:Int} {f:List Int} {k:Nat} (h1:1<=k) (hk:k<f.length):XG m who f (k+1)=VB m who (XG m who f k) (Z8 f k):=by
 unfold XG
 have e:f.take (k+1)=f.take k++[Z8 f k]:=by
  rw [List.take_add_one,List.getElem?_eq_getElem hk,Og hk];rfl
 rw [e,List.drop_append_of_le_length (by simp;omega),List.foldl_append]
 rfl
theorem Jw {who:Nat} {f:List Int} {k:Nat} (h1:1<=k) (hk:k<f.length) (h:Yq m (who:Int) (Z8 f k)<(XG m (who:Int) f k).2\/(Yq m (who:Int) (Z8 f k)=(XG m (who:Int) f k).2/\Z8 f k=(Z8 m.smiths who).2.1)):XG m (who:Int) f (k+1)=(Z8 f k,Yq m (who:Int) (Z8 f k)):=by
 rw [QT h1 hk]
 unfold VB
 exact if_pos h
theorem GD {who:Nat} {f:List Int} {k:Nat} (h1:1<=k) (hk:k<f.length) (h:¬ (Yq m (who:Int) (Z8 f k)<(XG m (who:Int) f k).2\/(Yq m (who:Int) (Z8 f k)=(XG m (who:Int) f k).2/\Z8 f k=(Z8 m.smiths who).2.1))):XG m (who:Int) f (k+1)=XG m (who:Int) f k:=by
 rw [QT h1 hk]
 unfold VB
 exact if_neg h
theorem Xi  {who:Nat} (h:Smy w v0 v1 v2 v3 v4 m) (hS:Sane m) (hp:m.paces.length<=1000) (hA:SZ m who) :
  Calls Tryz.prog 204 #[.agg #[v0,v1,v2,v3,v4,.int .i64 m.now],.int .i64 (who:Int)] w fun e w'=>e= .returned (.int .i64 (YB m (who:Int)))/\Below w.heap.size w w':=by
 have Hv:=Z9 (h.alloc (.cells #[v0,v1,v2,v3,v4,.int .i64 m.now] 32))
 obtain ⟨a0,p0,a1,p1,a2,p2,a3,p3,a4,p4,rfl,rfl,rfl,rfl,rfl,_,_,_,_,_,_,_,_,_,_⟩:=h.five
 clear h
 obtain ⟨BB0,kb0⟩:=Xj w 32 (S6 a0 p0 a1 p1 a2 p2 a3 p3 a4 p4 m)
 have HS:=Z9 hS
 have HA:=Z9 hA
 have HP:=Z9 hp
 have h8:=hS.eight
 clear hS hA hp
 obtain ⟨c0,c1,c2,c3,c4,c5⟩:=(uh kb0).c6
 have hX:(VU m=true\/(VU m=false/\(Yc m (who:Int)).length=0))\/(VU m=false/\0<(Yc m (who:Int)).length):=by
  cases VU m
  ·by_cases h0:(Yc m (who:Int)).length=0
   ·exact .inl (.inr ⟨rfl,h0⟩)
   ·exact .inr ⟨rfl,by omega⟩
  ·exact .inl (.inl rfl)
 rcases hX with hX | ⟨hcr,hle⟩
 ·rw [Lh hX]
  rcases hX with hcr | ⟨hcr,hle⟩
  all_goals
   go_enter Tryz.func204,Tryz.ntmps204
   go_wp2_with (first | (go_at_call 222;refine (TD (uh Hv) (uh HS) (uh HA)).mono ?_;rintro e w1 ⟨fv,rfl,hf1,hb1⟩;obtain ⟨la,lc,rfl⟩:=RecAt.shape hf1;have HF:=Z9 hf1;have B1:=Z9 hb1;have kb1:=Z9 ((uh kb0).below hb1 (uh kb0).lt);have Hv1:=Z9 ((uh Hv).below hb1);have BB1:=Z9 ((uh BB0).trans (hb1.mono (uh BB0).size));clear hf1 hb1 kb0 Hv BB0 B1 c0 c1 c2 c3 c4 c5;have d0:=(uh kb1).cell (i:=0) (v:= .slice a0 m.rooms.length p0) rfl;have d1:=(uh kb1).cell (i:=1) (v:= .slice a1 m.guilds.length p1) rfl;have d2:=(uh kb1).cell (i:=2) (v:= .slice a2 m.smiths.length p2) rfl;have d3:=(uh kb1).cell (i:=3) (v:= .slice a3 m.desks.length p3) rfl;have d4:=(uh kb1).cell (i:=4) (v:= .slice a4 m.paces.length p4) rfl;have d5:=(uh kb1).cell (i:=5) (v:= .int .i64 m.now) rfl) | (go_at_call 223;refine (TC (uh Hv1) (uh HS)).mono ?_;rintro e w2 ⟨he,hb2⟩;rw [hcr] at he;subst he;have B2:=Z9 hb2;clear hb2) | fail)
   have kb2:=Z9 ((uh kb1).below (uh B2) (uh kb1).lt)
   have Hv2:=Z9 ((uh Hv1).below (uh B2))
   have BB2:=Z9 ((uh BB1).trans ((uh B2).mono (uh BB1).size))
   clear kb1 Hv1 BB1 B2 d0 d1 d2 d3 d4 d5 HF
   go_loopw [10,11,12] (fun bv mv i wr=> ∃ k:Nat,k<=m.desks.length/\bv= .int .i64 (XP m (who:Int) k).1/\mv= .int .i64 (XP m (who:Int) k).2/\i= .int .i64 k/\Blk wr w.heap.size 32 #[.slice a0 m.rooms.length p0,.slice a1 m.guilds.length p1,.slice a2 m.smiths.length p2,.slice a3 m.desks.length p3,.slice a4 m.paces.length p4,.int .i64 m.now]/\Smy wr (.slice a0 m.rooms.length p0) (.slice a1 m.guilds.length p1) (.slice a2 m.smiths.length p2) (.slice a3 m.desks.length p3) (.slice a4 m.paces.length p4) m/\Below w.heap.size w wr) (fun _ _ i _=>m.desks.length-(intOf i).toNat)
   case atStart=>exact ⟨0,Nat.zero_le _,rfl,rfl,rfl,uh kb2,uh Hv2,uh BB2⟩
   case round=>
    obtain ⟨k,hk,rfl,rfl,rfl,hkb,hv,hb0⟩:=hrel
    have kb:=Z9 hkb
    have Hv3:=Z9 hv
    have BB:=Z9 hb0
    clear hkb hv hb0 kb2 BB2 Hv2
    obtain ⟨e0,e1,e2,e3,e4,e5⟩:=(uh kb).c6
    by_cases hlt:k<m.desks.length
    ·have hlt1:(k:Int)<(m.desks.length:Int):=by omega
     have Hno:=Z9 (fun hh=>Ia (m:=m) (who:=(who:Int)) (k:=k) hh)
     have Hyes:=Z9 (fun ha hh=>J8 (m:=m) (who:=(who:Int)) (k:=k) ha hh)
     have hfo:=Tr ((uh HS).bench hlt)
     have Hma:=Z9 (fun (W:World) (hW:Below wr.heap.size wr W)=>Un ((uh Hv3).below hW) (uh HA).lt hlt (by omega) (uh HA).y0 (uh HA).y1)
     have Hu:=Z9 (fun (W:World) (hW:Below wr.heap.size wr W)=>V8 (k:Int) (who:Int) ((uh Hv3).below hW) (uh HS).guilded (by have:=(uh HS).few;omega))
     have Hf:=Z9 (fun (W:World) (hW:Below wr.heap.size wr W)=>Wa (k:Int) ((uh Hv3).below hW).rooms ((uh HS).bench hlt))
     rw [<-hfo] at Hf
     clear hfo
     have Ht:=Z9 (fun (W:World)=>Calls.same_below (QI (Yn m (k:Int) (who:Int)) (YU m.rooms (k:Int)) W))
     generalize Ye m (who:Int) k=ma at *
     generalize Yn m (k:Int) (who:Int)=us at *
     generalize YU m.rooms (k:Int)=fo at *
     generalize U6 us fo=sp at *
     obtain ⟨bt,hbt⟩:∃ q,(XP m (who:Int) k).1=q:=⟨_,rfl⟩
     obtain ⟨mt,hmt⟩:∃ q,(XP m (who:Int) k).2=q:=⟨_,rfl⟩
     rw [hbt,hmt] at Hno Hyes
     rw [hbt,hmt]
     have Hbt:=Z9 hbt
     have Hmt:=Z9 hmt
     clear hbt hmt
     have y0:=cell_regrown e0
     have y1:=cell_regrown e1
     have y2:=cell_regrown e2
     have y3:=cell_regrown e3
     have y4:=cell_regrown e4
     have y5:=cell_regrown e5
     cases ma
     ·go_wp2_with fail
      refine wp_region_quiet_below (by kernel_rfl) (by kernel_rfl) ?_
      repeat (go_big_quiet_step (first | exact Calls.regrown_of (uh Hu _ (below_regrown _ _ _)) | exact Calls.regrown_of (uh Hf _ (below_regrown _ _ _)) | exact Calls.regrown_of (uh Ht _)))
      refine wpQuiet_nil ?_
      intro _ hw'
      obtain ⟨⟨dq,osq⟩,hw''⟩:=hw'
      subst hw''
      go_wp2_with (go_at_call 227;refine (uh Hma _ (below_regrown _ _ _)).mono ?_;rintro e w5 ⟨rfl,hb5⟩;have HX:=Z9 ((below_regrown wr dq osq).trans (hb5.mono (below_regrown _ _ _).size));clear hb5)
      go_roundw
      case rel=>exact ⟨k+1,by omega,by rw [uh Hno (.inl (by simp)),uh Hbt],by rw [uh Hno (.inl (by simp)),uh Hmt],by go_num,(uh kb).below (uh HX) (uh kb).lt,(uh Hv3).below (uh HX),(uh BB).trans ((uh HX).mono (uh BB).size)⟩
      case measure=>simp [intOf];omega
     by_cases hb1:bt<0
     ·go_wp2_with fail
      refine wp_region_quiet_below (by kernel_rfl) (by kernel_rfl) ?_
      repeat (go_big_quiet_step (first | exact Calls.regrown_of (uh Hu _ (below_regrown _ _ _)) | exact Calls.regrown_of (uh Hf _ (below_regrown _ _ _)) | exact Calls.regrown_of (uh Ht _)))
      refine wpQuiet_nil ?_
      intro _ hw'
      obtain ⟨⟨dq,osq⟩,hw''⟩:=hw'
      subst hw''
      go_wp2_with (go_at_call 227;refine (uh Hma _ (below_regrown _ _ _)).mono ?_;rintro e w5 ⟨rfl,hb5⟩;have HX:=Z9 ((below_regrown wr dq osq).trans (hb5.mono (below_regrown _ _ _).size));clear hb5)
      go_roundw
      case rel=>exact ⟨k+1,by omega,by rw [uh Hyes (by simp) (.inl hb1)],by rw [uh Hyes (by simp) (.inl hb1)],by go_num,(uh kb).below (uh HX) (uh kb).lt,(uh Hv3).below (uh HX),(uh BB).trans ((uh HX).mono (uh BB).size)⟩
      case measure=>simp [intOf];omega
     by_cases hb2:mt<sp
     ·go_wp2_with fail
      refine wp_region_quiet_below (by kernel_rfl) (by kernel_rfl) ?_
      repeat (go_big_quiet_step (first | exact Calls.regrown_of (uh Hu _ (below_regrown _ _ _)) | exact Calls.regrown_of (uh Hf _ (below_regrown _ _ _)) | exact Calls.regrown_of (uh Ht _)))
      refine wpQuiet_nil ?_
      intro _ hw'
      obtain ⟨⟨dq,osq⟩,hw''⟩:=hw'
      subst hw''
      go_wp2_with (go_at_call 227;refine (uh Hma _ (below_regrown _ _ _)).mono ?_;rintro e w5 ⟨rfl,hb5⟩;have HX:=Z9 ((below_regrown wr dq osq).trans (hb5.mono (below_regrown _ _ _).size));clear hb5)
      go_roundw
      case rel=>exact ⟨k+1,by omega,by rw [uh Hyes (by simp) (.inr hb2)],by rw [uh Hyes (by simp) (.inr hb2)],by go_num,(uh kb).below (uh HX) (uh kb).lt,(uh Hv3).below (uh HX),(uh BB).trans ((uh HX).mono (uh BB).size)⟩
      case measure=>simp [intOf];omega
     ·go_wp2_with fail
      refine wp_region_quiet_below (by kernel_rfl) (by kernel_rfl) ?_
      repeat (go_big_quiet_step (first | exact Calls.regrown_of (uh Hu _ (below_regrown _ _ _)) | exact Calls.regrown_of (uh Hf _ (below_regrown _ _ _)) | exact Calls.regrown_of (uh Ht _)))
      refine wpQuiet_nil ?_
      intro _ hw'
      obtain ⟨⟨dq,osq⟩,hw''⟩:=hw'
      subst hw''
      go_wp2_with (go_at_call 227;refine (uh Hma _ (below_regrown _ _ _)).mono ?_;rintro e w5 ⟨rfl,hb5⟩;have HX:=Z9 ((below_regrown wr dq osq).trans (hb5.mono (below_regrown _ _ _).size));clear hb5)
      go_roundw
      case rel=>exact ⟨k+1,by omega,by rw [uh Hno (.inr ⟨by omega,by omega⟩),uh Hbt],by rw [uh Hno (.inr ⟨by omega,by omega⟩),uh Hmt],by go_num,(uh kb).below (uh HX) (uh kb).lt,(uh Hv3).below (uh HX),(uh BB).trans ((uh HX).mono (uh BB).size)⟩
      case measure=>simp [intOf];omega
    ·obtain rfl:k=m.desks.length:=by omega
     go_wp2_with fail
     go_ret
     exact ⟨rfl,uh BB⟩
 ·rw [Lg hcr hle]
  have hlb:(Yc m (who:Int)).length<=m.desks.length:=Rq m (who:Int) m.desks.length
  generalize hL:Yc m (who:Int)=L at *
  go_enter Tryz.func204,Tryz.ntmps204
  go_wp2_with (first | (go_at_call 222;refine (TD (uh Hv) (uh HS) (uh HA)).mono ?_;rintro e w1 ⟨fv,rfl,hf1,hb1⟩;rw [hL] at hf1;obtain ⟨la,lc,rfl⟩:=RecAt.shape hf1;obtain ⟨g,rfl,_,g1,hgc,_⟩:=RecAt.view YT (by omega) hf1 rfl hle;have C1:=Z9 (fun j hj=>EX hgc (j:=j) hj);have kb1:=Z9 ((uh kb0).below hb1 (uh kb0).lt);have Hv1:=Z9 ((uh Hv).below hb1);have BB1:=Z9 ((uh BB0).trans (hb1.mono (uh BB0).size));clear hf1 hb1 hgc kb0 Hv BB0 c0 c1 c2 c3 c4 c5;have d0:=(uh kb1).cell (i:=0) (v:= .slice a0 m.rooms.length p0) rfl;have d1:=(uh kb1).cell (i:=1) (v:= .slice a1 m.guilds.length p1) rfl;have d2:=(uh kb1).cell (i:=2) (v:= .slice a2 m.smiths.length p2) rfl;have d3:=(uh kb1).cell (i:=3) (v:= .slice a3 m.desks.length p3) rfl;have d4:=(uh kb1).cell (i:=4) (v:= .slice a4 m.paces.length p4) rfl;have d5:=(uh kb1).cell (i:=5) (v:= .int .i64 m.now) rfl) | (go_at_call 223;refine (TC (uh Hv1) (uh HS)).mono ?_;rintro e w2 ⟨he,hb2⟩;rw [hcr] at he;subst he;have kb2:=Z9 ((uh kb1).below hb2 (uh kb1).lt);have Hv2:=Z9 ((uh Hv1).below hb2);have BB2:=Z9 ((uh BB1).trans (hb2.mono (uh BB1).size));have C2:=Z9 (fun j hj=>(hb2.cell (p:=⟨g,j,none⟩) g1).trans (uh C1 j hj));have g2:=Nat.lt_of_lt_of_le g1 hb2.size;clear hb2 kb1 Hv1 BB1 C1 g1 d0 d1 d2 d3 d4 d5;have d0:=(uh kb2).cell (i:=0) (v:= .slice a0 m.rooms.length p0) rfl;have d1:=(uh kb2).cell (i:=1) (v:= .slice a1 m.guilds.length p1) rfl;have d2:=(uh kb2).cell (i:=2) (v:= .slice a2 m.smiths.length p2) rfl;have d3:=(uh kb2).cell (i:=3) (v:= .slice a3 m.desks.length p3) rfl;have d4:=(uh kb2).cell (i:=4) (v:= .slice a4 m.paces.length p4) rfl;have d5:=(uh kb2).cell (i:=5) (v:= .int .i64 m.now) rfl;have x0:=uh C2 0 hle) | (go_at_call 224;refine (Q7 _ (uh Hv2) (uh HS) (uh HP) (uh HA).lt (uh HA).st).mono ?_;rintro e w3 ⟨rfl,hb3⟩;have B3:=Z9 hb3;clear hb3) | fail)
  have kb3:=Z9 ((uh kb2).below (uh B3) (uh kb2).lt)
  have Hv3:=Z9 ((uh Hv2).below (uh B3))
  have BB3:=Z9 ((uh BB2).trans ((uh B3).mono (uh BB2).size))
  have C3:=Z9 (fun j hj=>((uh B3).cell (p:=⟨g,j,none⟩) g2).trans (uh C2 j hj))
  have g3:=Nat.lt_of_lt_of_le g2 (uh B3).size
  clear kb2 Hv2 BB2 B3 C2 g2 d0 d1 d2 d3 d4 d5 x0
  go_loopw [6,7,8] (fun bv lv i wr=> ∃ k:Nat,1<=k/\k<=L.length/\bv= .int .i64 (XG m (who:Int) L k).1/\lv= .int .i64 (XG m (who:Int) L k).2/\i= .int .i64 k/\(∀ j,j<L.length->wr.cell? ⟨g,j,none⟩=some (.int .i64 (Z8 L j)))/\g<wr.heap.size/\Blk wr w.heap.size 32 #[.slice a0 m.rooms.length p0,.slice a1 m.guilds.length p1,.slice a2 m.smiths.length p2,.slice a3 m.desks.length p3,.slice a4 m.paces.length p4,.int .i64 m.now]/\Smy wr (.slice a0 m.rooms.length p0) (.slice a1 m.guilds.length p1) (.slice a2 m.smiths.length p2) (.slice a3 m.desks.length p3) (.slice a4 m.paces.length p4) m/\Below w.heap.size w wr) (fun _ _ i _=>L.length-(intOf i).toNat)
  case atStart=>exact ⟨1,Nat.le_refl _,by omega,by rw [O7],by rw [O7],rfl,uh C3,g3,uh kb3,uh Hv3,uh BB3⟩
  case round=>
   obtain ⟨k,hk1,hk,rfl,rfl,rfl,hc,hg,hkb,hv,hb0⟩:=hrel
   have HC:=Z9 hc
   have kb:=Z9 hkb
   have Hv4:=Z9 hv
   have BB:=Z9 hb0
   clear hkb hv hb0 kb3 BB3 Hv3 hc C3 g3
   obtain ⟨e0,e1,e2,e3,e4,e5⟩:=(uh kb).c6
   by_cases hlt:k<L.length
   ·have hlt1:(k:Int)<(L.length:Int):=by omega
    have x0:=uh HC k hlt
    obtain ⟨_,_,hse,_,_,r2⟩:=(uh Hv4).smiths
    cases hse
    have hwl:=(uh HA).lt
    rcases r2 with e0 | ⟨sb,so,rfl,hbs,hcs⟩
    ·rw [e0] at hwl;simp at hwl
    obtain ⟨_,s1,_⟩:=ZI hcs hwl
    clear hcs
    have hwl1:(who:Int)<(m.smiths.length:Int):=by omega
    have Hno:=Z9 (fun hh=>GD (m:=m) (who:=who) (k:=k) hk1 hlt hh)
    have Hyes:=Z9 (fun hh=>Jw (m:=m) (who:=who) (k:=k) hk1 hlt hh)
    have Hw:=Z9 (fun (W:World) (hW:Below wr.heap.size wr W)=>Q7 (Z8 L k) ((uh Hv4).below hW) (uh HS) (uh HP) (uh HA).lt (uh HA).st)
    generalize Yq m (who:Int) (Z8 L k)=n at *
    generalize Z8 L k=x at *
    generalize (Z8 m.smiths who).2.1=y at *
    obtain ⟨bt,hbt⟩:∃ q,(XG m (who:Int) L k).1=q:=⟨_,rfl⟩
    obtain ⟨lt,hmt⟩:∃ q,(XG m (who:Int) L k).2=q:=⟨_,rfl⟩
    rw [hmt] at Hno Hyes
    rw [hbt,hmt]
    have Hbt:=Z9 hbt
    have Hmt:=Z9 hmt
    clear hbt hmt
    have y0:=cell_regrown e0
    have y1:=cell_regrown e1
    have y2:=cell_regrown e2
    have y3:=cell_regrown e3
    have y4:=cell_regrown e4
    have y5:=cell_regrown e5
    have z0:=cell_regrown x0
    have z1:=cell_regrown s1
    go_wp2_with fail
    refine wp_region_quiet_below (by kernel_rfl) (by kernel_rfl) ?_
    repeat (go_big_quiet_step (first | exact Calls.regrown_of (uh Hw _ (below_regrown _ _ _))))
    refine wpQuiet_nil ?_
    intro _ hw'
    obtain ⟨⟨dq,osq⟩,hw''⟩:=hw'
    subst hw''
    go_wp2_with fail
    have hX:=Z9 (below_regrown wr dq osq)
    have q0:=y0 dq osq;have q1:=y1 dq osq;have q2:=y2 dq osq;have q3:=y3 dq osq;have q4:=y4 dq osq;have q5:=y5 dq osq
    have r0:=z0 dq osq
    have r1:=z1 dq osq
    clear z0 z1 x0 s1 y0 y1 y2 y3 y4 y5 e0 e1 e2 e3 e4 e5 Hw
    have HC2:=Z9 (fun j hj=>((uh hX).cell (p:=⟨g,j,none⟩) hg).trans (uh HC j hj))
    have hg2:=Nat.lt_of_lt_of_le hg (uh hX).size
    have kb9:=Z9 ((uh kb).below (uh hX) (uh kb).lt)
    have Hv9:=Z9 ((uh Hv4).below (uh hX))
    have BB9:=Z9 ((uh BB).trans ((uh hX).mono (uh BB).size))
    clear HC hg kb Hv4 BB hX hbs
    generalize grow (redrawn wr dq) osq=X at *
    have r2:=cell_regrown r0
    have r3:=cell_regrown r1
    have t0:=cell_regrown q0;have t1:=cell_regrown q1;have t2:=cell_regrown q2;have t3:=cell_regrown q3;have t4:=cell_regrown q4;have t5:=cell_regrown q5
    by_cases hn:n<lt
    ·refine wp_region_quiet_below (by kernel_rfl) (by kernel_rfl) ?_
     repeat (go_big_quiet_step (fail))
     refine wpQuiet_nil ?_
     intro _ hw'
     obtain ⟨⟨dq,osq⟩,hw''⟩:=hw'
     subst hw''
     go_wp2_with fail
     go_roundw
     case rel=>exact ⟨k+1,by omega,by omega,by rw [uh Hyes (by omega)],by rw [uh Hyes (by omega)],by go_num,fun j hj=>((below_regrown X dq osq).cell (p:=⟨g,j,none⟩) hg2).trans (uh HC2 j hj),Nat.lt_of_lt_of_le hg2 (below_regrown X dq osq).size,(uh kb9).below (below_regrown X dq osq) (uh kb9).lt,(uh Hv9).below (below_regrown X dq osq),(uh BB9).trans ((below_regrown X dq osq).mono (uh BB9).size)⟩
     case measure=>simp [intOf];omega
    by_cases he:n=lt
    ·subst he
     by_cases hxy:x=y
     ·subst hxy
      refine wp_region_quiet_below (by kernel_rfl) (by kernel_rfl) ?_
      repeat (go_big_quiet_step (fail))
      refine wpQuiet_nil ?_
      intro _ hw'
      obtain ⟨⟨dq,osq⟩,hw''⟩:=hw'
      subst hw''
      go_wp2_with fail
      go_roundw
      case rel=>exact ⟨k+1,by omega,by omega,by rw [uh Hyes (by omega)],by rw [uh Hyes (by omega)],by go_num,fun j hj=>((below_regrown X dq osq).cell (p:=⟨g,j,none⟩) hg2).trans (uh HC2 j hj),Nat.lt_of_lt_of_le hg2 (below_regrown X dq osq).size,(uh kb9).below (below_regrown X dq osq) (uh kb9).lt,(uh Hv9).below (below_regrown X dq osq),(uh BB9).trans ((below_regrown X dq osq).mono (uh BB9).size)⟩
      case measure=>simp [intOf];omega
     ·refine wp_region_quiet_below (by kernel_rfl) (by kernel_rfl) ?_
      repeat (go_big_quiet_step (fail))
      refine wpQuiet_nil ?_
      intro _ hw'
      obtain ⟨⟨dq,osq⟩,hw''⟩:=hw'
      subst hw''
      go_wp2_with fail
      go_roundw
      case rel=>exact ⟨k+1,by omega,by omega,by rw [uh Hno (by omega),uh Hbt],by rw [uh Hno (by omega),uh Hmt],by go_num,fun j hj=>((below_regrown X dq osq).cell (p:=⟨g,j,none⟩) hg2).trans (uh HC2 j hj),Nat.lt_of_lt_of_le hg2 (below_regrown X dq osq).size,(uh kb9).below (below_regrown X dq osq) (uh kb9).lt,(uh Hv9).below (below_regrown X dq osq),(uh BB9).trans ((below_regrown X dq osq).mono (uh BB9).size)⟩
      case measure=>simp [intOf];omega
    ·have e1:(n ==lt)=false:=by simpa using he
     have e2:decide (n=lt)=false:=decide_eq_false he
     refine wp_region_quiet_below (by kernel_rfl) (by kernel_rfl) ?_
     repeat (go_big_quiet_step (fail))
     refine wpQuiet_nil ?_
     intro _ hw'
     obtain ⟨⟨dq,osq⟩,hw''⟩:=hw'
     subst hw''
     go_wp2_with fail
     go_roundw
     case rel=>exact ⟨k+1,by omega,by omega,by rw [uh Hno (by omega),uh Hbt],by rw [uh Hno (by omega),uh Hmt],by go_num,fun j hj=>((below_regrown X dq osq).cell (p:=⟨g,j,none⟩) hg2).trans (uh HC2 j hj),Nat.lt_of_lt_of_le hg2 (below_regrown X dq osq).size,(uh kb9).below (below_regrown X dq osq) (uh kb9).lt,(uh Hv9).below (below_regrown X dq osq),(uh BB9).trans ((below_regrown X dq osq).mono (uh BB9).size)⟩
     case measure=>simp [intOf];omega
   ·obtain rfl:k=L.length:=by omega
    go_wp2_with fail
    go_ret
    exact ⟨rfl,uh BB⟩
end Go.Proofs.YthbbahagpmdooaaGreat
