/- Part 18 of what the proof rests on. No condition but those that a theorem names. -/
import Derived.Test.YtffcgajndmhpkaaGreatDoorXw17
set_option maxHeartbeats 8000000
set_option maxRecDepth 100000
namespace Go.Proofs.YtffcgajndmhpkaaGreatDoor
open Go.ChangeShapes Go.WideShapes Go.ChangeAt Go.RowKit Go.Sort
set_option linter.unusedVariables false
variable {w w' w0 w1 w2 w3 w₀ wr W W' X A B C : World} {v v0 v1 v2 v3 v4 u u0 u1 u2 u3 u4 : Value} {m : Z4}
theorem Cy {g:Nat} {zs:List Int} (h:∀ j,j<zs.length-> ∀ i u,(TE (Z8 zs j))[i]?=some u->w.cell? ⟨g,j*1+i,none⟩=some u) {j:Nat} (hj:j<zs.length):w.cell? ⟨g,j,none⟩=some (.int .i64 (Z8 zs j)):=by
 have:=h j hj 0 _ rfl
 simpa using this
theorem Jb {who:Int} (h:VO m=true\/(VO m=false/\(X8 m who).length=0)):YA m who=(XL m who m.desks.length).1:=by
 unfold YA
 rcases h with e | ⟨e,e'⟩
 ·rw [e];rfl
 ·rw [e,e'];rfl
theorem Ja {who:Int} (h:VO m=false) (h':0<(X8 m who).length):YA m who=(Xz m who (X8 m who) (X8 m who).length).1:=by
 unfold YA
 rw [h,decide_eq_true h'];rfl
theorem H7 {who:Int} {k:Nat} (hm:Yb m who k=true) (h:(XL m who k).1<0\/(XL m who k).2<UN (Ze m k who) (YU m.rooms k)):XL m who (k+1)=((k:Int),UN (Ze m k who) (YU m.rooms k)):=by
 show (if _ then _ else _)=_
 rw [hm]
 rcases h with h | h
 ·rw [decide_eq_true h];rfl
 ·rw [decide_eq_true h,Bool.or_true];rfl
theorem ES {who:Int} {k:Nat} (h:Yb m who k=false\/(¬ (XL m who k).1<0/\ ¬ (XL m who k).2<UN (Ze m k who) (YU m.rooms k))):XL m who (k+1)=XL m who k:=by
 show (if _ then _ else _)=_
 rcases h with h | ⟨h,h'⟩
 ·rw [h];rfl
 ·rw [decide_eq_false h,decide_eq_false h',Bool.or_false,Bool.and_false];rfl
theorem NI {who:Int} {f:List Int} : Xz m who f 1=(Z8 f 0,Ym m who (Z8 f 0)):=by
 cases f<;>rfl
theorem PK {who:Int} {f:List Int} {k:Nat} (h1:1<=k) (hk:k<f.length):Xz m who f (k+1)=Vo m who (Xz m who f k) (Z8 f k):=by
 unfold Xz
 have e:f.take (k+1)=f.take k++[Z8 f k]:=by
  rw [List.take_add_one,List.getElem?_eq_getElem hk,MB hk];rfl
 rw [e,List.drop_append_of_le_length (by simp;omega),List.foldl_append]
 rfl
theorem Gt {who:Nat} {f:List Int} {k:Nat} (h1:1<=k) (hk:k<f.length) (h:Ym m (who:Int) (Z8 f k)<(Xz m (who:Int) f k).2\/(Ym m (who:Int) (Z8 f k)=(Xz m (who:Int) f k).2/\Z8 f k=(Z8 m.smiths who).2.1)):Xz m (who:Int) f (k+1)=(Z8 f k,Ym m (who:Int) (Z8 f k)):=by
 rw [PK h1 hk]
 unfold Vo
 exact if_pos h
theorem Et {who:Nat} {f:List Int} {k:Nat} (h1:1<=k) (hk:k<f.length) (h:¬ (Ym m (who:Int) (Z8 f k)<(Xz m (who:Int) f k).2\/(Ym m (who:Int) (Z8 f k)=(Xz m (who:Int) f k).2/\Z8 f k=(Z8 m.smiths who).2.1))):Xz m (who:Int) f (k+1)=Xz m (who:Int) f k:=by
 rw [PK h1 hk]
 unfold Vo
 exact if_neg h
theorem WY  {who:Nat} (h:Smy w v0 v1 v2 v3 v4 m) (hS:Sane m) (hp:m.paces.length<=1000) (hA:Sh m who) :
  Calls Tryz.prog 276 #[.agg #[v0,v1,v2,v3,v4,.int .i64 m.now],.int .i64 (who:Int)] w fun e w'=>e= .returned (.int .i64 (YA m (who:Int)))/\Below w.heap.size w w':=by
 have Hv:=Z9 (h.alloc (.cells #[v0,v1,v2,v3,v4,.int .i64 m.now] 32))
 obtain ⟨a0,p0,a1,p1,a2,p2,a3,p3,a4,p4,rfl,rfl,rfl,rfl,rfl,_,_,_,_,_,_,_,_,_,_⟩:=h.five
 clear h
 obtain ⟨BB0,kb0⟩:=WZ w 32 (S6 a0 p0 a1 p1 a2 p2 a3 p3 a4 p4 m)
 have HS:=Z9 hS
 have HA:=Z9 hA
 have HP:=Z9 hp
 have h8:=hS.eight
 clear hS hA hp
 obtain ⟨c0,c1,c2,c3,c4,c5⟩:=(uh kb0).c6
 have hX:(VO m=true\/(VO m=false/\(X8 m (who:Int)).length=0))\/(VO m=false/\0<(X8 m (who:Int)).length):=by
  cases VO m
  ·by_cases h0:(X8 m (who:Int)).length=0
   ·exact .inl (.inr ⟨rfl,h0⟩)
   ·exact .inr ⟨rfl,by omega⟩
  ·exact .inl (.inl rfl)
 rcases hX with hX | ⟨hcr,hle⟩
 ·rw [Jb hX]
  rcases hX with hcr | ⟨hcr,hle⟩
  all_goals
   go_enter Tryz.func276,Tryz.ntmps276
   go_wp2_with (first | (go_at_call 299;refine (SX (uh Hv) (uh HS) (uh HA)).mono ?_;rintro e w1 ⟨fv,rfl,hf1,hb1⟩;obtain ⟨la,lc,rfl⟩:=RecAt.shape hf1;have HF:=Z9 hf1;have B1:=Z9 hb1;have kb1:=Z9 ((uh kb0).below hb1 (uh kb0).lt);have Hv1:=Z9 ((uh Hv).below hb1);have BB1:=Z9 ((uh BB0).trans (hb1.mono (uh BB0).size));clear hf1 hb1 kb0 Hv BB0 B1 c0 c1 c2 c3 c4 c5;have d0:=(uh kb1).cell (i:=0) (v:= .slice a0 m.rooms.length p0) rfl;have d1:=(uh kb1).cell (i:=1) (v:= .slice a1 m.guilds.length p1) rfl;have d2:=(uh kb1).cell (i:=2) (v:= .slice a2 m.smiths.length p2) rfl;have d3:=(uh kb1).cell (i:=3) (v:= .slice a3 m.desks.length p3) rfl;have d4:=(uh kb1).cell (i:=4) (v:= .slice a4 m.paces.length p4) rfl;have d5:=(uh kb1).cell (i:=5) (v:= .int .i64 m.now) rfl) | (go_at_call 300;refine (SW (uh Hv1) (uh HS)).mono ?_;rintro e w2 ⟨he,hb2⟩;rw [hcr] at he;subst he;have B2:=Z9 hb2;clear hb2) | fail)
   have kb2:=Z9 ((uh kb1).below (uh B2) (uh kb1).lt)
   have Hv2:=Z9 ((uh Hv1).below (uh B2))
   have BB2:=Z9 ((uh BB1).trans ((uh B2).mono (uh BB1).size))
   clear kb1 Hv1 BB1 B2 d0 d1 d2 d3 d4 d5 HF
   go_loopw [10,11,12] (fun bv mv i wr=> ∃ k:Nat,k<=m.desks.length/\bv= .int .i64 (XL m (who:Int) k).1/\mv= .int .i64 (XL m (who:Int) k).2/\i= .int .i64 k/\Blk wr w.heap.size 32 (S6 a0 p0 a1 p1 a2 p2 a3 p3 a4 p4 m)/\Smy wr (.slice a0 m.rooms.length p0) (.slice a1 m.guilds.length p1) (.slice a2 m.smiths.length p2) (.slice a3 m.desks.length p3) (.slice a4 m.paces.length p4) m/\Below w.heap.size w wr) (fun _ _ i _=>m.desks.length-(intOf i).toNat)
   case atStart=>exact ⟨0,Nat.zero_le _,rfl,rfl,rfl,uh kb2,uh Hv2,uh BB2⟩
   case round=>
    obtain ⟨k,hk,rfl,rfl,rfl,hkb,hv,hb0⟩:=hrel
    have kb:=Z9 hkb
    have Hv3:=Z9 hv
    have BB:=Z9 hb0
    clear hkb hv hb0 kb2 BB2 Hv2
    obtain ⟨e0,e1,e2,e3,e4,e5⟩:=(uh kb).c6
    by_cases hlt:k<m.desks.length
    ·have hlt1:(k:Int)<(m.desks.length:Int):=by omega
     have Hno:=Z9 (fun hh=>ES (m:=m) (who:=(who:Int)) (k:=k) hh)
     have Hyes:=Z9 (fun ha hh=>H7 (m:=m) (who:=(who:Int)) (k:=k) ha hh)
     have hfo:=SK ((uh HS).bench hlt)
     have Hma:=Z9 (fun (W:World) (hW:Below wr.heap.size wr W)=>TL ((uh Hv3).below hW) (uh HA).lt hlt (by omega) (uh HA).y0 (uh HA).y1)
     have Hu:=Z9 (fun (W:World) (hW:Below wr.heap.size wr W)=>V2 (k:Int) (who:Int) ((uh Hv3).below hW) (uh HS).guilded (by have:=(uh HS).few;omega))
     have Hf:=Z9 (fun (W:World) (hW:Below wr.heap.size wr W)=>V3 (k:Int) ((uh Hv3).below hW).rooms ((uh HS).bench hlt))
     rw [<-hfo] at Hf
     clear hfo
     have Ht:=Z9 (fun (W:World)=>Calls.same_below (PD (Ze m (k:Int) (who:Int)) (YU m.rooms (k:Int)) W))
     generalize Yb m (who:Int) k=ma at *
     generalize Ze m (k:Int) (who:Int)=us at *
     generalize YU m.rooms (k:Int)=fo at *
     generalize UN us fo=sp at *
     obtain ⟨bt,hbt⟩:∃ q,(XL m (who:Int) k).1=q:=⟨_,rfl⟩
     obtain ⟨mt,hmt⟩:∃ q,(XL m (who:Int) k).2=q:=⟨_,rfl⟩
     rw [hbt,hmt] at Hno Hyes
     rw [hbt,hmt]
     have Hbt:=Z9 hbt
     have Hmt:=Z9 hmt
     clear hbt hmt
     have y0:=cell_regrown e0
     have y1:=cell_regrown e1
     have y2:=cell_regrown e2
     have y3:=cell_regrown e3
     have y4:=cell_regrown e4
     have y5:=cell_regrown e5
     cases ma
     ·go_wp2_with fail
      refine wq ?_
      repeat (go_big_quiet_step (first | exact Calls.regrown_of (uh Hu _ (below_regrown _ _ _)) | exact Calls.regrown_of (uh Hf _ (below_regrown _ _ _)) | exact Calls.regrown_of (uh Ht _)))
      refine wpQuiet_nil ?_
      intro _ hw'
      obtain ⟨⟨dq,osq⟩,hw''⟩:=hw'
      subst hw''
      go_wp2_with (go_at_call 304;refine (uh Hma _ (below_regrown _ _ _)).mono ?_;rintro e w5 ⟨rfl,hb5⟩;have HX:=Z9 ((below_regrown wr dq osq).trans (hb5.mono (below_regrown _ _ _).size));clear hb5)
      go_roundw
      case rel=>exact ⟨k+1,by omega,by rw [uh Hno (.inl (by simp)),uh Hbt],by rw [uh Hno (.inl (by simp)),uh Hmt],by go_num,(uh kb).below (uh HX) (uh kb).lt,(uh Hv3).below (uh HX),(uh BB).trans ((uh HX).mono (uh BB).size)⟩
      case measure=>exact ms
     by_cases hb1:bt<0
     ·go_wp2_with fail
      refine wq ?_
      repeat (go_big_quiet_step (first | exact Calls.regrown_of (uh Hu _ (below_regrown _ _ _)) | exact Calls.regrown_of (uh Hf _ (below_regrown _ _ _)) | exact Calls.regrown_of (uh Ht _)))
      refine wpQuiet_nil ?_
      intro _ hw'
      obtain ⟨⟨dq,osq⟩,hw''⟩:=hw'
      subst hw''
      go_wp2_with (go_at_call 304;refine (uh Hma _ (below_regrown _ _ _)).mono ?_;rintro e w5 ⟨rfl,hb5⟩;have HX:=Z9 ((below_regrown wr dq osq).trans (hb5.mono (below_regrown _ _ _).size));clear hb5)
      go_roundw
      case rel=>exact ⟨k+1,by omega,by rw [uh Hyes (by simp) (.inl hb1)],by rw [uh Hyes (by simp) (.inl hb1)],by go_num,(uh kb).below (uh HX) (uh kb).lt,(uh Hv3).below (uh HX),(uh BB).trans ((uh HX).mono (uh BB).size)⟩
      case measure=>exact ms
     by_cases hb2:mt<sp
     ·go_wp2_with fail
      refine wq ?_
      repeat (go_big_quiet_step (first | exact Calls.regrown_of (uh Hu _ (below_regrown _ _ _)) | exact Calls.regrown_of (uh Hf _ (below_regrown _ _ _)) | exact Calls.regrown_of (uh Ht _)))
      refine wpQuiet_nil ?_
      intro _ hw'
      obtain ⟨⟨dq,osq⟩,hw''⟩:=hw'
      subst hw''
      go_wp2_with (go_at_call 304;refine (uh Hma _ (below_regrown _ _ _)).mono ?_;rintro e w5 ⟨rfl,hb5⟩;have HX:=Z9 ((below_regrown wr dq osq).trans (hb5.mono (below_regrown _ _ _).size));clear hb5)
      go_roundw
      case rel=>exact ⟨k+1,by omega,by rw [uh Hyes (by simp) (.inr hb2)],by rw [uh Hyes (by simp) (.inr hb2)],by go_num,(uh kb).below (uh HX) (uh kb).lt,(uh Hv3).below (uh HX),(uh BB).trans ((uh HX).mono (uh BB).size)⟩
      case measure=>exact ms
     ·go_wp2_with fail
      refine wq ?_
      repeat (go_big_quiet_step (first | exact Calls.regrown_of (uh Hu _ (below_regrown _ _ _)) | exact Calls.regrown_of (uh Hf _ (below_regrown _ _ _)) | exact Calls.regrown_of (uh Ht _)))
      refine wpQuiet_nil ?_
      intro _ hw'
      obtain ⟨⟨dq,osq⟩,hw''⟩:=hw'
      subst hw''
      go_wp2_with (go_at_call 304;refine (uh Hma _ (below_regrown _ _ _)).mono ?_;rintro e w5 ⟨rfl,hb5⟩;have HX:=Z9 ((below_regrown wr dq osq).trans (hb5.mono (below_regrown _ _ _).size));clear hb5)
      go_roundw
      case rel=>exact ⟨k+1,by omega,by rw [uh Hno (.inr ⟨by omega,by omega⟩),uh Hbt],by rw [uh Hno (.inr ⟨by omega,by omega⟩),uh Hmt],by go_num,(uh kb).below (uh HX) (uh kb).lt,(uh Hv3).below (uh HX),(uh BB).trans ((uh HX).mono (uh BB).size)⟩
      case measure=>exact ms
    ·obtain rfl:k=m.desks.length:=by omega
     go_wp2_with fail
     go_ret
     exact ⟨rfl,uh BB⟩
 ·rw [Ja hcr hle]
  have hlb:(X8 m (who:Int)).length<=m.desks.length:=Qo m (who:Int) m.desks.length
  generalize hL:X8 m (who:Int)=L at *
  go_enter Tryz.func276,Tryz.ntmps276
  go_wp2_with (first | (go_at_call 299;refine (SX (uh Hv) (uh HS) (uh HA)).mono ?_;rintro e w1 ⟨fv,rfl,hf1,hb1⟩;rw [hL] at hf1;obtain ⟨la,lc,rfl⟩:=RecAt.shape hf1;obtain ⟨g,rfl,_,g1,hgc,_⟩:=RecAt.view Zb (by omega) hf1 rfl hle;have C1:=Z9 (fun j hj=>Cy hgc (j:=j) hj);have kb1:=Z9 ((uh kb0).below hb1 (uh kb0).lt);have Hv1:=Z9 ((uh Hv).below hb1);have BB1:=Z9 ((uh BB0).trans (hb1.mono (uh BB0).size));clear hf1 hb1 hgc kb0 Hv BB0 c0 c1 c2 c3 c4 c5;have d0:=(uh kb1).cell (i:=0) (v:= .slice a0 m.rooms.length p0) rfl;have d1:=(uh kb1).cell (i:=1) (v:= .slice a1 m.guilds.length p1) rfl;have d2:=(uh kb1).cell (i:=2) (v:= .slice a2 m.smiths.length p2) rfl;have d3:=(uh kb1).cell (i:=3) (v:= .slice a3 m.desks.length p3) rfl;have d4:=(uh kb1).cell (i:=4) (v:= .slice a4 m.paces.length p4) rfl;have d5:=(uh kb1).cell (i:=5) (v:= .int .i64 m.now) rfl) | (go_at_call 300;refine (SW (uh Hv1) (uh HS)).mono ?_;rintro e w2 ⟨he,hb2⟩;rw [hcr] at he;subst he;have kb2:=Z9 ((uh kb1).below hb2 (uh kb1).lt);have Hv2:=Z9 ((uh Hv1).below hb2);have BB2:=Z9 ((uh BB1).trans (hb2.mono (uh BB1).size));have C2:=Z9 (fun j hj=>(hb2.cell (p:=⟨g,j,none⟩) g1).trans (uh C1 j hj));have g2:=Nat.lt_of_lt_of_le g1 hb2.size;clear hb2 kb1 Hv1 BB1 C1 g1 d0 d1 d2 d3 d4 d5;have d0:=(uh kb2).cell (i:=0) (v:= .slice a0 m.rooms.length p0) rfl;have d1:=(uh kb2).cell (i:=1) (v:= .slice a1 m.guilds.length p1) rfl;have d2:=(uh kb2).cell (i:=2) (v:= .slice a2 m.smiths.length p2) rfl;have d3:=(uh kb2).cell (i:=3) (v:= .slice a3 m.desks.length p3) rfl;have d4:=(uh kb2).cell (i:=4) (v:= .slice a4 m.paces.length p4) rfl;have d5:=(uh kb2).cell (i:=5) (v:= .int .i64 m.now) rfl;have x0:=uh C2 0 hle) | (go_at_call 301;refine (PZ _ (uh Hv2) (uh HS) (uh HP) (uh HA).lt (uh HA).st).mono ?_;rintro e w3 ⟨rfl,hb3⟩;have B3:=Z9 hb3;clear hb3) | fail)
  have kb3:=Z9 ((uh kb2).below (uh B3) (uh kb2).lt)
  have Hv3:=Z9 ((uh Hv2).below (uh B3))
  have BB3:=Z9 ((uh BB2).trans ((uh B3).mono (uh BB2).size))
  have C3:=Z9 (fun j hj=>((uh B3).cell (p:=⟨g,j,none⟩) g2).trans (uh C2 j hj))
  have g3:=Nat.lt_of_lt_of_le g2 (uh B3).size
  clear kb2 Hv2 BB2 B3 C2 g2 d0 d1 d2 d3 d4 d5 x0
  go_loopw [6,7,8] (fun bv lv i wr=> ∃ k:Nat,1<=k/\k<=L.length/\bv= .int .i64 (Xz m (who:Int) L k).1/\lv= .int .i64 (Xz m (who:Int) L k).2/\i= .int .i64 k/\(∀ j,j<L.length->wr.cell? ⟨g,j,none⟩=some (.int .i64 (Z8 L j)))/\g<wr.heap.size/\Blk wr w.heap.size 32 (S6 a0 p0 a1 p1 a2 p2 a3 p3 a4 p4 m)/\Smy wr (.slice a0 m.rooms.length p0) (.slice a1 m.guilds.length p1) (.slice a2 m.smiths.length p2) (.slice a3 m.desks.length p3) (.slice a4 m.paces.length p4) m/\Below w.heap.size w wr) (fun _ _ i _=>L.length-(intOf i).toNat)
  case atStart=>exact ⟨1,Nat.le_refl _,by omega,by rw [NI],by rw [NI],rfl,uh C3,g3,uh kb3,uh Hv3,uh BB3⟩
  case round=>
   obtain ⟨k,hk1,hk,rfl,rfl,rfl,hc,hg,hkb,hv,hb0⟩:=hrel
   have HC:=Z9 hc
   have kb:=Z9 hkb
   have Hv4:=Z9 hv
   have BB:=Z9 hb0
   clear hkb hv hb0 kb3 BB3 Hv3 hc C3 g3
   obtain ⟨e0,e1,e2,e3,e4,e5⟩:=(uh kb).c6
   by_cases hlt:k<L.length
   ·have hlt1:(k:Int)<(L.length:Int):=by omega
    have x0:=uh HC k hlt
    obtain ⟨_,_,hse,_,_,r2⟩:=(uh Hv4).smiths
    cases hse
    have hwl:=(uh HA).lt
    rcases r2 with e0 | ⟨sb,so,rfl,hbs,hcs⟩
    ·rw [e0] at hwl;simp at hwl
    obtain ⟨_,s1,_⟩:=ZC hcs hwl
    clear hcs
    have hwl1:(who:Int)<(m.smiths.length:Int):=by omega
    have Hno:=Z9 (fun hh=>Et (m:=m) (who:=who) (k:=k) hk1 hlt hh)
    have Hyes:=Z9 (fun hh=>Gt (m:=m) (who:=who) (k:=k) hk1 hlt hh)
    have Hw:=Z9 (fun (W:World) (hW:Below wr.heap.size wr W)=>PZ (Z8 L k) ((uh Hv4).below hW) (uh HS) (uh HP) (uh HA).lt (uh HA).st)
    generalize Ym m (who:Int) (Z8 L k)=n at *
    generalize Z8 L k=x at *
    generalize (Z8 m.smiths who).2.1=y at *
    obtain ⟨bt,hbt⟩:∃ q,(Xz m (who:Int) L k).1=q:=⟨_,rfl⟩
    obtain ⟨lt,hmt⟩:∃ q,(Xz m (who:Int) L k).2=q:=⟨_,rfl⟩
    rw [hmt] at Hno Hyes
    rw [hbt,hmt]
    have Hbt:=Z9 hbt
    have Hmt:=Z9 hmt
    clear hbt hmt
    have y0:=cell_regrown e0
    have y1:=cell_regrown e1
    have y2:=cell_regrown e2
    have y3:=cell_regrown e3
    have y4:=cell_regrown e4
    have y5:=cell_regrown e5
    have z0:=cell_regrown x0
    have z1:=cell_regrown s1
    go_wp2_with fail
    refine wq ?_
    repeat (go_big_quiet_step (first | exact Calls.regrown_of (uh Hw _ (below_regrown _ _ _))))
    refine wpQuiet_nil ?_
    intro _ hw'
    obtain ⟨⟨dq,osq⟩,hw''⟩:=hw'
    subst hw''
    go_wp2_with fail
    have hX:=Z9 (below_regrown wr dq osq)
    have q0:=y0 dq osq;have q1:=y1 dq osq;have q2:=y2 dq osq;have q3:=y3 dq osq;have q4:=y4 dq osq;have q5:=y5 dq osq
    have r0:=z0 dq osq
    have r1:=z1 dq osq
    clear z0 z1 x0 s1 y0 y1 y2 y3 y4 y5 e0 e1 e2 e3 e4 e5 Hw
    have HC2:=Z9 (fun j hj=>((uh hX).cell (p:=⟨g,j,none⟩) hg).trans (uh HC j hj))
    have hg2:=Nat.lt_of_lt_of_le hg (uh hX).size
    have kb9:=Z9 ((uh kb).below (uh hX) (uh kb).lt)
    have Hv9:=Z9 ((uh Hv4).below (uh hX))
    have BB9:=Z9 ((uh BB).trans ((uh hX).mono (uh BB).size))
    clear HC hg kb Hv4 BB hX hbs
    generalize grow (redrawn wr dq) osq=X at *
    have r2:=cell_regrown r0
    have r3:=cell_regrown r1
    have t0:=cell_regrown q0;have t1:=cell_regrown q1;have t2:=cell_regrown q2;have t3:=cell_regrown q3;have t4:=cell_regrown q4;have t5:=cell_regrown q5
    by_cases hn:n<lt
    ·refine wq ?_
     repeat (go_big_quiet_step (fail))
     refine wpQuiet_nil ?_
     intro _ hw'
     obtain ⟨⟨dq,osq⟩,hw''⟩:=hw'
     subst hw''
     go_wp2_with fail
     go_roundw
     case rel=>exact ⟨k+1,by omega,by omega,by rw [uh Hyes (by omega)],by rw [uh Hyes (by omega)],by go_num,fun j hj=>((below_regrown X dq osq).cell (p:=⟨g,j,none⟩) hg2).trans (uh HC2 j hj),Nat.lt_of_lt_of_le hg2 (below_regrown X dq osq).size,(uh kb9).below (below_regrown X dq osq) (uh kb9).lt,(uh Hv9).below (below_regrown X dq osq),(uh BB9).trans ((below_regrown X dq osq).mono (uh BB9).size)⟩
     case measure=>exact ms
    by_cases he:n=lt
    ·subst he
     by_cases hxy:x=y
     ·subst hxy
      refine wq ?_
      repeat (go_big_quiet_step (fail))
      refine wpQuiet_nil ?_
      intro _ hw'
      obtain ⟨⟨dq,osq⟩,hw''⟩:=hw'
      subst hw''
      go_wp2_with fail
      go_roundw
      case rel=>exact ⟨k+1,by omega,by omega,by rw [uh Hyes (by omega)],by rw [uh Hyes (by omega)],by go_num,fun j hj=>((below_regrown X dq osq).cell (p:=⟨g,j,none⟩) hg2).trans (uh HC2 j hj),Nat.lt_of_lt_of_le hg2 (below_regrown X dq osq).size,(uh kb9).below (below_regrown X dq osq) (uh kb9).lt,(uh Hv9).below (below_regrown X dq osq),(uh BB9).trans ((below_regrown X dq osq).mono (uh BB9).size)⟩
      case measure=>exact ms
     ·refine wq ?_
      repeat (go_big_quiet_step (fail))
      refine wpQuiet_nil ?_
      intro _ hw'
      obtain ⟨⟨dq,osq⟩,hw''⟩:=hw'
      subst hw''
      go_wp2_with fail
      go_roundw
      case rel=>exact ⟨k+1,by omega,by omega,by rw [uh Hno (by omega),uh Hbt],by rw [uh Hno (by omega),uh Hmt],by go_num,fun j hj=>((below_regrown X dq osq).cell (p:=⟨g,j,none⟩) hg2).trans (uh HC2 j hj),Nat.lt_of_lt_of_le hg2 (below_regrown X dq osq).size,(uh kb9).below (below_regrown X dq osq) (uh kb9).lt,(uh Hv9).below (below_regrown X dq osq),(uh BB9).trans ((below_regrown X dq osq).mono (uh BB9).size)⟩
      case measure=>exact ms
    ·have e1:(n ==lt)=false:=by simpa using he
     have e2:decide (n=lt)=false:=decide_eq_false he
     refine wq ?_
     repeat (go_big_quiet_step (fail))
     refine wpQuiet_nil ?_
     intro _ hw'
     obtain ⟨⟨dq,osq⟩,hw''⟩:=hw'
     subst hw''
     go_wp2_with fail
     go_roundw
     case rel=>exact ⟨k+1,by omega,by omega,by rw [uh Hno (by omega),uh Hbt],by rw [uh Hno (by omega),uh Hmt],by go_num,fun j hj=>((below_regrown X dq osq).cell (p:=⟨g,j,none⟩) hg2).trans (uh HC2 j hj),Nat.lt_of_lt_of_le hg2 (below_regrown X dq osq).size,(uh kb9).below (below_regrown X dq osq) (uh kb9).lt,(uh Hv9).below (below_regrown X dq osq),(uh BB9).trans ((below_regrown X dq osq).mono (uh BB9).size)⟩
     case measure=>exact ms
   ·obtain rfl:k=L.length:=by omega
    go_wp2_with fail
    go_ret
    exact ⟨rfl,uh BB⟩
set_option linter.unusedSimpArgs false
theorem Ur (h:Loose m):m.paces.length<=1000:=by
 rw [XC h]
 have hd:=h.head
 unfold Y2 at hd
 simp only [Bool.and_eq_true,decide_eq_true_eq] at hd
 have:=(Zy hd.1).2.1
 omega
theorem RM (h:Loose m) {k:Nat} (hk:k<m.smiths.length) (hs:(Z8 m.smiths k).1 ≠ 0):Sh m k/\ ∃ bn:Nat,(Z8 m.smiths k).2.1=(bn:Int)/\bn<m.desks.length:=by
 obtain ⟨p,_,hb⟩:=h.limits hk hs
 obtain ⟨⟨st,be,rk,my,gu,lo,hi,hd,ca,ut,wk⟩,hrk⟩:∃ d,Z8 m.smiths k=d:=⟨_,rfl⟩
 rw [hrk] at p hb
 obtain ⟨_,x1,_,x3,_⟩:=Zi p
 simp only at hb
 refine ⟨⟨hk,hs,?_,?_⟩,be.toNat,?_,by omega⟩
 ·rw [hrk];show (0:Int)<=my;omega
 ·rw [hrk];show my<=255;omega
 ·rw [hrk];show be=_;omega
theorem L6  (who:Int) (h:Smy w v0 v1 v2 v3 v4 m) :
  Calls Tryz.prog 245 #[.agg #[v0,v1,v2,v3,v4,.int .i64 m.now],.int .i64 who] w fun e w'=>TC w.heap.size (UD m who).1 (UD m who).2 e w'/\Below w.heap.size w w':=by
 obtain ⟨X,hX⟩:∃ x,UD m who=x:=⟨_,rfl⟩
 rw [hX]
 have HX:=Z9 hX
 clear hX
 have Hv0:=Z9 h
 obtain ⟨a0,p0,a1,p1,a2,p2,a3,p3,a4,p4,rfl,rfl,rfl,rfl,rfl,_,_,_,_,_,_,_,_,_,_⟩:=h.five
 clear h
 obtain ⟨ok,hok⟩:∃ q,ZP m=q:=⟨_,rfl⟩
 have Hok:=Z9 hok
 clear hok
 go_enter Tryz.func245,Tryz.ntmps245
 go_wp2_with fail
 obtain ⟨W,hW,kb,kr,BB⟩:=YS w 32 (S6 a0 p0 a1 p1 a2 p2 a3 p3 a4 p4 m) 32 E6
 have Hv:=Z9 ((uh Hv0).below (uh BB))
 clear Hv0
 rw [hW]
 clear hW
 refine ck (XX (uh Hok) (uh Hv)) fun w1 hb=> ?_
 replace kb:=bl kb hb
 replace kr:=bl kr hb
 replace Hv:=Z9 ((uh Hv).below hb)
 replace BB:=bt BB hb
 clear hb
 cases ok
 ·
  obtain ⟨c0,c1,c2,c3,c4,c5⟩:=(uh kb).c6
  go_wp2_with fail
  clear c0 c1 c2 c3 c4 c5
  refine ck (Yy (uh Hv)) fun w2 hb=> ?_
  replace kb:=bl kb hb
  replace kr:=bl kr hb
  replace Hv:=Z9 ((uh Hv).below hb)
  replace BB:=bt BB hb
  clear hb
  obtain ⟨o0,o1,o2,o3,o4,o5⟩:=(uh kr).c6
  obtain ⟨f0,f1,f2,f3,f4,f5⟩:=(uh kr).f6
  go_wp2_with fail
  have hX0:X=(YJ,3):=by rw [<-uh HX];unfold UD;rw [uh Hok];rfl
  exact bodyPost_ret (v:= .tuple #[.agg E6,.int .i64 3]) (by simp [results,Tryz.results245,go_sem, *]) rfl (Zr hX0 rfl (Y1 _ _) (uh BB))
 have hlo:=ZY (uh Hok)
 have HLo:=Z9 hlo
 have HFew:=Z9 (XJ hlo)
 clear hlo
 obtain ⟨c0,c1,c2,c3,c4,c5⟩:=(uh kb).c6
 go_wp2_with fail
 clear c0 c1 c2 c3 c4 c5
 refine (U2 (uh Hv) (uh HFew) (uh kb) (uh kr) (uh BB)).mono ?_
 clear kb kr Hv BB
 rintro e w2 ⟨b0,q0,b1,q1,b2,q2,b3,q3,b4,q4,oq,rfl,W2,ob,hW2,hob2,kb,kr,Hv,HO,ko,LO,hob,BB⟩
 go_upto_region 4 with fail
 (try rw [hW2])
 (try rw [hob2])
 clear hW2 hob2
 obtain ⟨qw,hqw⟩:∃ q,UP m who=q:=⟨_,rfl⟩
 have Hqw:=Z9 hqw
 clear hqw
 obtain ⟨c0,c1,c2,c3,c4,c5⟩:=(uh kb).c6
 go_wp2_with fail
 clear c0 c1 c2 c3 c4 c5
 refine ck (Va (uh Hqw) (uh Hv)) fun w3 hb=> ?_
 replace kb:=bl kb hb
 replace kr:=bl kr hb
 replace Hv:=Z9 ((uh Hv).below hb)
 replace HO:=Z9 ((uh HO).below hb)
 replace ko:=bl ko hb
 replace BB:=bt BB hb
 clear hb
 cases qw
 ·
  obtain ⟨x0,x1,x2,x3,x4,x5⟩:=(uh ko).c6
  obtain ⟨o0,o1,o2,o3,o4,o5⟩:=(uh kr).c6
  obtain ⟨f0,f1,f2,f3,f4,f5⟩:=(uh kr).f6
  go_wp2_with fail
  have hX0:X=(m,1):=by rw [<-uh HX];unfold UD;rw [uh Hok,uh Hqw];rfl
  exact bodyPost_ret (v:= .tuple #[.agg (S6 b0 q0 b1 q1 b2 q2 b3 q3 b4 q4 m),.int .i64 1]) (by simp [results,Tryz.results245,go_sem, *]) rfl (Zr hX0 rfl (uh HO) (uh BB))
 obtain ⟨k,rfl,hk,hs0⟩:=Xj (uh Hqw)
 have hk1:(k:Int)<(m.smiths.length:Int):=by omega
 obtain ⟨hA,bn,hbn,hbnl⟩:=RM (uh HLo) hk hs0
 have HA:=Z9 hA
 clear hA
 obtain ⟨_,_,hse,_,_,r2⟩:=(uh Hv).smiths
 cases hse
 rcases r2 with e0 | ⟨sb,off,rfl,hbw,hcl⟩
 ·rw [e0] at hk;simp at hk
 obtain ⟨d0,d1,d2,d3,d4,d5,d6,d7,d8,d9,d10⟩:=ZC hcl hk
 clear hcl
 obtain ⟨⟨st,be,rk,my,gu,lo,hi,hd,ca,ut,wk⟩,hrk⟩:∃ d,Z8 m.smiths k=d:=⟨_,rfl⟩
 rw [hrk] at d0 d1 d2 d3 d4 d5 d6 d7 d8 d9 d10 hbn hs0
 simp only at d0 d1 d2 d3 d4 d5 d6 d7 d8 d9 d10 hbn hs0
 subst hbn
 have Hrk:=Z9 hrk
 clear hrk
 have c2:=(uh kb).cell (i:=2) (v:= .slice (some ⟨sb,off,none⟩) m.smiths.length p2) rfl
 go_upto_region 7 with fail
 clear d0 d1 d2 d3 d4 d5 d6 d7 d8 d9 d10 c2
 obtain ⟨W3,hW3,hba,ks⟩:=YO w3 39 (I11 st (bn:Int) rk my gu lo hi hd ca ut wk)
 replace kb:=bl kb hba
 replace kr:=bl kr hba
 replace Hv:=Z9 ((uh Hv).below hba)
 replace HO:=Z9 ((uh HO).below hba)
 replace ko:=bl ko hba
 replace BB:=bt BB hba
 clear hba
 rw [hW3]
 clear hW3
 generalize w3.heap.size=sv at *
 by_cases hst:st=1
 rotate_left
 ·
  have e0:=(uh ks).cell (i:=0) (v:= .int .i64 st) rfl
  have hst1:(st ==1)=false:=by simp [hst]
  have hst2:decide (st=1)=false:=by simp [hst]
  obtain ⟨x0,x1,x2,x3,x4,x5⟩:=(uh ko).c6
  obtain ⟨o0,o1,o2,o3,o4,o5⟩:=(uh kr).c6
  obtain ⟨f0,f1,f2,f3,f4,f5⟩:=(uh kr).f6
  go_wp2_with fail
  have hX0:X=(m,2):=by rw [<-uh HX];unfold UD;rw [uh Hok,uh Hqw];simp only [if_true,Int.toNat_natCast];rw [if_neg (show ¬ (Z8 m.smiths k).1=1 by rw [uh Hrk];exact hst)]
  exact bodyPost_ret (v:= .tuple #[.agg (S6 b0 q0 b1 q1 b2 q2 b3 q3 b4 q4 m),.int .i64 2]) (by simp [results,Tryz.results245,go_sem, *]) rfl (Zr hX0 rfl (uh HO) (uh BB))
 subst hst
 have Hst:Hid ((Z8 m.smiths k).1=1):=Z9 (by rw [uh Hrk])
 have e0:=(uh ks).cell (i:=0) (v:= .int .i64 1) rfl
 obtain ⟨b,hb⟩:∃ q,YA m (k:Int)=q:=⟨_,rfl⟩
 have Hb:=Z9 hb
 clear hb
 obtain ⟨c0,c1,c2,c3,c4,c5⟩:=(uh kb).c6
 go_wp2_with fail
 clear c0 c1 c2 c3 c4 c5
 clear e0
 refine (WY (who:=k) (uh Hv) (uh HLo).sane (Ur (uh HLo)) (uh HA)).mono ?_
 rw [uh Hb]
 rintro e w4 ⟨rfl,hb⟩
 replace kb:=bl kb hb
 replace kr:=bl kr hb
 replace Hv:=Z9 ((uh Hv).below hb)
 replace HO:=Z9 ((uh HO).below hb)
 replace ko:=bl ko hb
 replace ks:=bl ks hb
 replace BB:=bt BB hb
 clear hb
 by_cases hbn:b<0
 ·
  obtain ⟨x0,x1,x2,x3,x4,x5⟩:=(uh ko).c6
  obtain ⟨o0,o1,o2,o3,o4,o5⟩:=(uh kr).c6
  obtain ⟨f0,f1,f2,f3,f4,f5⟩:=(uh kr).f6
  go_wp2_with fail
  have hX0:X=(m,2):=by rw [<-uh HX];unfold UD;rw [uh Hok,uh Hqw];simp only [if_true,Int.toNat_natCast];rw [if_pos (uh Hst),uh Hb,if_pos hbn]
  exact bodyPost_ret (v:= .tuple #[.agg (S6 b0 q0 b1 q1 b2 q2 b3 q3 b4 q4 m),.int .i64 2]) (by simp [results,Tryz.results245,go_sem, *]) rfl (Zr hX0 rfl (uh HO) (uh BB))
 obtain ⟨bb,hbb,rfl⟩:∃ bb:Nat,bb<m.desks.length/\b=(bb:Int):=by
  rcases Vt m (k:Int) with ⟨e,_⟩ | ⟨bb,hbl,e,_⟩
  ·rw [uh Hb] at e;omega
  ·exact ⟨bb,hbl,(uh Hb).symm.trans e⟩
 obtain ⟨c0,c1,c2,c3,c4,c5⟩:=(uh kb).c6
 go_wp2_with fail
 clear c0 c1 c2 c3 c4 c5
 have hobw:=(uh ko).lt
 refine (YE (uh Hv) (uh HFew)).mono ?_
 rintro e w5 ⟨y0,y1,y2,y3,y4,xq,rfl,ho,hb⟩
 have k9:=ho.smy
 obtain ⟨xa0,xp0,xa1,xp1,xa2,xp2,xa3,xp3,xa4,xp4,rfl,rfl,rfl,rfl,rfl,_,_,_,_,_,_,_,_,_,_⟩:=k9.five
 clear k9
 replace kb:=bl kb hb
 replace kr:=bl kr hb
 replace Hv:=Z9 ((uh Hv).below hb)
 replace HO:=Z9 ((uh HO).below hb)
 replace ko:=bl ko hb
 replace ks:=bl ks hb
 replace BB:=bt BB hb
 have hszx:=hb.size
 have HY:=Z9 (ho.mono (n₁:=w.heap.size+2) (by omega))
 have LX:Hid (∀ k,WW (.slice xa0 m.rooms.length xp0) (.slice xa1 m.guilds.length xp1) (.slice xa2 m.smiths.length xp2) (.slice xa3 m.desks.length xp3) (.slice xa4 m.paces.length xp4) xq k->ob+1<=k/\k<w5.heap.size):=Z9 (fun k e=>by have:=ho.own e;omega)
 have hxb:ob+1<=w5.heap.size:=by omega
 clear ho hb hobw hszx
 go_upto_region 13 with fail
 obtain ⟨W4,hW4,hba,kx⟩:=YO w5 32 (S6 xa0 xp0 xa1 xp1 xa2 xp2 xa3 xp3 xa4 xp4 m)
 replace kb:=bl kb hba
 replace kr:=bl kr hba
 replace Hv:=Z9 ((uh Hv).below hba)
 replace HO:=Z9 ((uh HO).below hba)
 replace ko:=bl ko hba
 replace ks:=bl ks hba
 replace HY:=Z9 ((uh HY).below hba)
 replace BB:=bt BB hba
 clear hba
 rw [hW4]
 clear hW4
 generalize w5.heap.size=xb at *
 obtain ⟨_,_,hde,_,_,r3⟩:=(uh Hv).desks
 cases hde
 rcases r3 with e0 | ⟨db,doff,rfl,hdw,hcl⟩
 ·rw [e0] at hbb;simp at hbb
 obtain ⟨_,_,m1⟩:=Zp hcl hbnl
 obtain ⟨_,_,m2⟩:=Zp hcl hbb
 clear hcl
 obtain ⟨mk1,hmk1⟩:∃ q,(Z8 m.desks bn).2.2=q:=⟨_,rfl⟩
 obtain ⟨mk2,hmk2⟩:∃ q,(Z8 m.desks bb).2.2=q:=⟨_,rfl⟩
 rw [hmk1] at m1
 rw [hmk2] at m2
 have hwk:To m k (bb:Int)=setS m k (2,(bb:Int),rk,my,gu,lo,hi,(Y8 (Zq hd mk1 mk2) mk2),ca,ut,wk):=by
  unfold To Gn OM XK XG
  rw [uh Hrk]
  simp only [Int.toNat_natCast]
  rw [hmk1,hmk2]
 have Hwk:=Z9 hwk
 clear hmk1 hmk2 hwk
 have c3:=(uh kb).cell (i:=3) (v:= .slice (some ⟨db,doff,none⟩) m.desks.length p3) rfl
 have e1:=(uh ks).cell (i:=1) (v:= .int .i64 (bn:Int)) rfl
 have e7:=(uh ks).cell (i:=7) (v:= .int .i64 hd) rfl
 obtain ⟨g2,hga,_,_,hc2,hz2⟩:=RecAt.view ZT (by omega) (uh HY).smiths rfl (by omega)
 cases hga
 have hg2o:=(uh LX g2 (.inr (.inr (.inr (.inl rfl)))))
 have x2:=(uh kx).cell (i:=2) (v:= .slice (some ⟨g2,0,none⟩) m.smiths.length xp2) rfl
 have s7:=hc2 k hk 7 _ rfl
 have f7:=hz2 (k*11+7)
 have hput:=(uh HY).putS rfl (j:=k) (i:=7) hk (by omega) (.int .i64 (Y8 (Zq hd mk1 mk2) mk2)) (1,(bn:Int),rk,my,gu,lo,hi,(Y8 (Zq hd mk1 mk2) mk2),ca,ut,wk) (by rw [uh Hrk];rfl)
 have HP:=Z9 hput
 clear hput hc2 hz2
 have hbn2:(bn:Int)<(m.desks.length:Int):=by omega
 have hbb2:(bb:Int)<(m.desks.length:Int):=by omega
 go_wp2_with fail
 refine ZS (S:=fun w'=>w'.cell? ⟨xb,2,none⟩=some (.slice (some ⟨g2,0,none⟩) m.smiths.length xp2)/\w'.cell? ⟨sv,7,none⟩=some (.int .i64 hd)/\w'.cell? ⟨w.heap.size,3,none⟩=some (.slice (some ⟨db,doff,none⟩) m.desks.length p3)/\w'.cell? ⟨sv,1,none⟩=some (.int .i64 (bn:Int))/\w'.cell? ⟨db,doff+bn*3+2,none⟩=some (.int .i64 mk1)/\w'.cell? ⟨db,doff+bb*3+2,none⟩=some (.int .i64 mk2)) (by kernel_rfl) (List.cons_ne_nil _ _) (by kernel_rfl) ⟨x2,e7,c3,e1,m1,m2⟩ (fun hHeld=> ?_)
 simp only [List.dropLast_cons_cons,List.dropLast_singleton,List.length_cons,List.length_nil,Nat.zero_add,Nat.reduceAdd]
 (refine tq 0 ?_;(try simp only [Act.put,sA,sZ,sS]))
 (refine tq 1 ?_;(try simp only [Act.put,sA,sZ,sS]))
 (refine tq 2 ?_;(try simp only [Act.put,sA,sZ,sS]))
 (refine tq 3 ?_;(try simp only [Act.put,sA,sZ,sS]))
 (refine tq 4 ?_;(try simp only [Act.put,sA,sZ,sS]))
 (refine tq 5 ?_;(try simp only [Act.put,sA,sZ,sS]))
 (refine tq 6 ?_;(try simp only [Act.put,sA,sZ,sS]))
 (refine tq 7 ?_;(try simp only [Act.put,sA,sZ,sS]))
 (refine tq 8 ?_;(try simp only [Act.put,sA,sZ,sS]))
 (refine tq 9 ?_;(try simp only [Act.put,sA,sZ,sS]))
 (refine tq 10 ?_;(try simp only [Act.put,sA,sZ,sS]))
 (refine tq 11 ?_;(try simp only [Act.put,sA,sZ,sS]))
 (refine tq 12 ?_;(try simp only [Act.put,sA,sZ,sS]))
 (refine tq 13 ?_;(try simp only [Act.put,sA,sZ,sS]))
 (refine tq 14 ?_;(try simp only [Act.put,sA,sZ,sS]))
 (refine tq 15 ?_;(try simp only [Act.put,sA,sZ,sS]))
 (refine tq 16 ?_;(try simp only [Act.put,sA,sZ,sS]))
 (refine tq 17 ?_;(try simp only [Act.put,sA,sZ,sS]))
 (refine tq 19 ?_;(try simp only [Act.put,sA,sZ,sS]))
 (refine tq 20 ?_;(try simp only [Act.put,sA,sZ,sS]))
 (refine tq 21 ?_;(try simp only [Act.put,sA,sZ,sS]))
 (refine tq 22 ?_;(try simp only [Act.put,sA,sZ,sS]))
 (refine tq 23 ?_;(try simp only [Act.put,sA,sZ,sS]))
 (refine tq 24 ?_;(try simp only [Act.put,sA,sZ,sS]))
 refine rd 18 rfl (fun K hK=> ?_)
 go_simp
 refine ck (Sf hd mk1 mk2 _) fun w9 hw9=> ?_
 subst w9
 refine hK.out _ _ hHeld (fun hHeld=> ?_)
 clear hK K
 (try simp only [Act.put,sA,sZ,sS])
 refine rd 25 rfl (fun K hK=> ?_)
 go_simp
 refine ck (OY (Zq hd mk1 mk2) mk2 _) fun w9 hw9=> ?_
 subst w9
 refine hK.out _ _ hHeld (fun hHeld=> ?_)
 clear hK K
 (try simp only [Act.put,sA,sZ,sS])
 (refine tq 26 ?_;(try simp only [Act.put,sA,sZ,sS]))
 (refine tq 27 ?_;(try simp only [Act.put,sA,sZ,sS]))
 refine wpAnyH_done (by kernel_rfl) ?_ _
 refine ZH rfl rfl ?_
 go_simp
 clear hHeld x2 e7 c3 e1 m1 m2 s7 f7
 go_wp2_with fail
 replace kx:Hid (Blk ((W4.setCell ⟨g2,k*11+7,none⟩ (.int .i64 (Y8 (Zq hd mk1 mk2) mk2))).drew) xb 32 (S6 xa0 xp0 xa1 xp1 (some ⟨g2,0,none⟩) xp2 xa3 xp3 xa4 xp4 m)):=Z9 ((((uh kx).other (a:=⟨g2,k*11+7,none⟩) (by show xb ≠ g2;omega) (.int .i64 (Y8 (Zq hd mk1 mk2) mk2)))).below (Below.refl _ _).drew ((uh kx).other (a:=⟨g2,k*11+7,none⟩) (by show xb ≠ g2;omega) (.int .i64 (Y8 (Zq hd mk1 mk2) mk2))).lt)
 replace ko:Hid (Blk ((W4.setCell ⟨g2,k*11+7,none⟩ (.int .i64 (Y8 (Zq hd mk1 mk2) mk2))).drew) ob 32 (S6 b0 q0 b1 q1 b2 q2 b3 q3 b4 q4 m)):=Z9 ((((uh ko).other (a:=⟨g2,k*11+7,none⟩) (by show ob ≠ g2;omega) (.int .i64 (Y8 (Zq hd mk1 mk2) mk2)))).below (Below.refl _ _).drew ((uh ko).other (a:=⟨g2,k*11+7,none⟩) (by show ob ≠ g2;omega) (.int .i64 (Y8 (Zq hd mk1 mk2) mk2))).lt)
 replace kr:Hid (Blk ((W4.setCell ⟨g2,k*11+7,none⟩ (.int .i64 (Y8 (Zq hd mk1 mk2) mk2))).drew) (w.heap.size+1) 32 E6):=Z9 ((((uh kr).other (a:=⟨g2,k*11+7,none⟩) (by show (w.heap.size+1) ≠ g2;omega) (.int .i64 (Y8 (Zq hd mk1 mk2) mk2)))).below (Below.refl _ _).drew ((uh kr).other (a:=⟨g2,k*11+7,none⟩) (by show (w.heap.size+1) ≠ g2;omega) (.int .i64 (Y8 (Zq hd mk1 mk2) mk2))).lt)
 replace HO:Hid (FullSmy (w.heap.size+2) ((W4.setCell ⟨g2,k*11+7,none⟩ (.int .i64 (Y8 (Zq hd mk1 mk2) mk2))).drew) (.slice b0 m.rooms.length q0) (.slice b1 m.guilds.length q1) (.slice b2 m.smiths.length q2) (.slice b3 m.desks.length q3) (.slice b4 m.paces.length q4) m oq):=Z9 (((uh HO).set_off (fun k e=>by have:=(uh LO k e).2;omega) _ _).below (Below.refl _ _).drew)
 replace HP:=Z9 ((uh HP).below (Below.refl _ _).drew)
 replace BB:Hid (Below w.heap.size w ((W4.setCell ⟨g2,k*11+7,none⟩ (.int .i64 (Y8 (Zq hd mk1 mk2) mk2))).drew)):=Z9 ((uh BB).setCell (p:=⟨g2,k*11+7,none⟩) (by show w.heap.size<=g2;omega) (.int .i64 (Y8 (Zq hd mk1 mk2) mk2))).drew
 clear kb Hv ks HY
 generalize (W4.setCell ⟨g2,k*11+7,none⟩ (.int .i64 (Y8 (Zq hd mk1 mk2) mk2))).drew=W5 at *
 have hofX:∀ k,WW (.slice xa0 m.rooms.length xp0) (.slice xa1 m.guilds.length xp1) (.slice (some ⟨g2,0,none⟩) m.smiths.length xp2) (.slice xa3 m.desks.length xp3) (.slice xa4 m.paces.length xp4) xq k->k ≠ xb:=fun k e=>by have:=(uh LX k e).2;omega
 refine (Ol (m:=setS m k (1,(bn:Int),rk,my,gu,lo,hi,(Y8 (Zq hd mk1 mk2) mk2),ca,ut,wk)) (k:=k) (uh kx) (uh HP) (fun e=>hofX _ (.inr (.inr (.inr (.inl e)))) rfl) (fun e=>hofX _ (.inr (.inr (.inr (.inr (.inl e))))) rfl) (by show k<(m.smiths.set k _).length;simp;omega) (bb:Int)).mono ?_
 rintro e w7 ⟨rfl,hf7,ht7⟩
 have hW:setS (setS m k (1,(bn:Int),rk,my,gu,lo,hi,(Y8 (Zq hd mk1 mk2) mk2),ca,ut,wk)) k (2,(bb:Int),(Z8 (setS m k (1,(bn:Int),rk,my,gu,lo,hi,(Y8 (Zq hd mk1 mk2) mk2),ca,ut,wk)).smiths k).2.2)=To m k (bb:Int):=by
  rw [MH,uh Hwk]
  show setS m k (2,(bb:Int),(Z8 (m.smiths.set k _) k).2.2)=_
  rw [ZK hk,if_pos rfl]
 rw [hW] at hf7
 replace kx:=Z9 ((uh kx).two ht7 (fun e=>hofX _ (.inr (.inr (.inr (.inl e)))) rfl) (fun e=>hofX _ (.inr (.inr (.inr (.inr (.inl e))))) rfl))
 replace ko:=Z9 ((uh ko).two ht7 (fun e=>by have:=(uh LX _ (.inr (.inr (.inr (.inl e))))).1;omega) (fun e=>by have:=(uh LX _ (.inr (.inr (.inr (.inr (.inl e)))))).1;omega))
 replace kr:=Z9 ((uh kr).two ht7 (fun e=>by have:=(uh LX _ (.inr (.inr (.inr (.inl e))))).1;omega) (fun e=>by have:=(uh LX _ (.inr (.inr (.inr (.inr (.inl e)))))).1;omega))
 replace HO:=Z9 ((uh HO).keep (fun k e0=>ht7.block k ((uh HO).own e0).2 (fun e=>by have:=(uh LX _ (.inr (.inr (.inr (.inl e))))).1;have:=(uh LO k e0).2;omega) (fun e=>by have:=(uh LX _ (.inr (.inr (.inr (.inr (.inl e)))))).1;have:=(uh LO k e0).2;omega)))
 replace BB:=Z9 ((uh BB).trans (ht7.below (uh BB).size (fun k e=>by have:=(uh LX k (.inr (.inr (.inr (.inl e))))).1;omega) (fun k e=>by have:=(uh LX k (.inr (.inr (.inr (.inr (.inl e)))))).1;omega)))
 replace HP:=Z9 hf7
 clear hf7 ht7 hW hofX
 obtain ⟨lb,hlb⟩:∃ q,Y0 (To m k (bb:Int))=q:=⟨_,rfl⟩
 have Hlb:=Z9 hlb
 clear hlb
 obtain ⟨z0,z1,z2,z3,z4,z5⟩:=(uh kx).c6
 go_wp2_with fail
 clear z0 z1 z2 z3 z4 z5
 refine (VC (m:=To m k (bb:Int)) (uh HP).smy).mono ?_
 rw [uh Hlb]
 rintro e w8 ⟨rfl,hb⟩
 replace kx:=bl kx hb
 replace ko:=bl ko hb
 replace kr:=bl kr hb
 replace HO:=Z9 ((uh HO).below hb)
 replace HP:=Z9 ((uh HP).below hb)
 replace BB:=bt BB hb
 clear hb
 cases lb
 ·
  obtain ⟨x0,x1,x2,x3,x4,x5⟩:=(uh ko).c6
  obtain ⟨o0,o1,o2,o3,o4,o5⟩:=(uh kr).c6
  obtain ⟨f0,f1,f2,f3,f4,f5⟩:=(uh kr).f6
  go_wp2_with fail
  have hX0:X=(m,4):=by rw [<-uh HX];unfold UD;rw [uh Hok,uh Hqw];simp only [if_true,Int.toNat_natCast];rw [if_pos (uh Hst),uh Hb,if_neg (by omega),uh Hlb];rfl
  exact bodyPost_ret (v:= .tuple #[.agg (S6 b0 q0 b1 q1 b2 q2 b3 q3 b4 q4 m),.int .i64 4]) (by simp [results,Tryz.results245,go_sem, *]) rfl (Zr hX0 rfl (uh HO) (uh BB))
 have hfw:=uh HFew
 go_wp2_with fail
 refine (VP (m:=To m k (bb:Int)) (uh kx) (uh HP) (fun k e=>by have:=(uh LX k e).2;omega) (uh kr) (uh BB) (by show (m.smiths.set k _).length<=800;have:=hfw.smiths;simp;omega) hfw.desks).mono ?_
 clear kr BB
 rintro e w9 ⟨rfl,HF9,kr,BB⟩
 obtain ⟨o0,o1,o2,o3,o4,o5⟩:=(uh kr).c6
 obtain ⟨f0,f1,f2,f3,f4,f5⟩:=(uh kr).f6
 go_wp2_with fail
 have hX0:X=(ZX (To m k (bb:Int)),0):=by rw [<-uh HX];unfold UD;rw [uh Hok,uh Hqw];simp only [if_true,Int.toNat_natCast];rw [if_pos (uh Hst),uh Hb,if_neg (by omega),uh Hlb];rfl
 have hnow:(ZX (To m k (bb:Int))).now=m.now:=(ZQ _ _).2.2.2.1
 exact bodyPost_ret (v:= .tuple #[.agg (S6 xa0 xp0 xa1 xp1 (some ⟨g2,0,none⟩) xp2 xa3 xp3 xa4 xp4 m),.int .i64 0]) (by simp [results,Tryz.results245,go_sem,setS,Xq,YH,pushS,To, *]) rfl (Zr hX0 hnow (uh HF9) (uh BB))
end Go.Proofs.YtffcgajndmhpkaaGreatDoor
