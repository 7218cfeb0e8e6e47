/- Part 21 of what the proof rests on. No condition but those that a theorem names. -/
import Derived.Test.YtmdgokjeobnnaaaGreatDoorXt17
set_option maxHeartbeats 8000000
set_option maxRecDepth 100000
namespace Go.Proofs.YtmdgokjeobnnaaaGreatDoor
open Go.ChangeShapes Go.WideShapes Go.ChangeAt Go.RowKit Go.Sort Go.Proofs.Tryz
set_option linter.unusedVariables false
variable {w w' w0 w1 w2 w3 w₀ wr W W' X A B C : World} {v v0 v1 v2 v3 v4 u u0 u1 u2 u3 u4 : Value} {m : Z7}
theorem Calls.same_below {P:Program} {f:FuncId} {args:Array Value}  (h:Calls P f args w fun e w'=>e= .returned v/\w'=w):Calls P f args w fun e w'=>e= .returned v/\Below w.heap.size w w':=
 h.mono fun e w' ⟨he,hw⟩=>⟨he,by rw [hw];exact Z2 _ _⟩
theorem UM  {k b:Nat} (h:Smy w v0 v1 v2 v3 v4 m) (hk:k<m.sm.length) (hb:b<m.dk.length) (h7:b<=7) (y0:0<=(Z8 m.sm k).2.2.2.1) (y1:(Z8 m.sm k).2.2.2.1<=255) :
  cB 158 #[.agg #[v0,v1,v2,v3,v4,.int .i64 m.now],.int .i64 (k:Int),.int .i64 (b:Int)] w (.bool (Yi m (k:Int) b)):=by
 have hm:Yi m (k:Int) b=((Z8 m.dk b).1 && VI (Z8 m.sm k).2.2.2.1 b):=rfl;rw [hm];clear hm;obtain ⟨a0,p0,rfl,_,_⟩:=IsRooms.shape h.rm;obtain ⟨a1,p1,rfl,_,_⟩:=IsRec.shape h.gd;obtain ⟨a4,p4,rfl,_,_⟩:=IsRec.shape h.pc;obtain ⟨a2,p2,rfl,_,_,r2⟩:=h.sm;obtain ⟨a3,p3,rfl,_,_,r3⟩:=h.dk;clear h
 rcases r2 with e0 | ⟨sb,so,rfl,hbs,hcs⟩
 ·rw [e0] at hk;simp at hk
 rcases r3 with e0 | ⟨db,dof,rfl,hbd,hcd⟩
 ·rw [e0] at hb;simp at hb
 obtain ⟨_,_,_,s3,_⟩:=YM hcs hk;obtain ⟨d0,_,_⟩:=Yv hcd hb;have hk1:(k:Int)<(m.sm.length:Int):=by omega
 have hb1:(b:Int)<(m.dk.length:Int):=by omega
 clear hcs hcd;generalize (Z8 m.sm k).2.2.2.1=my at *;generalize (Z8 m.dk b).1=op at *;cases op
 all_goals
  go_enter func158,ntmps158;go_wp2_with (go_at_call 64;refine (Pm my (b:Int) _ y0 y1 (by omega) (by omega)).mono ?_;rintro e w' ⟨rfl,h9⟩;subst w')
  go_ret;exact ⟨rfl,(ba _ _)⟩
theorem Uc  (h:Smy w v0 v1 v2 v3 v4 m) (hS:Sane m) :
  cB 153 #[.agg #[v0,v1,v2,v3,v4,.int .i64 m.now]] w (.bool (Wc m)):=by
 have Hv:=Z9 (h.alloc (.cells #[v0,v1,v2,v3,v4,.int .i64 m.now] 40));obtain ⟨a0,p0,a1,p1,a2,p2,a3,p3,a4,p4,rfl,rfl,rfl,rfl,rfl,_,_,_,_,_,_,_,_,_,_⟩:=h.five;clear h;obtain ⟨BB0,kb0⟩:=Xr w 40 (S6 a0 p0 a1 p1 a2 p2 a3 p3 a4 p4 m);have HS:=Z9 hS;have h8:=hS.eight;clear hS;have hyes:∀ k,k<m.dk.length->SV m k=true->Wc m=true:=fun k hk hc=>List.any_eq_true.2 ⟨k,List.mem_range.2 hk,hc⟩
 have hno:(∀ k,k<m.dk.length->SV m k=false)->Wc m=false:=fun hn=>by
  unfold Wc;rw [List.any_eq_false];intro k hk;rw [hn k (List.mem_range.1 hk)];simp
 have Hyes:=Z9 hyes;have Hno:=Z9 hno;clear hyes hno;go_enter func153,ntmps153;go_wp2_with fail
 go_loopw [3] (fun i wr=> ∃ k:Nat,k<=m.dk.length/\i= .int .i64 k/\(∀ j,j<k->SV m j=false)/\Blk wr w.heap.size 40 (S6 a0 p0 a1 p1 a2 p2 a3 p3 a4 p4 m)/\Smy wr (.slice a0 m.rm.length p0) (.slice a1 m.gd.length p1) (.slice a2 m.sm.length p2) (.slice a3 m.dk.length p3) (.slice a4 m.pc.length p4) m/\Below w.heap.size w wr) (fun i _=>m.dk.length-(intOf i).toNat)
 case atStart=>exact ⟨0,Zi _,rfl,fun j hj=>by omega,uh kb0,uh Hv,uh BB0⟩
 case round=>
  obtain ⟨k,hk,rfl,hn,hkb,hv,hb0⟩:=hrel;have Hn:=Z9 hn;have kb:=Z9 hkb;have Hv1:=Z9 hv;have BB:=Z9 hb0;clear hkb hv hb0 kb0 BB0 Hv hn;obtain ⟨c0,c1,c2,c3,c4,c5⟩:=(uh kb).c6;by_cases hlt:k<m.dk.length
  ·have hlt1:(k:Int)<(m.dk.length:Int):=by omega
   have Hc:Hid (SV m k=((Z8 m.dk k).1 && QB (XJ m (k:Int) (-1)) (YP m.rm (k:Int)))):=Z9 rfl;obtain ⟨_,_,hde,_,_,r3⟩:=(uh Hv1).dk;cases hde
   rcases r3 with e0 | ⟨db,off,rfl,hbw,hcl⟩
   ·rw [e0] at hlt;simp at hlt
   obtain ⟨d0,_,_⟩:=Yv hcl hlt;clear hcl;have hfo:=T3 ((uh HS).bench hlt);have Hu:=Z9 (fun (W:World) (hW:Below wr.heap.size wr W)=>Vs (k:Int) (-1) ((uh Hv1).below hW) (uh HS).guilded (by have:=(uh HS).few;omega));have Hf:=Z9 (fun (W:World) (hW:Below wr.heap.size wr W)=>Wi (k:Int) ((uh Hv1).below hW).rm ((uh HS).bench hlt));rw [<-hfo] at Hf;clear hfo;generalize XJ m (k:Int) (-1)=us at *;generalize YP m.rm (k:Int)=fo at *;generalize (Z8 m.dk k).1=op at *;have y0:=ZX c0;have y1:=ZX c1;have y2:=ZX c2;have y3:=ZX c3;have y4:=ZX c4;have y5:=ZX c5;have z0:=ZX d0;obtain ⟨mu,hmu⟩:=ZE (QB us fo);have Ht:=Z9 (fun (W:World)=>Calls.same_below (RG us fo W));rw [hmu] at Hc Ht;clear hmu;cases op
   ·go_wp2_with fail
    refine wq ?_
    repeat (go_big_quiet_step (first | exact ZW (uh Hu _ (Z0 _ _ _)) | exact ZW (uh Hf _ (Z0 _ _ _)) | exact ZW (uh Ht _)))
    refine wpQuiet_nil ?_;intro _ hw';obtain ⟨⟨dq,osq⟩,hw''⟩:=hw';subst hw'';go_wp2_with fail;go_roundw
    case rel=>exact ⟨k+1,by omega,by go_num,WR (uh Hn) (uh Hc),(uh kb).below (Z0 _ _ _) (uh kb).lt,(uh Hv1).below (Z0 _ _ _),(uh BB).trans ((Z0 _ _ _).mono (uh BB).size)⟩
    case measure=>exact ms
   ·cases mu
    ·go_wp2_with fail
     refine wq ?_
     repeat (go_big_quiet_step (first | exact ZW (uh Hu _ (Z0 _ _ _)) | exact ZW (uh Hf _ (Z0 _ _ _)) | exact ZW (uh Ht _)))
     refine wpQuiet_nil ?_;intro _ hw';obtain ⟨⟨dq,osq⟩,hw''⟩:=hw';subst hw'';go_wp2_with fail;go_roundw
     case rel=>exact ⟨k+1,by omega,by go_num,WR (uh Hn) (uh Hc),(uh kb).below (Z0 _ _ _) (uh kb).lt,(uh Hv1).below (Z0 _ _ _),(uh BB).trans ((Z0 _ _ _).mono (uh BB).size)⟩
     case measure=>exact ms
    ·go_wp2_with fail
     refine wq ?_
     repeat (go_big_quiet_step (first | exact ZW (uh Hu _ (Z0 _ _ _)) | exact ZW (uh Hf _ (Z0 _ _ _)) | exact ZW (uh Ht _)))
     refine wpQuiet_nil ?_;intro _ hw';obtain ⟨⟨dq,osq⟩,hw''⟩:=hw';subst hw'';go_wp2_with fail;go_ret;exact ⟨ZU (uh Hyes k hlt (uh Hc)).symm,(uh BB).trans ((Z0 _ _ _).mono (uh BB).size)⟩
  ·obtain rfl:k=m.dk.length:=by omega
   go_wp2_with fail;go_ret;exact ⟨ZU (uh Hno (uh Hn)).symm,uh BB⟩
structure TI (m:Z7) (k:Nat):Prop where
 lt:k<m.sm.length
 st:(Z8 m.sm k).1 ≠ 0
 y0:0<=(Z8 m.sm k).2.2.2.1
 y1:(Z8 m.sm k).2.2.2.1<=255
theorem Iu {who:Int} {k:Nat} (h:Pd m who k=false):VJ m who (k+1)=VJ m who k:=by show (if _ then _ else _)=_;rw [h];rfl
theorem JE {who:Int} {k:Nat} (h:Pd m who k=true):VJ m who (k+1)=VJ m who k++[(k:Int)]:=by show (if _ then _ else _)=_;rw [h];rfl
theorem Ud  {who:Nat} (h:Smy w v0 v1 v2 v3 v4 m) (hS:Sane m) (hA:TI m who) :
  Calls prog 152 #[.agg #[v0,v1,v2,v3,v4,.int .i64 m.now],.int .i64 (who:Int)] w fun e w'=> ∃ v',e= .returned v'/\NumsAt w.heap.size w' v' (Yg m (who:Int))/\Below w.heap.size w w':=by
 have Hv:=Z9 (h.alloc (.cells #[v0,v1,v2,v3,v4,.int .i64 m.now] 40));obtain ⟨a0,p0,a1,p1,a2,p2,a3,p3,a4,p4,rfl,rfl,rfl,rfl,rfl,_,_,_,_,_,_,_,_,_,_⟩:=h.five;have HW:=Z9 h;clear h;obtain ⟨BB0,kb0⟩:=Xr w 40 (S6 a0 p0 a1 p1 a2 p2 a3 p3 a4 p4 m);have HS:=Z9 hS;have HA:=Z9 hA;have h8:=hS.eight;clear hS hA;have kb1:Hid (Blk ((w.alloc (.cells (S6 a0 p0 a1 p1 a2 p2 a3 p3 a4 p4 m) 40)).alloc (.cells #[] 2)) w.heap.size 40 (S6 a0 p0 a1 p1 a2 p2 a3 p3 a4 p4 m)):=Z9 ((uh kb0).alloc _);have BB1:Hid (Below w.heap.size w ((w.alloc (.cells (S6 a0 p0 a1 p1 a2 p2 a3 p3 a4 p4 m) 40)).alloc (.cells #[] 2))):=Z9 ((uh BB0).alloc (uh BB0).size _);have Hv0:=Z9 ((uh Hv).alloc (.cells #[] 2));have E0:Hid (NumsAt (w.heap.size+1) ((w.alloc (.cells (S6 a0 p0 a1 p1 a2 p2 a3 p3 a4 p4 m) 40)).alloc (.cells #[] 2)) (.slice (some ⟨w.heap.size+1,0,none⟩) 0 0) []):=Z9 (XE (by simp) (by simp));clear kb0 BB0 Hv;go_enter func152,ntmps152;go_wp2_with fail
 go_loopw [5,6] (fun l i wr=> ∃ k:Nat,k<=m.dk.length/\i= .int .i64 k/\NumsAt (w.heap.size+1) wr l (VJ m (who:Int) k)/\Blk wr w.heap.size 40 (S6 a0 p0 a1 p1 a2 p2 a3 p3 a4 p4 m)/\Smy wr (.slice a0 m.rm.length p0) (.slice a1 m.gd.length p1) (.slice a2 m.sm.length p2) (.slice a3 m.dk.length p3) (.slice a4 m.pc.length p4) m/\Below w.heap.size w wr) (fun _ i _=>m.dk.length-(intOf i).toNat)
 case atStart=>exact ⟨0,Zi _,rfl,uh E0,uh kb1,uh Hv0,uh BB1⟩
 case round=>
  obtain ⟨k,hk,rfl,hl,hkb,hv,hb0⟩:=hrel;obtain ⟨la,lc,rfl⟩:=RecAt.shape hl;have HL:=Z9 hl;have kb:=Z9 hkb;have Hv1:=Z9 hv;have BB:=Z9 hb0;have hbl:=(uh kb).lt;have hfl:=Sk m (who:Int) k;clear hkb hv hb0 kb1 BB1 Hv0 E0 hl;obtain ⟨c0,c1,c2,c3,c4,c5⟩:=(uh kb).c6;by_cases hlt:k<m.dk.length
  ·have hlt1:(k:Int)<(m.dk.length:Int):=by omega
   have Hc:Hid (Pd m (who:Int) k=(Yi m (who:Int) k && Wb (Yn m (who:Int)) (XJ m (k:Int) (who:Int)) (YP m.rm (k:Int)))):=Z9 rfl;have Hno:=Z9 (fun hh=>Iu (m:=m) (who:=(who:Int)) (k:=k) hh);have Hyes:=Z9 (fun hh=>JE (m:=m) (who:=(who:Int)) (k:=k) hh);have hfo:=T3 ((uh HS).bench hlt);have Hma:=Z9 (fun (W:World) (hW:Below wr.heap.size wr W)=>UM ((uh Hv1).below hW) (uh HA).lt hlt (by omega) (uh HA).y0 (uh HA).y1);have Hwa:=Z9 (fun (W:World) (hW:Below wr.heap.size wr W)=>Ua ((uh Hv1).below hW) (uh HS).guilded.gd (uh HA).lt ((uh HS).guilded.lo who (uh HA).lt (uh HA).st) ((uh HS).guilded.hi who (uh HA).lt (uh HA).st));have Hu:=Z9 (fun (W:World) (hW:Below wr.heap.size wr W)=>Vs (k:Int) (who:Int) ((uh Hv1).below hW) (uh HS).guilded (by have:=(uh HS).few;omega));have Hf:=Z9 (fun (W:World) (hW:Below wr.heap.size wr W)=>Wi (k:Int) ((uh Hv1).below hW).rm ((uh HS).bench hlt));rw [<-hfo] at Hf;clear hfo;have Ht:=Z9 (fun (W:World)=>Calls.same_below (VZ (Yn m (who:Int)) (XJ m (k:Int) (who:Int)) (YP m.rm (k:Int)) W));generalize Yi m (who:Int) k=ma at *;generalize Yn m (who:Int)=wa at *;generalize XJ m (k:Int) (who:Int)=us at *;generalize YP m.rm (k:Int)=fo at *;generalize Wb wa us fo=fi at *;have y0:=ZX c0;have y1:=ZX c1;have y2:=ZX c2;have y3:=ZX c3;have y4:=ZX c4;have y5:=ZX c5;cases ma
   ·go_wp2_with fail
    refine wq ?_
    repeat (go_big_quiet_step (first | exact ZW (uh Hma _ (Z0 _ _ _)) | exact ZW (uh Hwa _ (Z0 _ _ _)) | exact ZW (uh Hu _ (Z0 _ _ _)) | exact ZW (uh Hf _ (Z0 _ _ _)) | exact ZW (uh Ht _)))
    refine wpQuiet_nil ?_;intro _ hw';obtain ⟨⟨dq,osq⟩,hw''⟩:=hw';subst hw'';go_wp2_with fail;go_roundw
    case rel=>exact ⟨k+1,by omega,by go_num,by rw [uh Hno (uh Hc)];exact RecAt.later (uh HL) (Z0 _ _ _),(uh kb).below (Z0 _ _ _) (uh kb).lt,(uh Hv1).below (Z0 _ _ _),(uh BB).trans ((Z0 _ _ _).mono (uh BB).size)⟩
    case measure=>exact ms
   cases fi
   ·go_wp2_with fail
    refine wq ?_
    repeat (go_big_quiet_step (first | exact ZW (uh Hma _ (Z0 _ _ _)) | exact ZW (uh Hwa _ (Z0 _ _ _)) | exact ZW (uh Hu _ (Z0 _ _ _)) | exact ZW (uh Hf _ (Z0 _ _ _)) | exact ZW (uh Ht _)))
    refine wpQuiet_nil ?_;intro _ hw';obtain ⟨⟨dq,osq⟩,hw''⟩:=hw';subst hw'';go_wp2_with fail;go_roundw
    case rel=>exact ⟨k+1,by omega,by go_num,by rw [uh Hno (uh Hc)];exact RecAt.later (uh HL) (Z0 _ _ _),(uh kb).below (Z0 _ _ _) (uh kb).lt,(uh Hv1).below (Z0 _ _ _),(uh BB).trans ((Z0 _ _ _).mono (uh BB).size)⟩
    case measure=>exact ms
   ·go_wp2_with fail
    refine wq ?_
    repeat (go_big_quiet_step (first | exact ZW (uh Hma _ (Z0 _ _ _)) | exact ZW (uh Hwa _ (Z0 _ _ _)) | exact ZW (uh Hu _ (Z0 _ _ _)) | exact ZW (uh Hf _ (Z0 _ _ _)) | exact ZW (uh Ht _)))
    refine wpQuiet_nil ?_;intro _ hw';obtain ⟨⟨dq,osq⟩,hw''⟩:=hw';subst hw'';clear c0 c1 c2 c3 c4 c5 y0 y1 y2 y3 y4 y5 Hma Hwa Hu Hf Ht;have hb9:=Z0 wr dq osq;replace HL:=Z9 (RecAt.later (uh HL) hb9);replace kb:=Z9 ((uh kb).below hb9 (uh kb).lt);replace Hv1:=Z9 ((uh Hv1).below hb9);replace BB:=Z9 ((uh BB).trans (hb9.mono (uh BB).size));clear hb9;generalize grow (redrawn wr dq) osq=X at *;have hsx:=(uh BB).size;go_wp2_with (at_builtin;refine Zm tyN rfl (.tmp 33) (.tmp 35) 38 underlying38 rfl (w.heap.size+1) _ _ (VJ m (who:Int) k) [(k:Int)] rfl rfl (RecAt.later (uh HL) ((ba _ _))) (Uo (k:Int) rfl (Z3 _) (by omega)) (by simp;omega) (by simp;omega) ?_;intro u9 w9 hp9 hg9 hat9;have HP9:=Z9 hp9;have HG9:=Z9 hg9;clear hp9 hg9 hat9)
    have hlx:=(uh kb).lt;have hgo:∀ i,(Value.slice la (VJ m (who:Int) k).length lc).ownBlock=some i->w.heap.size+1<=i:=fun i e=>(RecAt.lt (uh HL) e).1;have hb9:Below (w.heap.size+1) X w9:=((Z2 _ _).alloc hlx _).trans ((Z2 _ _).grown (uh HG9) (by simp;omega) hgo);have hb8:=(uh BB).trans (hb9.mono (Nat.le_succ _));go_wp2_with fail;go_roundw
    case rel=>exact ⟨k+1,by omega,by go_num,by rw [uh Hyes (uh Hc)];exact uh HP9,(uh kb).below hb9 (Nat.lt_succ_self _),(uh HW).below hb8,hb8⟩
    case measure=>exact ms
  ·obtain rfl:k=m.dk.length:=by omega
   go_wp2_with fail;go_ret;exact ⟨_,rfl,RecAt.mono (uh HL) (Nat.le_succ _),uh BB⟩
theorem G7 {g:Nat} {zs:List Int} (h:∀ j,j<zs.length-> ∀ i u,(UG (Z8 zs j))[i]?=some u->w.cell? ⟨g,j*1+i,none⟩=some u) {j:Nat} (hj:j<zs.length):w.cell? ⟨g,j,none⟩=some (.int .i64 (Z8 zs j)):=by
 have:=h j hj 0 _ rfl;simpa using this
theorem M5 {who:Int} (h:Wc m=true\/(Wc m=false/\(Yg m who).length=0)):Yz m who=(XQ m who m.dk.length).1:=by
 unfold Yz
 rcases h with e | ⟨e,e'⟩
 ·rw [e];rfl
 ·rw [e,e'];rfl
theorem M0 {who:Int} (h:Wc m=false) (h':0<(Yg m who).length):Yz m who=(XK m who (Yg m who) (Yg m who).length).1:=by
 unfold Yz;rw [h,decide_eq_true h'];rfl
theorem L3 {who:Int} {k:Nat} (hm:Yi m who k=true) (h:(XQ m who k).1<0\/(XQ m who k).2<Vp (XJ m k who) (YP m.rm k)):XQ m who (k+1)=((k:Int),Vp (XJ m k who) (YP m.rm k)):=by
 show (if _ then _ else _)=_;rw [hm]
 rcases h with h | h
 ·rw [decide_eq_true h];rfl
 ·rw [decide_eq_true h,Bool.or_true];rfl
theorem J3 {who:Int} {k:Nat} (h:Yi m who k=false\/(¬ (XQ m who k).1<0/\ ¬ (XQ m who k).2<Vp (XJ m k who) (YP m.rm k))):XQ m who (k+1)=XQ m who k:=by
 show (if _ then _ else _)=_
 rcases h with h | ⟨h,h'⟩
 ·rw [h];rfl
 ·rw [decide_eq_false h,decide_eq_false h',Bool.or_false,Bool.and_false];rfl
theorem P7 {who:Int} {f:List Int} : XK m who f 1=(Z8 f 0,Yq m who (Z8 f 0)):=by
 cases f<;>rfl
theorem RL {who:Int} {f:List Int} {k:Nat} (h1:1<=k) (hk:k<f.length):XK m who f (k+1)=V2 m who (XK m who f k) (Z8 f k):=by
 unfold XK
 have e:f.take (k+1)=f.take k++[Z8 f k]:=by
  rw [List.take_add_one,List.getElem?_eq_getElem hk,Py hk];rfl
 rw [e,List.drop_append_of_le_length (by simp;omega),List.foldl_append];rfl
theorem Lv {who:Nat} {f:List Int} {k:Nat} (h1:1<=k) (hk:k<f.length) (h:Yq m (who:Int) (Z8 f k)<(XK m (who:Int) f k).2\/(Yq m (who:Int) (Z8 f k)=(XK m (who:Int) f k).2/\Z8 f k=(Z8 m.sm who).2.1)):XK m (who:Int) f (k+1)=(Z8 f k,Yq m (who:Int) (Z8 f k)):=by
 rw [RL h1 hk];unfold V2;exact if_pos h
theorem JC {who:Nat} {f:List Int} {k:Nat} (h1:1<=k) (hk:k<f.length) (h:¬ (Yq m (who:Int) (Z8 f k)<(XK m (who:Int) f k).2\/(Yq m (who:Int) (Z8 f k)=(XK m (who:Int) f k).2/\Z8 f k=(Z8 m.sm who).2.1))):XK m (who:Int) f (k+1)=XK m (who:Int) f k:=by
 rw [RL h1 hk];unfold V2;exact if_neg h
theorem Xq  {who:Nat} (h:Smy w v0 v1 v2 v3 v4 m) (hS:Sane m) (hp:m.pc.length<=1000) (hA:TI m who) :
  cB 130 #[.agg #[v0,v1,v2,v3,v4,.int .i64 m.now],.int .i64 (who:Int)] w (.int .i64 (Yz m (who:Int))):=by
 have Hv:=Z9 (h.alloc (.cells #[v0,v1,v2,v3,v4,.int .i64 m.now] 40));obtain ⟨a0,p0,a1,p1,a2,p2,a3,p3,a4,p4,rfl,rfl,rfl,rfl,rfl,_,_,_,_,_,_,_,_,_,_⟩:=h.five;clear h;obtain ⟨BB0,kb0⟩:=Xr w 40 (S6 a0 p0 a1 p1 a2 p2 a3 p3 a4 p4 m);have HS:=Z9 hS;have HA:=Z9 hA;have HP:=Z9 hp;have h8:=hS.eight;clear hS hA hp;obtain ⟨c0,c1,c2,c3,c4,c5⟩:=(uh kb0).c6
 have hX:(Wc m=true\/(Wc m=false/\(Yg m (who:Int)).length=0))\/(Wc m=false/\0<(Yg m (who:Int)).length):=by
  cases Wc m
  ·by_cases h0:(Yg m (who:Int)).length=0
   ·exact .inl (.inr ⟨rfl,h0⟩)
   ·exact .inr ⟨rfl,by omega⟩
  ·exact .inl (.inl rfl)
 rcases hX with hX | ⟨hcr,hle⟩
 ·rw [M5 hX]
  rcases hX with hcr | ⟨hcr,hle⟩
  all_goals
   go_enter func130,ntmps130;go_wp2_with (first | (go_at_call 152;refine (Ud (uh Hv) (uh HS) (uh HA)).mono ?_;rintro e w1 ⟨fv,rfl,hf1,hb1⟩;obtain ⟨la,lc,rfl⟩:=RecAt.shape hf1;have HF:=Z9 hf1;have B1:=Z9 hb1;have kb1:=Z9 ((uh kb0).below hb1 (uh kb0).lt);have Hv1:=Z9 ((uh Hv).below hb1);have BB1:=Z9 ((uh BB0).trans (hb1.mono (uh BB0).size));clear hf1 hb1 kb0 Hv BB0 B1 c0 c1 c2 c3 c4 c5;have d0:=(uh kb1).cell (i:=0) (v:= .slice a0 m.rm.length p0) rfl;have d1:=(uh kb1).cell (i:=1) (v:= .slice a1 m.gd.length p1) rfl;have d2:=(uh kb1).cell (i:=2) (v:= .slice a2 m.sm.length p2) rfl;have d3:=(uh kb1).cell (i:=3) (v:= .slice a3 m.dk.length p3) rfl;have d4:=(uh kb1).cell (i:=4) (v:= .slice a4 m.pc.length p4) rfl;have d5:=(uh kb1).cell (i:=5) (v:= .int .i64 m.now) rfl) | (go_at_call 153;refine (Uc (uh Hv1) (uh HS)).mono ?_;rintro e w2 ⟨he,hb2⟩;rw [hcr] at he;subst he;have B2:=Z9 hb2;clear hb2) | fail)
   have kb2:=Z9 ((uh kb1).below (uh B2) (uh kb1).lt);have Hv2:=Z9 ((uh Hv1).below (uh B2));have BB2:=Z9 ((uh BB1).trans ((uh B2).mono (uh BB1).size));clear kb1 Hv1 BB1 B2 d0 d1 d2 d3 d4 d5 HF
   go_loopw [10,11,12] (fun bv mv i wr=> ∃ k:Nat,k<=m.dk.length/\bv= .int .i64 (XQ m (who:Int) k).1/\mv= .int .i64 (XQ m (who:Int) k).2/\i= .int .i64 k/\Blk wr w.heap.size 40 (S6 a0 p0 a1 p1 a2 p2 a3 p3 a4 p4 m)/\Smy wr (.slice a0 m.rm.length p0) (.slice a1 m.gd.length p1) (.slice a2 m.sm.length p2) (.slice a3 m.dk.length p3) (.slice a4 m.pc.length p4) m/\Below w.heap.size w wr) (fun _ _ i _=>m.dk.length-(intOf i).toNat)
   case atStart=>exact ⟨0,Zi _,rfl,rfl,rfl,uh kb2,uh Hv2,uh BB2⟩
   case round=>
    obtain ⟨k,hk,rfl,rfl,rfl,hkb,hv,hb0⟩:=hrel;have kb:=Z9 hkb;have Hv3:=Z9 hv;have BB:=Z9 hb0;clear hkb hv hb0 kb2 BB2 Hv2;obtain ⟨e0,e1,e2,e3,e4,e5⟩:=(uh kb).c6;by_cases hlt:k<m.dk.length
    ·have hlt1:(k:Int)<(m.dk.length:Int):=by omega
     have Hno:=Z9 (fun hh=>J3 (m:=m) (who:=(who:Int)) (k:=k) hh);have Hyes:=Z9 (fun ha hh=>L3 (m:=m) (who:=(who:Int)) (k:=k) ha hh);have hfo:=T3 ((uh HS).bench hlt);have Hma:=Z9 (fun (W:World) (hW:Below wr.heap.size wr W)=>UM ((uh Hv3).below hW) (uh HA).lt hlt (by omega) (uh HA).y0 (uh HA).y1);have Hu:=Z9 (fun (W:World) (hW:Below wr.heap.size wr W)=>Vs (k:Int) (who:Int) ((uh Hv3).below hW) (uh HS).guilded (by have:=(uh HS).few;omega));have Hf:=Z9 (fun (W:World) (hW:Below wr.heap.size wr W)=>Wi (k:Int) ((uh Hv3).below hW).rm ((uh HS).bench hlt));rw [<-hfo] at Hf;clear hfo;have Ht:=Z9 (fun (W:World)=>Calls.same_below (RF (XJ m (k:Int) (who:Int)) (YP m.rm (k:Int)) W));generalize Yi m (who:Int) k=ma at *;generalize XJ m (k:Int) (who:Int)=us at *;generalize YP m.rm (k:Int)=fo at *;generalize Vp us fo=sp at *;obtain ⟨bt,hbt⟩:=ZE ((XQ m (who:Int) k).1);obtain ⟨mt,hmt⟩:=ZE ((XQ m (who:Int) k).2);rw [hbt,hmt] at Hno Hyes;rw [hbt,hmt];have Hbt:=Z9 hbt;have Hmt:=Z9 hmt;clear hbt hmt;have y0:=ZX e0;have y1:=ZX e1;have y2:=ZX e2;have y3:=ZX e3;have y4:=ZX e4;have y5:=ZX e5;cases ma
     ·go_wp2_with fail
      refine wq ?_
      repeat (go_big_quiet_step (first | exact ZW (uh Hu _ (Z0 _ _ _)) | exact ZW (uh Hf _ (Z0 _ _ _)) | exact ZW (uh Ht _)))
      refine wpQuiet_nil ?_;intro _ hw';obtain ⟨⟨dq,osq⟩,hw''⟩:=hw';subst hw'';go_wp2_with (go_at_call 158;refine (uh Hma _ (Z0 _ _ _)).mono ?_;rintro e w5 ⟨rfl,hb5⟩;have HX:=Z9 ((Z0 wr dq osq).trans (hb5.mono (Z0 _ _ _).size));clear hb5)
      go_roundw
      case rel=>exact ⟨k+1,by omega,by rw [uh Hno (.inl (by simp)),uh Hbt],by rw [uh Hno (.inl (by simp)),uh Hmt],by go_num,(uh kb).below (uh HX) (uh kb).lt,(uh Hv3).below (uh HX),(uh BB).trans ((uh HX).mono (uh BB).size)⟩
      case measure=>exact ms
     by_cases hb1:bt<0
     ·go_wp2_with fail
      refine wq ?_
      repeat (go_big_quiet_step (first | exact ZW (uh Hu _ (Z0 _ _ _)) | exact ZW (uh Hf _ (Z0 _ _ _)) | exact ZW (uh Ht _)))
      refine wpQuiet_nil ?_;intro _ hw';obtain ⟨⟨dq,osq⟩,hw''⟩:=hw';subst hw'';go_wp2_with (go_at_call 158;refine (uh Hma _ (Z0 _ _ _)).mono ?_;rintro e w5 ⟨rfl,hb5⟩;have HX:=Z9 ((Z0 wr dq osq).trans (hb5.mono (Z0 _ _ _).size));clear hb5)
      go_roundw
      case rel=>exact ⟨k+1,by omega,by rw [uh Hyes (by simp) (.inl hb1)],by rw [uh Hyes (by simp) (.inl hb1)],by go_num,(uh kb).below (uh HX) (uh kb).lt,(uh Hv3).below (uh HX),(uh BB).trans ((uh HX).mono (uh BB).size)⟩
      case measure=>exact ms
     by_cases hb2:mt<sp
     ·go_wp2_with fail
      refine wq ?_
      repeat (go_big_quiet_step (first | exact ZW (uh Hu _ (Z0 _ _ _)) | exact ZW (uh Hf _ (Z0 _ _ _)) | exact ZW (uh Ht _)))
      refine wpQuiet_nil ?_;intro _ hw';obtain ⟨⟨dq,osq⟩,hw''⟩:=hw';subst hw'';go_wp2_with (go_at_call 158;refine (uh Hma _ (Z0 _ _ _)).mono ?_;rintro e w5 ⟨rfl,hb5⟩;have HX:=Z9 ((Z0 wr dq osq).trans (hb5.mono (Z0 _ _ _).size));clear hb5)
      go_roundw
      case rel=>exact ⟨k+1,by omega,by rw [uh Hyes (by simp) (.inr hb2)],by rw [uh Hyes (by simp) (.inr hb2)],by go_num,(uh kb).below (uh HX) (uh kb).lt,(uh Hv3).below (uh HX),(uh BB).trans ((uh HX).mono (uh BB).size)⟩
      case measure=>exact ms
     ·go_wp2_with fail
      refine wq ?_
      repeat (go_big_quiet_step (first | exact ZW (uh Hu _ (Z0 _ _ _)) | exact ZW (uh Hf _ (Z0 _ _ _)) | exact ZW (uh Ht _)))
      refine wpQuiet_nil ?_;intro _ hw';obtain ⟨⟨dq,osq⟩,hw''⟩:=hw';subst hw'';go_wp2_with (go_at_call 158;refine (uh Hma _ (Z0 _ _ _)).mono ?_;rintro e w5 ⟨rfl,hb5⟩;have HX:=Z9 ((Z0 wr dq osq).trans (hb5.mono (Z0 _ _ _).size));clear hb5)
      go_roundw
      case rel=>exact ⟨k+1,by omega,by rw [uh Hno (.inr ⟨by omega,by omega⟩),uh Hbt],by rw [uh Hno (.inr ⟨by omega,by omega⟩),uh Hmt],by go_num,(uh kb).below (uh HX) (uh kb).lt,(uh Hv3).below (uh HX),(uh BB).trans ((uh HX).mono (uh BB).size)⟩
      case measure=>exact ms
    ·obtain rfl:k=m.dk.length:=by omega
     go_wp2_with fail;go_ret;exact ⟨rfl,uh BB⟩
 ·rw [M0 hcr hle]
  have hlb:(Yg m (who:Int)).length<=m.dk.length:=Sk m (who:Int) m.dk.length;generalize hL:Yg m (who:Int)=L at *;go_enter func130,ntmps130;go_wp2_with (first | (go_at_call 152;refine (Ud (uh Hv) (uh HS) (uh HA)).mono ?_;rintro e w1 ⟨fv,rfl,hf1,hb1⟩;rw [hL] at hf1;obtain ⟨la,lc,rfl⟩:=RecAt.shape hf1;obtain ⟨g,rfl,_,g1,hgc,_⟩:=RecAt.view Yo (by omega) hf1 rfl hle;have C1:=Z9 (fun j hj=>G7 hgc (j:=j) hj);have kb1:=Z9 ((uh kb0).below hb1 (uh kb0).lt);have Hv1:=Z9 ((uh Hv).below hb1);have BB1:=Z9 ((uh BB0).trans (hb1.mono (uh BB0).size));clear hf1 hb1 hgc kb0 Hv BB0 c0 c1 c2 c3 c4 c5;have d0:=(uh kb1).cell (i:=0) (v:= .slice a0 m.rm.length p0) rfl;have d1:=(uh kb1).cell (i:=1) (v:= .slice a1 m.gd.length p1) rfl;have d2:=(uh kb1).cell (i:=2) (v:= .slice a2 m.sm.length p2) rfl;have d3:=(uh kb1).cell (i:=3) (v:= .slice a3 m.dk.length p3) rfl;have d4:=(uh kb1).cell (i:=4) (v:= .slice a4 m.pc.length p4) rfl;have d5:=(uh kb1).cell (i:=5) (v:= .int .i64 m.now) rfl) | (go_at_call 153;refine (Uc (uh Hv1) (uh HS)).mono ?_;rintro e w2 ⟨he,hb2⟩;rw [hcr] at he;subst he;have kb2:=Z9 ((uh kb1).below hb2 (uh kb1).lt);have Hv2:=Z9 ((uh Hv1).below hb2);have BB2:=Z9 ((uh BB1).trans (hb2.mono (uh BB1).size));have C2:=Z9 (fun j hj=>(hb2.cell (p:=⟨g,j,none⟩) g1).trans (uh C1 j hj));have g2:=YH g1 hb2.size;clear hb2 kb1 Hv1 BB1 C1 g1 d0 d1 d2 d3 d4 d5;have d0:=(uh kb2).cell (i:=0) (v:= .slice a0 m.rm.length p0) rfl;have d1:=(uh kb2).cell (i:=1) (v:= .slice a1 m.gd.length p1) rfl;have d2:=(uh kb2).cell (i:=2) (v:= .slice a2 m.sm.length p2) rfl;have d3:=(uh kb2).cell (i:=3) (v:= .slice a3 m.dk.length p3) rfl;have d4:=(uh kb2).cell (i:=4) (v:= .slice a4 m.pc.length p4) rfl;have d5:=(uh kb2).cell (i:=5) (v:= .int .i64 m.now) rfl;have x0:=uh C2 0 hle) | (go_at_call 154;refine (RX _ (uh Hv2) (uh HS) (uh HP) (uh HA).lt (uh HA).st).mono ?_;rintro e w3 ⟨rfl,hb3⟩;have B3:=Z9 hb3;clear hb3) | fail)
  have kb3:=Z9 ((uh kb2).below (uh B3) (uh kb2).lt);have Hv3:=Z9 ((uh Hv2).below (uh B3));have BB3:=Z9 ((uh BB2).trans ((uh B3).mono (uh BB2).size));have C3:=Z9 (fun j hj=>((uh B3).cell (p:=⟨g,j,none⟩) g2).trans (uh C2 j hj));have g3:=YH g2 (uh B3).size;clear kb2 Hv2 BB2 B3 C2 g2 d0 d1 d2 d3 d4 d5 x0
  go_loopw [6,7,8] (fun bv lv i wr=> ∃ k:Nat,1<=k/\k<=L.length/\bv= .int .i64 (XK m (who:Int) L k).1/\lv= .int .i64 (XK m (who:Int) L k).2/\i= .int .i64 k/\(∀ j,j<L.length->wr.cell? ⟨g,j,none⟩=some (.int .i64 (Z8 L j)))/\g<wr.heap.size/\Blk wr w.heap.size 40 (S6 a0 p0 a1 p1 a2 p2 a3 p3 a4 p4 m)/\Smy wr (.slice a0 m.rm.length p0) (.slice a1 m.gd.length p1) (.slice a2 m.sm.length p2) (.slice a3 m.dk.length p3) (.slice a4 m.pc.length p4) m/\Below w.heap.size w wr) (fun _ _ i _=>L.length-(intOf i).toNat)
  case atStart=>exact ⟨1,Z3 _,by omega,by rw [P7],by rw [P7],rfl,uh C3,g3,uh kb3,uh Hv3,uh BB3⟩
  case round=>
   obtain ⟨k,hk1,hk,rfl,rfl,rfl,hc,hg,hkb,hv,hb0⟩:=hrel;have HC:=Z9 hc;have kb:=Z9 hkb;have Hv4:=Z9 hv;have BB:=Z9 hb0;clear hkb hv hb0 kb3 BB3 Hv3 hc C3 g3;obtain ⟨e0,e1,e2,e3,e4,e5⟩:=(uh kb).c6;by_cases hlt:k<L.length
   ·have hlt1:(k:Int)<(L.length:Int):=by omega
    have x0:=uh HC k hlt;obtain ⟨_,_,hse,_,_,r2⟩:=(uh Hv4).sm;cases hse;have hwl:=(uh HA).lt
    rcases r2 with e0 | ⟨sb,so,rfl,hbs,hcs⟩
    ·rw [e0] at hwl;simp at hwl
    obtain ⟨_,s1,_⟩:=YM hcs hwl;clear hcs;have hwl1:(who:Int)<(m.sm.length:Int):=by omega
    have Hno:=Z9 (fun hh=>JC (m:=m) (who:=who) (k:=k) hk1 hlt hh);have Hyes:=Z9 (fun hh=>Lv (m:=m) (who:=who) (k:=k) hk1 hlt hh);have Hw:=Z9 (fun (W:World) (hW:Below wr.heap.size wr W)=>RX (Z8 L k) ((uh Hv4).below hW) (uh HS) (uh HP) (uh HA).lt (uh HA).st);generalize Yq m (who:Int) (Z8 L k)=n at *;generalize Z8 L k=x at *;generalize (Z8 m.sm who).2.1=y at *;obtain ⟨bt,hbt⟩:=ZE ((XK m (who:Int) L k).1);obtain ⟨lt,hmt⟩:=ZE ((XK m (who:Int) L k).2);rw [hmt] at Hno Hyes;rw [hbt,hmt];have Hbt:=Z9 hbt;have Hmt:=Z9 hmt;clear hbt hmt;have y0:=ZX e0;have y1:=ZX e1;have y2:=ZX e2;have y3:=ZX e3;have y4:=ZX e4;have y5:=ZX e5;have z0:=ZX x0;have z1:=ZX s1;go_wp2_with fail;refine wq ?_
    repeat (go_big_quiet_step (first | exact ZW (uh Hw _ (Z0 _ _ _))))
    refine wpQuiet_nil ?_;intro _ hw';obtain ⟨⟨dq,osq⟩,hw''⟩:=hw';subst hw'';go_wp2_with fail;have hX:=Z9 (Z0 wr dq osq);have q0:=y0 dq osq;have q1:=y1 dq osq;have q2:=y2 dq osq;have q3:=y3 dq osq;have q4:=y4 dq osq;have q5:=y5 dq osq;have r0:=z0 dq osq;have r1:=z1 dq osq;clear z0 z1 x0 s1 y0 y1 y2 y3 y4 y5 e0 e1 e2 e3 e4 e5 Hw;have HC2:=Z9 (fun j hj=>((uh hX).cell (p:=⟨g,j,none⟩) hg).trans (uh HC j hj));have hg2:=YH hg (uh hX).size;have kb9:=Z9 ((uh kb).below (uh hX) (uh kb).lt);have Hv9:=Z9 ((uh Hv4).below (uh hX));have BB9:=Z9 ((uh BB).trans ((uh hX).mono (uh BB).size));clear HC hg kb Hv4 BB hX hbs;generalize grow (redrawn wr dq) osq=X at *;have r2:=ZX r0;have r3:=ZX r1;have t0:=ZX q0;have t1:=ZX q1;have t2:=ZX q2;have t3:=ZX q3;have t4:=ZX q4;have t5:=ZX q5;by_cases hn:n<lt
    ·refine wq ?_
     repeat (go_big_quiet_step (fail))
     refine wpQuiet_nil ?_;intro _ hw';obtain ⟨⟨dq,osq⟩,hw''⟩:=hw';subst hw'';go_wp2_with fail;go_roundw
     case rel=>exact ⟨k+1,by omega,by omega,by rw [uh Hyes (by omega)],by rw [uh Hyes (by omega)],by go_num,fun j hj=>((Z0 X dq osq).cell (p:=⟨g,j,none⟩) hg2).trans (uh HC2 j hj),YH hg2 (Z0 X dq osq).size,(uh kb9).below (Z0 X dq osq) (uh kb9).lt,(uh Hv9).below (Z0 X dq osq),(uh BB9).trans ((Z0 X dq osq).mono (uh BB9).size)⟩
     case measure=>exact ms
    by_cases he:n=lt
    ·subst he
     by_cases hxy:x=y
     ·subst hxy
      refine wq ?_
      repeat (go_big_quiet_step (fail))
      refine wpQuiet_nil ?_;intro _ hw';obtain ⟨⟨dq,osq⟩,hw''⟩:=hw';subst hw'';go_wp2_with fail;go_roundw
      case rel=>exact ⟨k+1,by omega,by omega,by rw [uh Hyes (by omega)],by rw [uh Hyes (by omega)],by go_num,fun j hj=>((Z0 X dq osq).cell (p:=⟨g,j,none⟩) hg2).trans (uh HC2 j hj),YH hg2 (Z0 X dq osq).size,(uh kb9).below (Z0 X dq osq) (uh kb9).lt,(uh Hv9).below (Z0 X dq osq),(uh BB9).trans ((Z0 X dq osq).mono (uh BB9).size)⟩
      case measure=>exact ms
     ·refine wq ?_
      repeat (go_big_quiet_step (fail))
      refine wpQuiet_nil ?_;intro _ hw';obtain ⟨⟨dq,osq⟩,hw''⟩:=hw';subst hw'';go_wp2_with fail;go_roundw
      case rel=>exact ⟨k+1,by omega,by omega,by rw [uh Hno (by omega),uh Hbt],by rw [uh Hno (by omega),uh Hmt],by go_num,fun j hj=>((Z0 X dq osq).cell (p:=⟨g,j,none⟩) hg2).trans (uh HC2 j hj),YH hg2 (Z0 X dq osq).size,(uh kb9).below (Z0 X dq osq) (uh kb9).lt,(uh Hv9).below (Z0 X dq osq),(uh BB9).trans ((Z0 X dq osq).mono (uh BB9).size)⟩
      case measure=>exact ms
    ·have e1:(n ==lt)=false:=by simpa using he
     have e2:decide (n=lt)=false:=Ya he;refine wq ?_
     repeat (go_big_quiet_step (fail))
     refine wpQuiet_nil ?_;intro _ hw';obtain ⟨⟨dq,osq⟩,hw''⟩:=hw';subst hw'';go_wp2_with fail;go_roundw
     case rel=>exact ⟨k+1,by omega,by omega,by rw [uh Hno (by omega),uh Hbt],by rw [uh Hno (by omega),uh Hmt],by go_num,fun j hj=>((Z0 X dq osq).cell (p:=⟨g,j,none⟩) hg2).trans (uh HC2 j hj),YH hg2 (Z0 X dq osq).size,(uh kb9).below (Z0 X dq osq) (uh kb9).lt,(uh Hv9).below (Z0 X dq osq),(uh BB9).trans ((Z0 X dq osq).mono (uh BB9).size)⟩
     case measure=>exact ms
   ·obtain rfl:k=L.length:=by omega
    go_wp2_with fail;go_ret;exact ⟨rfl,uh BB⟩
open Go.ChangeShapes Go.WideShapes Go.ChangeAt Go.RowKit Go.Sort
def Zq (m:Z7) (b:Nat):Nat->Nat
 | 0=>0
 | k+1=>if (Z8 m.dk k).1 && !(k ==b) then Zq m b k ||| 2 ^ k else Zq m b k
theorem TR (m:Z7) (b:Nat):∀ k j:Nat,(Zq m b k).testBit j=(decide (j<k) && ((Z8 m.dk j).1 && !(j ==b)))
 | 0,j=>by simp [Zq]
 | k+1,j=>by
  have ih:=TR m b k j;unfold Zq;by_cases e:j=k
  ·subst e
   have hj:(Zq m b j).testBit j=false:=by rw [ih];simp
   split
   ·rename_i h
    rw [Nat.testBit_or,hj,Nat.testBit_two_pow_self,h];simp
   ·rename_i h
    rw [hj];have:((Z8 m.dk j).1 && !(j ==b))=false:=by simpa using h
    rw [this];simp
  ·have hd:decide (j<k+1)=decide (j<k):=by
    by_cases h:j<k
    ·rw [decide_eq_true h,decide_eq_true (by omega)]
    ·rw [decide_eq_false h,decide_eq_false (by omega)]
   rw [hd]
   split
   ·rw [Nat.testBit_or,ih,Nat.testBit_two_pow_of_ne (by omega),Bool.or_false]
   ·exact ih
theorem QC (m:Z7) (b:Nat):∀ k:Nat,Zq m b k<2 ^ k
 | 0=>by simp [Zq]
 | k+1=>by
  have ih:=QC m b k;have hp:2 ^ (k+1)=2*2 ^ k:=by rw [Nat.pow_succ];omega
  unfold Zq
  split
  ·exact Nat.or_lt_two_pow (by omega) (by omega)
  ·omega
theorem P8 {x:Nat} (h:x ≠ 0):∃ j,x.testBit j=true:=by
 refine Classical.byContradiction fun hn=>h ?_;apply Nat.eq_of_testBit_eq;intro i;rw [Nat.zero_testBit];cases hi:x.testBit i
 ·rfl
 ·exact absurd ⟨i,hi⟩ hn
theorem MX {s:Int} (h:0<=s) (j:Nat):VI s (j:Int)=s.toNat.testBit j:=by
 obtain ⟨n,rfl⟩:=Int.eq_ofNat_of_zero_le h;unfold VI;rw [Nat.testBit_eq_decide_div_mod_eq];simp only [Zl]
 congr 1
 apply propext;constructor
 ·intro h
  exact_mod_cast h
 ·intro h
  exact_mod_cast h
def YO (n:Nat):Int:=(2:Int) ^ n-1
theorem RJ (n:Nat):YO n=((2 ^ n-1:Nat):Int):=by
 have h:1<=2 ^ n:=Nat.one_le_two_pow;unfold YO;rw [Int.natCast_sub h]
 push_cast
 rfl
theorem MP {n j:Nat} (h:j<n):VI (YO n) (j:Int)=true:=by
 rw [MX (by rw [RJ];omega),RJ,Zl,Nat.testBit_two_pow_sub_one];exact Wa h
theorem P5 {n:Nat} (h1:1<=n) (h8:n<=8):1<=YO n/\YO n<=255:=by
 have key:∀ k:Fin 8,1<=YO (k.val+1)/\YO (k.val+1)<=255:=by unfold YO;decide
 have:=key ⟨n-1,by omega⟩
 rwa [show n-1+1=n by omega] at this
def Uh (op n:Nat) (may:Int):Int:=if may.toNat &&& op=0 then YO n else may
theorem LZ {op n:Nat} {may:Int} (h0:0<=may) (hop:op ≠ 0) (hn:∀ j,op.testBit j=true->j<n):∃ j,op.testBit j=true/\VI (Uh op n may) (j:Int)=true:=by
 unfold Uh
 split
 ·obtain ⟨j,hj⟩:=P8 hop
  exact ⟨j,hj,MP (hn j hj)⟩
 ·rename_i h
  obtain ⟨j,hj⟩:=P8 h;rw [Nat.testBit_and] at hj;simp only [ZR] at hj;exact ⟨j,hj.2,by rw [MX h0];exact hj.1⟩
theorem IM {op n:Nat} {may:Int} (h1:1<=n) (h8:n<=8) (m0:1<=may) (m1:may<=255):1<=Uh op n may/\Uh op n may<=255:=by
 unfold Uh
 split
 ·exact P5 h1 h8
 ·exact ⟨m0,m1⟩
def closeX (op:Nat) (m:Z7) (w:Nat):Z7:=Xi m w (Uh op m.dk.length (Z8 m.sm w).2.2.2.1)
def OH (op:Nat) (m:Z7) (w:Nat):Int:=Yz (closeX op m w) (w:Int)
def Wt (op:Nat) (m:Z7) (w:Nat):Z7:=setS (closeX op m w) w (putS (closeX op m w) (Z8 (closeX op m w).sm w) (OH op m w))
def YC (op:Nat) (m:Z7) (q:List Z1):Nat->Z7
 | 0=>m
 | k+1=>Wt op (YC op m q k) (ZY q k).2.toNat
structure Shut (m0:Z7) (b:Nat) (P:Nat->Prop) (m:Z7):Prop where
 rm:m.rm=m0.rm
 gd:m.gd=m0.gd
 pc:m.pc=m0.pc
 now:m.now=m0.now
 dk:m.dk=(XW m0 b false).dk
 len:m.sm.length=m0.sm.length
 here:∀ i,i<m.sm.length->Yh m (Z8 m.sm i)=true
 seat:∀ i,i<m.sm.length-> ¬ P i->Yb m (Z8 m.sm i)=true
 left:∀ i,P i->i<m.sm.length/\ZP (Z8 m.sm i)=true/\(Z8 m.sm i).2.1=(b:Int)/\Xo (WB (Z8 m.sm i)) (XP m (b:Int))=true
theorem Rr {b:Nat} (hb:b<m.dk.length) (o:Bool) (j:Nat):Z8 (XW m b o).dk j=if j=b then (o,(Z8 m.dk b).2) else Z8 m.dk j:=ZC hb j
theorem VX (m:Z7) (b:Nat) (o:Bool):(XW m b o).dk.length=m.dk.length:=by unfold XW;simp
theorem Sy {b:Nat} (hb:b<m.dk.length) (o:Bool) (j:Nat):(Z8 (XW m b o).dk j).2=(Z8 m.dk j).2:=by
 rw [Rr hb];by_cases e:j=b
 ·rw [if_pos e,e]
 ·rw [if_neg e]
theorem Ml {m0:Z7} (h:Loose m0) {b:Nat} (hb:b<m0.dk.length):Shut m0 b (fun i=>i<m0.sm.length/\(Z8 m0.sm i).2.1=(b:Int)/\ZP (Z8 m0.sm i)=true) (XW m0 b false):=by
 refine ⟨rfl,rfl,rfl,rfl,rfl,rfl,fun i hi=> ?_,fun i hi hn=> ?_,fun i hp=> ?_⟩
 ·rw [Xh (m:=m0) (m':=XW m0 b false) rfl (VX _ _ _)]
  exact h.here i hi
 ·cases hp:ZP (Z8 m0.sm i)
  ·exact V5 hp
  ·obtain ⟨a0,a1,a2,a3,a4⟩:=h.at (i:=i) hi hp
   have hne:(Z8 m0.sm i).2.1.toNat ≠ b:=by
    intro e;exact hn ⟨hi,by omega,hp⟩
   refine Rq (m:=XW m0 b false) (s:=Z8 m0.sm i) ?_ a3 ?_
   ·rw [Rr hb,if_neg hne];exact a2
   ·rw [Sy hb];exact a4
 ·obtain ⟨hi,e,hp⟩:=hp
  obtain ⟨a0,a1,a2,a3,a4⟩:=h.at (i:=i) hi hp;refine ⟨hi,hp,e,?_⟩;rw [e] at a4;show Xo _ (Z8 (XW m0 b false).dk ((b:Int)).toNat).2.2=true;rw [Sy hb];exact a4
theorem Shut.bare {m0 m:Z7} {b:Nat} {P:Nat->Prop} (h:Shut m0 b P m) (h0:Loose m0) (hb:b<m0.dk.length) (hop:Zq m0 b m0.dk.length ≠ 0):Loose { m with sm:=[] }:=by
 have hl:m.dk.length=m0.dk.length:=by rw [h.dk,VX]
 refine ⟨?_,?_,?_,fun i hi=>absurd hi (Nat.not_lt_zero _),fun i hi=>absurd hi (Nat.not_lt_zero _),?_⟩
 ·have:=h0.head
  unfold YI at this ⊢;simp only [ZR,YV] at this ⊢;rw [h.rm,h.gd,h.pc,h.now,hl];exact ⟨this.1,this.2.1,by simp,this.2.2.2⟩
 ·intro j hj
  show SW (Z8 m.dk j)=true;have hj':j<m.dk.length:=hj;have:=h0.desk j (by omega);unfold SW at this ⊢;rw [h.dk,Sy hb];exact this
 ·intro j hj
  have:=h0.pace j (by rw [<-h.pc];exact hj);unfold Wr at this ⊢;simp only;rw [h.pc,h.rm];exact this
 ·obtain ⟨j,hj⟩:=P8 hop
  rw [TR] at hj;simp only [ZR,YV,Bool.not_eq_true',beq_eq_false_iff_ne] at hj;refine ⟨j,(by show j<m.dk.length;omega),?_⟩;show (Z8 m.dk j).1=true;rw [h.dk,Rr hb,if_neg hj.2.2];exact hj.2.1
theorem Shut.pres {m0 m:Z7} {b:Nat} {P:Nat->Prop} (h:Shut m0 b P m) {i:Nat} (hp:P i):YX (Z8 m.sm i)=true/\(Z8 m.sm i).2.2.2.2.1<m.gd.length:=by
 obtain ⟨hi,hp1,_⟩:=h.left i hp
 rcases XZ.1 (h.here i hi) with e | e
 ·rw [e] at hp1;cases hp1
 ·exact ⟨e.1,e.2.1⟩
theorem Shut.sane {m0 m:Z7} {b:Nat} {P:Nat->Prop} (h:Shut m0 b P m) (h0:Loose m0):Sane m:=by
 have s0:=h0.sane
 have lim:∀ i,i<m.sm.length->(Z8 m.sm i).1 ≠ 0->YX (Z8 m.sm i)=true/\(Z8 m.sm i).2.2.2.2.1<m.gd.length:=fun i hi hs=>by
  rcases XZ.1 (h.here i hi) with e | e
  ·rw [e] at hs;exact absurd rfl hs
  ·exact ⟨e.1,e.2.1⟩
 refine ⟨by rw [h.rm];exact s0.hall,by rw [h.rm,h.dk,VX];exact s0.dk,⟨by rw [h.gd];exact s0.guilded.gd,fun i hi hs=> ?_,fun i hi hs=>(lim i hi hs).2⟩,by rw [h.len];exact s0.few⟩;have hp:=(lim i hi hs).1;generalize Z8 m.sm i=s at *;obtain ⟨st,be,rk,my,gu,lo',hi',hd,ca,ut,wk⟩:=s;exact (Zj hp).2.2.2.2.1.1
theorem Rp {k:Nat} (hk:k<m.sm.length) (may:Int) (i:Nat):Z8 (Xi m k may).sm i=if i=k then Ui (Z8 m.sm k) may else Z8 m.sm i:=ZC hk i
theorem Shut.may {m0 m:Z7} {b:Nat} {P:Nat->Prop} (h:Shut m0 b P m) {w:Nat} (hw:P w) {may:Int} (y0:1<=may) (y1:may<=255):Shut m0 b P (Xi m w may):=by
 obtain ⟨hwl,hp,hbe,hba⟩:=h.left w hw;obtain ⟨hpb,hg⟩:=h.pres hw;have hlen:(Xi m w may).sm.length=m.sm.length:=by unfold Xi setS;simp
 refine ⟨h.rm,h.gd,h.pc,h.now,h.dk,by rw [hlen];exact h.len,fun i hi=> ?_,fun i hi hn=> ?_,fun i hi=> ?_⟩
 ·rw [Xh (m:=m) (m':=Xi m w may) rfl rfl,Rp hwl]
  split
  ·refine XZ.2 (.inr ⟨Pu hpb y0 y1,hg,?_⟩)
   rcases XZ.1 (h.here w hwl) with e | e
   ·rw [e] at hp;cases hp
   ·exact e.2.2
  ·exact h.here i (by omega)
 ·rw [Rp hwl,if_neg (fun e=>hn (by rw [e];exact hw))]
  exact h.seat i (by omega) hn
 ·obtain ⟨a,b1,c,d⟩:=h.left i hi
  refine ⟨by omega,?_⟩;rw [Rp hwl]
  split
  ·rename_i e
   subst e;exact ⟨b1,c,d⟩
  ·exact ⟨b1,c,d⟩
theorem Shut.chosen {m0 m:Z7} {b:Nat} {P:Nat->Prop} (h:Shut m0 b P m) (h0:Loose m0) (hb:b<m0.dk.length) (hop:Zq m0 b m0.dk.length ≠ 0) {w:Nat} (hw:P w):∃ j:Nat,j<m.dk.length/\OH (Zq m0 b m0.dk.length) m w=(j:Int)/\Yi (closeX (Zq m0 b m0.dk.length) m w) (w:Int) j=true:=by
 obtain ⟨hwl,hp,hbe,hba⟩:=h.left w hw;obtain ⟨hpb,hg⟩:=h.pres hw;have hl:m.dk.length=m0.dk.length:=by rw [h.dk,VX]
 rcases V3 (closeX (Zq m0 b m0.dk.length) m w) (w:Int) with ⟨_,hn⟩ | ⟨j,hj,e,hm⟩
 ·exfalso
  have hy:0<=(Z8 m.sm w).2.2.2.1:=by
   generalize Z8 m.sm w=s at *;obtain ⟨st,be,rk,my,gu,lo',hi',hd,ca,ut,wk⟩:=s;have:=(Zj hpb).2.2.2.1.1;show 0<=my;omega
  obtain ⟨j,hj,hbit⟩:=LZ (op:=Zq m0 b m0.dk.length) (n:=m.dk.length) hy hop (fun j hj=>by
   rw [TR] at hj;simp only [ZR,YV] at hj
   omega)
  rw [TR] at hj;simp only [ZR,YV,Bool.not_eq_true',beq_eq_false_iff_ne] at hj;have:=hn j (by show j<m.dk.length;omega);unfold Yi at this
  rw [show (Z8 (closeX (Zq m0 b m0.dk.length) m w).dk j).1=true from by
   show (Z8 m.dk j).1=true;rw [h.dk,Rr hb,if_neg hj.2.2]
   exact hj.2.1,Zl,show Z8 (closeX (Zq m0 b m0.dk.length) m w).sm w=Ui (Z8 m.sm w) (Uh (Zq m0 b m0.dk.length) m.dk.length (Z8 m.sm w).2.2.2.1) from by
    unfold closeX
    rw [Rp hwl,if_pos rfl]] at this
  rw [show (Ui (Z8 m.sm w) (Uh (Zq m0 b m0.dk.length) m.dk.length (Z8 m.sm w).2.2.2.1)).2.2.2.1=Uh (Zq m0 b m0.dk.length) m.dk.length (Z8 m.sm w).2.2.2.1 from rfl,hbit] at this;cases this
 ·exact ⟨j,hj,e,hm⟩
theorem Shut.closeX {m0 m:Z7} {b:Nat} {P:Nat->Prop} (h:Shut m0 b P m) (h0:Loose m0) {w:Nat} (hw:P w) (op:Nat):Shut m0 b P (closeX op m w):=by
 obtain ⟨hpb,hg⟩:=h.pres hw;have hl:m.dk.length=m0.dk.length:=by rw [h.dk,VX]
 have h8:=WY h0;obtain ⟨j,hj,_⟩:=h0.openD
 have hy:1<=(Z8 m.sm w).2.2.2.1/\(Z8 m.sm w).2.2.2.1<=255:=by
  generalize Z8 m.sm w=s at *;obtain ⟨st,be,rk,my,gu,lo',hi',hd,ca,ut,wk⟩:=s;exact (Zj hpb).2.2.2.1
 obtain ⟨y0,y1⟩:=IM (op:=op) (n:=m.dk.length) (by omega) (by omega) hy.1 hy.2;exact h.may hw y0 y1
theorem Shut.step {m0 m:Z7} {b:Nat} {P:Nat->Prop} (h:Shut m0 b P m) (h0:Loose m0) (hb:b<m0.dk.length) (hop:Zq m0 b m0.dk.length ≠ 0) {w:Nat} (hw:P w) :
  Shut m0 b (fun i=>P i/\i ≠ w) (Wt (Zq m0 b m0.dk.length) m w):=by
 obtain ⟨j,hj,ej,hm⟩:=h.chosen h0 hb hop hw;have hx:=h.closeX h0 hw (Zq m0 b m0.dk.length);unfold Wt;rw [ej];generalize Go.Proofs.YtmdgokjeobnnaaaGreatDoor.closeX (Zq m0 b m0.dk.length) m w=x at *;have hjx:j<x.dk.length:=by rw [hx.dk,<-h.dk];exact hj
 obtain ⟨hwl,hp,hbe,hba⟩:=hx.left w hw;obtain ⟨hpb,hg⟩:=hx.pres hw;unfold Yi at hm;simp only [ZR,Zl] at hm;have hbl:b<x.dk.length:=by rw [hx.dk,VX];exact hb
 have hk:=Qo (m:={ x with sm:=[] }) (hx.bare h0 hb hop) (s:=Z8 x.sm w) (b:=j) hpb hp hg (by omega) (by rw [hbe];show (b:Int)<x.dk.length;omega) (by rw [hbe];exact hba) hjx hm.1 hm.2;have k1:Yh x (putS x (Z8 x.sm w) (j:Int))=true:=hk.1;have k2:Yb x (putS x (Z8 x.sm w) (j:Int))=true:=hk.2;have hat:∀ i,Z8 (setS x w (putS x (Z8 x.sm w) (j:Int))).sm i=if i=w then putS x (Z8 x.sm w) (j:Int) else Z8 x.sm i:=fun i=>ZC hwl i
 have hlen:(setS x w (putS x (Z8 x.sm w) (j:Int))).sm.length=x.sm.length:=by unfold setS;simp
 refine ⟨hx.rm,hx.gd,hx.pc,hx.now,hx.dk,by rw [hlen];exact hx.len,fun i hi=> ?_,fun i hi hn=> ?_,fun i hi=> ?_⟩
 ·rw [Xh (m:=x) (m':=setS x w (putS x (Z8 x.sm w) (j:Int))) rfl rfl,hat]
  split
  ·exact k1
  ·exact hx.here i (by omega)
 ·show Yb x (Z8 (setS x w (putS x (Z8 x.sm w) (j:Int))).sm i)=true
  rw [hat]
  split
  ·exact k2
  ·rename_i e
   exact hx.seat i (by omega) (fun hpi=>hn ⟨hpi,e⟩)
 ·obtain ⟨hpi,e⟩:=hi
  obtain ⟨a,b1,c,d⟩:=hx.left i hpi;refine ⟨by omega,?_⟩;rw [hat,if_neg e];exact ⟨b1,c,d⟩
theorem Shut.weak {m0 m:Z7} {b:Nat} {P Q:Nat->Prop} (h:Shut m0 b P m) (h1:∀ i,P i->Q i) (h2:∀ i,Q i->P i):Shut m0 b Q m:=
 ⟨h.rm,h.gd,h.pc,h.now,h.dk,h.len,h.here,fun i hi hn=>h.seat i hi (fun hp=>hn (h1 i hp)),fun i hi=>h.left i (h2 i hi)⟩
def Oq (q:List Z1) (k:Nat) (i:Nat):Prop:= ∃ j,k<=j/\j<q.length/\(ZY q j).2=(i:Int)
theorem O0 {m0:Z7} (h0:Loose m0) {b:Nat} (hb:b<m0.dk.length) (hop:Zq m0 b m0.dk.length ≠ 0):∀ k,k<=(atV m0.sm b m0.sm.length).length->
  Shut m0 b (Oq (atV m0.sm b m0.sm.length) k) (YC (Zq m0 b m0.dk.length) (XW m0 b false) (atV m0.sm b m0.sm.length) k)
 | 0,_=>by
  refine (Ml h0 hb).weak (fun i hi=> ?_) (fun i hi=> ?_)
  ·have hm:(WB (Z8 m0.sm i),(i:Int)) ∈ atV m0.sm b m0.sm.length:=(XH m0.sm b _ m0.sm.length).2 ⟨i,hi.1,hi.2.1,hi.2.2,rfl⟩
   obtain ⟨j,hj,e⟩:=L1 hm;exact ⟨j,Zi _,hj,by rw [e]⟩
  ·obtain ⟨j,_,hj,e⟩:=hi
   obtain ⟨i',hi',h1,h2,e2⟩:=(XH m0.sm b _ m0.sm.length).1 (VU hj);rw [e2] at e
   have:i'=i:=by
    have e3:(i':Int)=(i:Int):=e;omega
   subst this;exact ⟨hi',h1,h2⟩
 | k+1,hk=>by
  have ih:=O0 h0 hb hop k (by omega);obtain ⟨i',hi',h1,h2,e2⟩:=(XH m0.sm b _ m0.sm.length).1 (VU (show k<(atV m0.sm b m0.sm.length).length by omega));have hw:Oq (atV m0.sm b m0.sm.length) k i':=⟨k,Z3 _,by omega,by rw [e2]⟩
  have:=ih.step h0 hb hop hw;unfold YC;rw [e2];show Shut m0 b _ (Wt _ _ ((i':Int)).toNat);rw [Zl];refine this.weak (fun i hi=> ?_) (fun i hi=> ?_)
  ·obtain ⟨⟨j,hj,hjl,e⟩,hne⟩:=hi
   refine ⟨j,?_,hjl,e⟩
   rcases Nat.lt_or_ge k j with hlt | hge
   ·omega
   ·exfalso
    have:j=k:=by omega
    subst this;rw [e2] at e;apply hne;have:(i':Int)=(i:Int):=e;omega
  ·obtain ⟨j,hj,hjl,e⟩:=hi
   refine ⟨⟨j,by omega,hjl,e⟩,fun hii=> ?_⟩;subst hii;have hpw:=P6 m0.sm b m0.sm.length;have hat:∀ n (hn:n<(atV m0.sm b m0.sm.length).length),ZY (atV m0.sm b m0.sm.length) n=(atV m0.sm b m0.sm.length)[n]:=fun n hn=>by unfold ZY;simp [List.getD,hn]
   have:=List.pairwise_iff_getElem.1 hpw k j (by omega) hjl (by omega);rw [<-hat k (by omega),<-hat j hjl] at this;apply this;rw [e2,e]
theorem Mk {m0:Z7} (h0:Loose m0) {b:Nat} (hb:b<m0.dk.length) (hop:Zq m0 b m0.dk.length ≠ 0):Loose (YC (Zq m0 b m0.dk.length) (XW m0 b false) (atV m0.sm b m0.sm.length) (atV m0.sm b m0.sm.length).length):=by
 have h:=O0 h0 hb hop _ (Z3 _)
 have hno:∀ i,¬ Oq (atV m0.sm b m0.sm.length) (atV m0.sm b m0.sm.length).length i:=fun i hi=>by
  obtain ⟨j,h1,h2,_⟩:=hi;omega
 generalize YC (Zq m0 b m0.dk.length) (XW m0 b false) (atV m0.sm b m0.sm.length) (atV m0.sm b m0.sm.length).length=x at *;have hb':=h.bare h0 hb hop;refine ⟨?_,hb'.desk,hb'.pace,h.here,fun i hi=>h.seat i hi (hno i),hb'.openD⟩;have:=hb'.head;unfold YI at this ⊢;simp only [ZR,YV] at this ⊢;exact ⟨this.1,this.2.1,by rw [h.len];exact YF h0,this.2.2.2⟩
def Xj (m:Z7) (b:Int):Z7 × Int:=
 if ZJ m then (if VM m b then (if (Z8 m.dk b.toNat).1 then (if Zq m b.toNat m.dk.length=0 then (m,5) else
  (ZL (YC (Zq m b.toNat m.dk.length) (XW m b.toNat false) (atV m.sm b m.sm.length) (atV m.sm b m.sm.length).length),0)) else (m,2)) else (m,1)) else (XG,3)
theorem MU {b:Int} (h:VM m b=true):∃ k:Nat,b=(k:Int)/\k<m.dk.length:=by
 have:=ZS (show inB b 0 ((m.dk.length:Int)-1)=true from h);exact ⟨b.toNat,by omega,by omega⟩
theorem OI (h:ZJ m=true) (b:Int):ZJ (Xj m b).1=true:=by
 unfold Xj;rw [h];simp only [if_true]
 split
 ·rename_i hb
  obtain ⟨k,rfl,hk⟩:=MU hb;rw [Zl]
  split
  ·split
   ·exact h
   ·rename_i hop
    exact Y1 (Mk (ZI h) hk hop)
  ·exact h
 ·exact h
end Go.Proofs.YtmdgokjeobnnaaaGreatDoor
