/- Part 27 of what the proof rests on. No condition but those that a theorem names. -/
import Derived.Test.YtgdpaigcmoifbaaGreatXw22
set_option maxHeartbeats 8000000
set_option maxRecDepth 100000
namespace Go.Proofs.YtgdpaigcmoifbaaGreat
open Go.ChangeShapes Go.WideShapes Go.ChangeAt Go.RowKit Go.Sort Go.Proofs.Tryz
set_option linter.unusedVariables false
variable {w w' w0 w1 w2 w3 w₀ wr W W' X A B C : World} {v v0 v1 v2 v3 v4 u u0 u1 u2 u3 u4 : Value} {m : Z6}
theorem Calls.same_below {P:Program} {f:FuncId} {args:Array Value}  (h:Calls P f args w fun e w'=>e= .returned v/\w'=w):Calls P f args w fun e w'=>e= .returned v/\Below w.heap.size w w':=
 h.mono fun e w' ⟨he,hw⟩=>⟨he,by rw [hw];exact Z3 _ _⟩
theorem TY  {k b:Nat} (h:Smy w v0 v1 v2 v3 v4 m) (hk:k<m.sm.length) (hb:b<m.dk.length) (h7:b<=7) (y0:0<=(Z8 m.sm k).2.2.2.1) (y1:(Z8 m.sm k).2.2.2.1<=255) :
  cB 75 #[.agg #[v0,v1,v2,v3,v4,.int .i64 m.now],.int .i64 (k:Int),.int .i64 (b:Int)] w (.bool (Zk m (k:Int) b)):=by
 have hm:Zk m (k:Int) b=((Z8 m.dk b).1 && V6 (Z8 m.sm k).2.2.2.1 b):=rfl;rw [hm];clear hm;obtain ⟨a0,p0,rfl,_,_⟩:=IsRooms.shape h.rm;obtain ⟨a1,p1,rfl,_,_⟩:=IsRec.shape h.gd;obtain ⟨a4,p4,rfl,_,_⟩:=IsRec.shape h.pc;obtain ⟨a2,p2,rfl,_,_,r2⟩:=h.sm;obtain ⟨a3,p3,rfl,_,_,r3⟩:=h.dk;clear h
 rcases r2 with e0 | ⟨sb,so,rfl,hbs,hcs⟩
 ·rw [e0] at hk;simp at hk
 rcases r3 with e0 | ⟨db,dof,rfl,hbd,hcd⟩
 ·rw [e0] at hb;simp at hb
 obtain ⟨_,_,_,s3,_⟩:=Zu hcs hk;obtain ⟨d0,_,_⟩:=Zh hcd hb;have hk1:(k:Int)<(m.sm.length:Int):=by omega
 have hb1:(b:Int)<(m.dk.length:Int):=by omega
 clear hcs hcd;generalize (Z8 m.sm k).2.2.2.1=my at *;generalize (Z8 m.dk b).1=op at *;cases op
 all_goals
  go_enter func75,ntmps75;go_wp2_with (go_at_call 135;refine (J2 my (b:Int) _ y0 y1 (by omega) (by omega)).mono ?_;rintro e w' ⟨rfl,h9⟩;subst w')
  go_ret;exact ⟨rfl,(ba _ _)⟩
theorem TW  (h:Smy w v0 v1 v2 v3 v4 m) (hS:Sane m) :
  cB 86 #[.agg #[v0,v1,v2,v3,v4,.int .i64 m.now]] w (.bool (XT m)):=by
 have Hv:=Z9 (h.alloc (.cells #[v0,v1,v2,v3,v4,.int .i64 m.now] 32));obtain ⟨a0,p0,a1,p1,a2,p2,a3,p3,a4,p4,rfl,rfl,rfl,rfl,rfl,_,_,_,_,_,_,_,_,_,_⟩:=h.five;clear h;obtain ⟨BB0,kb0⟩:=V5 w 32 (S6 a0 p0 a1 p1 a2 p2 a3 p3 a4 p4 m);have HS:=Z9 hS;have h8:=hS.eight;clear hS;have hyes:∀ k,k<m.dk.length->Vv m k=true->XT m=true:=fun k hk hc=>List.any_eq_true.2 ⟨k,List.mem_range.2 hk,hc⟩
 have hno:(∀ k,k<m.dk.length->Vv m k=false)->XT m=false:=fun hn=>by
  unfold XT;rw [List.any_eq_false];intro k hk;rw [hn k (List.mem_range.1 hk)];simp
 have Hyes:=Z9 hyes;have Hno:=Z9 hno;clear hyes hno;go_enter func86,ntmps86;go_wp2_with fail
 go_loopw [3] (fun i wr=> ∃ k:Nat,k<=m.dk.length/\i= .int .i64 k/\(∀ j,j<k->Vv m j=false)/\Blk wr w.heap.size 32 (S6 a0 p0 a1 p1 a2 p2 a3 p3 a4 p4 m)/\Smy wr (.slice a0 m.rm.length p0) (.slice a1 m.gd.length p1) (.slice a2 m.sm.length p2) (.slice a3 m.dk.length p3) (.slice a4 m.pc.length p4) m/\Below w.heap.size w wr) (fun i _=>m.dk.length-(intOf i).toNat)
 case atStart=>exact ⟨0,ZA _,rfl,fun j hj=>by omega,uh kb0,uh Hv,uh BB0⟩
 case round=>
  obtain ⟨k,hk,rfl,hn,hkb,hv,hb0⟩:=hrel;have Hn:=Z9 hn;have kb:=Z9 hkb;have Hv1:=Z9 hv;have BB:=Z9 hb0;clear hkb hv hb0 kb0 BB0 Hv hn;obtain ⟨c0,c1,c2,c3,c4,c5⟩:=(uh kb).c6;by_cases hlt:k<m.dk.length
  ·have hlt1:(k:Int)<(m.dk.length:Int):=by omega
   have Hc:Hid (Vv m k=((Z8 m.dk k).1 && V4 (Zx m (k:Int) (-1)) (Zo m.rm (k:Int)))):=Z9 rfl;obtain ⟨_,_,hde,_,_,r3⟩:=(uh Hv1).dk;cases hde
   rcases r3 with e0 | ⟨db,off,rfl,hbw,hcl⟩
   ·rw [e0] at hlt;simp at hlt
   obtain ⟨d0,_,_⟩:=Zh hcl hlt;clear hcl;have hfo:=TQ ((uh HS).bench hlt);have Hu:=Z9 (fun (W:World) (hW:Below wr.heap.size wr W)=>UY (k:Int) (-1) ((uh Hv1).below hW) (uh HS).guilded (by have:=(uh HS).few;omega));have Hf:=Z9 (fun (W:World) (hW:Below wr.heap.size wr W)=>VL (k:Int) ((uh Hv1).below hW).rm ((uh HS).bench hlt));rw [<-hfo] at Hf;clear hfo;generalize Zx m (k:Int) (-1)=us at *;generalize Zo m.rm (k:Int)=fo at *;generalize (Z8 m.dk k).1=op at *;have y0:=ZX c0;have y1:=ZX c1;have y2:=ZX c2;have y3:=ZX c3;have y4:=ZX c4;have y5:=ZX c5;have z0:=ZX d0;obtain ⟨mu,hmu⟩:=ZJ (V4 us fo);have Ht:=Z9 (fun (W:World)=>Calls.same_below (RW us fo W));rw [hmu] at Hc Ht;clear hmu;cases op
   ·go_wp2_with fail
    refine wq ?_
    repeat (go_big_quiet_step (first | exact ZZ (uh Hu _ (Z1 _ _ _)) | exact ZZ (uh Hf _ (Z1 _ _ _)) | exact ZZ (uh Ht _)))
    refine wpQuiet_nil ?_;intro _ hw';obtain ⟨⟨dq,osq⟩,hw''⟩:=hw';subst hw'';go_wp2_with fail;go_roundw
    case rel=>exact ⟨k+1,by omega,by go_num,Yj (uh Hn) (uh Hc),(uh kb).below (Z1 _ _ _) (uh kb).lt,(uh Hv1).below (Z1 _ _ _),(uh BB).trans ((Z1 _ _ _).mono (uh BB).size)⟩
    case measure=>exact ms
   ·cases mu
    ·go_wp2_with fail
     refine wq ?_
     repeat (go_big_quiet_step (first | exact ZZ (uh Hu _ (Z1 _ _ _)) | exact ZZ (uh Hf _ (Z1 _ _ _)) | exact ZZ (uh Ht _)))
     refine wpQuiet_nil ?_;intro _ hw';obtain ⟨⟨dq,osq⟩,hw''⟩:=hw';subst hw'';go_wp2_with fail;go_roundw
     case rel=>exact ⟨k+1,by omega,by go_num,Yj (uh Hn) (uh Hc),(uh kb).below (Z1 _ _ _) (uh kb).lt,(uh Hv1).below (Z1 _ _ _),(uh BB).trans ((Z1 _ _ _).mono (uh BB).size)⟩
     case measure=>exact ms
    ·go_wp2_with fail
     refine wq ?_
     repeat (go_big_quiet_step (first | exact ZZ (uh Hu _ (Z1 _ _ _)) | exact ZZ (uh Hf _ (Z1 _ _ _)) | exact ZZ (uh Ht _)))
     refine wpQuiet_nil ?_;intro _ hw';obtain ⟨⟨dq,osq⟩,hw''⟩:=hw';subst hw'';go_wp2_with fail;go_ret;exact ⟨Z5 (uh Hyes k hlt (uh Hc)).symm,(uh BB).trans ((Z1 _ _ _).mono (uh BB).size)⟩
  ·obtain rfl:k=m.dk.length:=by omega
   go_wp2_with fail;go_ret;exact ⟨Z5 (uh Hno (uh Hn)).symm,uh BB⟩
structure RZ (m:Z6) (k:Nat):Prop where
 lt:k<m.sm.length
 st:(Z8 m.sm k).1 ≠ 0
 y0:0<=(Z8 m.sm k).2.2.2.1
 y1:(Z8 m.sm k).2.2.2.1<=255
theorem zW {who:Int} {k:Nat} (h:Pv m who k=false):VI m who (k+1)=VI m who k:=by show (if _ then _ else _)=_;rw [h];rfl
theorem BK {who:Int} {k:Nat} (h:Pv m who k=true):VI m who (k+1)=VI m who k++[(k:Int)]:=by show (if _ then _ else _)=_;rw [h];rfl
theorem TX  {who:Nat} (h:Smy w v0 v1 v2 v3 v4 m) (hS:Sane m) (hA:RZ m who) :
  Calls prog 73 #[.agg #[v0,v1,v2,v3,v4,.int .i64 m.now],.int .i64 (who:Int)] w fun e w'=> ∃ v',e= .returned v'/\NumsAt w.heap.size w' v' (Zr m (who:Int))/\Below w.heap.size w w':=by
 have Hv:=Z9 (h.alloc (.cells #[v0,v1,v2,v3,v4,.int .i64 m.now] 32));obtain ⟨a0,p0,a1,p1,a2,p2,a3,p3,a4,p4,rfl,rfl,rfl,rfl,rfl,_,_,_,_,_,_,_,_,_,_⟩:=h.five;have HW:=Z9 h;clear h;obtain ⟨BB0,kb0⟩:=V5 w 32 (S6 a0 p0 a1 p1 a2 p2 a3 p3 a4 p4 m);have HS:=Z9 hS;have HA:=Z9 hA;have h8:=hS.eight;clear hS hA;have kb1:Hid (Blk ((w.alloc (.cells (S6 a0 p0 a1 p1 a2 p2 a3 p3 a4 p4 m) 32)).alloc (.cells #[] 2)) w.heap.size 32 (S6 a0 p0 a1 p1 a2 p2 a3 p3 a4 p4 m)):=Z9 ((uh kb0).alloc _);have BB1:Hid (Below w.heap.size w ((w.alloc (.cells (S6 a0 p0 a1 p1 a2 p2 a3 p3 a4 p4 m) 32)).alloc (.cells #[] 2))):=Z9 ((uh BB0).alloc (uh BB0).size _);have Hv0:=Z9 ((uh Hv).alloc (.cells #[] 2));have E0:Hid (NumsAt (w.heap.size+1) ((w.alloc (.cells (S6 a0 p0 a1 p1 a2 p2 a3 p3 a4 p4 m) 32)).alloc (.cells #[] 2)) (.slice (some ⟨w.heap.size+1,0,none⟩) 0 0) []):=Z9 (Zq (by simp) (by simp));clear kb0 BB0 Hv;go_enter func73,ntmps73;go_wp2_with fail
 go_loopw [5,6] (fun l i wr=> ∃ k:Nat,k<=m.dk.length/\i= .int .i64 k/\NumsAt (w.heap.size+1) wr l (VI m (who:Int) k)/\Blk wr w.heap.size 32 (S6 a0 p0 a1 p1 a2 p2 a3 p3 a4 p4 m)/\Smy wr (.slice a0 m.rm.length p0) (.slice a1 m.gd.length p1) (.slice a2 m.sm.length p2) (.slice a3 m.dk.length p3) (.slice a4 m.pc.length p4) m/\Below w.heap.size w wr) (fun _ i _=>m.dk.length-(intOf i).toNat)
 case atStart=>exact ⟨0,ZA _,rfl,uh E0,uh kb1,uh Hv0,uh BB1⟩
 case round=>
  obtain ⟨k,hk,rfl,hl,hkb,hv,hb0⟩:=hrel;obtain ⟨la,lc,rfl⟩:=RecAt.shape hl;have HL:=Z9 hl;have kb:=Z9 hkb;have Hv1:=Z9 hv;have BB:=Z9 hb0;have hbl:=(uh kb).lt;have hfl:=OR m (who:Int) k;clear hkb hv hb0 kb1 BB1 Hv0 E0 hl;obtain ⟨c0,c1,c2,c3,c4,c5⟩:=(uh kb).c6;by_cases hlt:k<m.dk.length
  ·have hlt1:(k:Int)<(m.dk.length:Int):=by omega
   have Hc:Hid (Pv m (who:Int) k=(Zk m (who:Int) k && WW (ZC m (who:Int)) (Zx m (k:Int) (who:Int)) (Zo m.rm (k:Int)))):=Z9 rfl;have Hno:=Z9 (fun hh=>zW (m:=m) (who:=(who:Int)) (k:=k) hh);have Hyes:=Z9 (fun hh=>BK (m:=m) (who:=(who:Int)) (k:=k) hh);have hfo:=TQ ((uh HS).bench hlt);have Hma:=Z9 (fun (W:World) (hW:Below wr.heap.size wr W)=>TY ((uh Hv1).below hW) (uh HA).lt hlt (by omega) (uh HA).y0 (uh HA).y1);have Hwa:=Z9 (fun (W:World) (hW:Below wr.heap.size wr W)=>Tx ((uh Hv1).below hW) (uh HS).guilded.gd (uh HA).lt ((uh HS).guilded.lo who (uh HA).lt (uh HA).st) ((uh HS).guilded.hi who (uh HA).lt (uh HA).st));have Hu:=Z9 (fun (W:World) (hW:Below wr.heap.size wr W)=>UY (k:Int) (who:Int) ((uh Hv1).below hW) (uh HS).guilded (by have:=(uh HS).few;omega));have Hf:=Z9 (fun (W:World) (hW:Below wr.heap.size wr W)=>VL (k:Int) ((uh Hv1).below hW).rm ((uh HS).bench hlt));rw [<-hfo] at Hf;clear hfo;have Ht:=Z9 (fun (W:World)=>Calls.same_below (VC (ZC m (who:Int)) (Zx m (k:Int) (who:Int)) (Zo m.rm (k:Int)) W));generalize Zk m (who:Int) k=ma at *;generalize ZC m (who:Int)=wa at *;generalize Zx m (k:Int) (who:Int)=us at *;generalize Zo m.rm (k:Int)=fo at *;generalize WW wa us fo=fi at *;have y0:=ZX c0;have y1:=ZX c1;have y2:=ZX c2;have y3:=ZX c3;have y4:=ZX c4;have y5:=ZX c5;cases ma
   ·go_wp2_with fail
    refine wq ?_
    repeat (go_big_quiet_step (first | exact ZZ (uh Hma _ (Z1 _ _ _)) | exact ZZ (uh Hwa _ (Z1 _ _ _)) | exact ZZ (uh Hu _ (Z1 _ _ _)) | exact ZZ (uh Hf _ (Z1 _ _ _)) | exact ZZ (uh Ht _)))
    refine wpQuiet_nil ?_;intro _ hw';obtain ⟨⟨dq,osq⟩,hw''⟩:=hw';subst hw'';go_wp2_with fail;go_roundw
    case rel=>exact ⟨k+1,by omega,by go_num,by rw [uh Hno (uh Hc)];exact RecAt.later (uh HL) (Z1 _ _ _),(uh kb).below (Z1 _ _ _) (uh kb).lt,(uh Hv1).below (Z1 _ _ _),(uh BB).trans ((Z1 _ _ _).mono (uh BB).size)⟩
    case measure=>exact ms
   cases fi
   ·go_wp2_with fail
    refine wq ?_
    repeat (go_big_quiet_step (first | exact ZZ (uh Hma _ (Z1 _ _ _)) | exact ZZ (uh Hwa _ (Z1 _ _ _)) | exact ZZ (uh Hu _ (Z1 _ _ _)) | exact ZZ (uh Hf _ (Z1 _ _ _)) | exact ZZ (uh Ht _)))
    refine wpQuiet_nil ?_;intro _ hw';obtain ⟨⟨dq,osq⟩,hw''⟩:=hw';subst hw'';go_wp2_with fail;go_roundw
    case rel=>exact ⟨k+1,by omega,by go_num,by rw [uh Hno (uh Hc)];exact RecAt.later (uh HL) (Z1 _ _ _),(uh kb).below (Z1 _ _ _) (uh kb).lt,(uh Hv1).below (Z1 _ _ _),(uh BB).trans ((Z1 _ _ _).mono (uh BB).size)⟩
    case measure=>exact ms
   ·go_wp2_with fail
    refine wq ?_
    repeat (go_big_quiet_step (first | exact ZZ (uh Hma _ (Z1 _ _ _)) | exact ZZ (uh Hwa _ (Z1 _ _ _)) | exact ZZ (uh Hu _ (Z1 _ _ _)) | exact ZZ (uh Hf _ (Z1 _ _ _)) | exact ZZ (uh Ht _)))
    refine wpQuiet_nil ?_;intro _ hw';obtain ⟨⟨dq,osq⟩,hw''⟩:=hw';subst hw'';clear c0 c1 c2 c3 c4 c5 y0 y1 y2 y3 y4 y5 Hma Hwa Hu Hf Ht;have hb9:=Z1 wr dq osq;replace HL:=Z9 (RecAt.later (uh HL) hb9);replace kb:=Z9 ((uh kb).below hb9 (uh kb).lt);replace Hv1:=Z9 ((uh Hv1).below hb9);replace BB:=Z9 ((uh BB).trans (hb9.mono (uh BB).size));clear hb9;generalize grow (redrawn wr dq) osq=X at *;have hsx:=(uh BB).size;go_wp2_with (at_builtin;refine ZG tyN rfl (.tmp 33) (.tmp 35) 30 underlying30 rfl (w.heap.size+1) _ _ (VI m (who:Int) k) [(k:Int)] rfl rfl (RecAt.later (uh HL) ((ba _ _))) (WH (k:Int) rfl (Z0 _) (by omega)) (by simp;omega) (by simp;omega) ?_;intro u9 w9 hp9 hg9 hat9;have HP9:=Z9 hp9;have HG9:=Z9 hg9;clear hp9 hg9 hat9)
    have hlx:=(uh kb).lt;have hgo:∀ i,(Value.slice la (VI m (who:Int) k).length lc).ownBlock=some i->w.heap.size+1<=i:=fun i e=>(RecAt.lt (uh HL) e).1;have hb9:Below (w.heap.size+1) X w9:=((Z3 _ _).alloc hlx _).trans ((Z3 _ _).grown (uh HG9) (by simp;omega) hgo);have hb8:=(uh BB).trans (hb9.mono (Nat.le_succ _));go_wp2_with fail;go_roundw
    case rel=>exact ⟨k+1,by omega,by go_num,by rw [uh Hyes (uh Hc)];exact uh HP9,(uh kb).below hb9 (Nat.lt_succ_self _),(uh HW).below hb8,hb8⟩
    case measure=>exact ms
  ·obtain rfl:k=m.dk.length:=by omega
   go_wp2_with fail;go_ret;exact ⟨_,rfl,RecAt.mono (uh HL) (Nat.le_succ _),uh BB⟩
theorem zu {g:Nat} {zs:List Int} (h:∀ j,j<zs.length-> ∀ i u,(Tj (Z8 zs j))[i]?=some u->w.cell? ⟨g,j*1+i,none⟩=some u) {j:Nat} (hj:j<zs.length):w.cell? ⟨g,j,none⟩=some (.int .i64 (Z8 zs j)):=by
 have:=h j hj 0 _ rfl;simpa using this
theorem FN {who:Int} (h:XT m=true\/(XT m=false/\(Zr m who).length=0)):Zl m who=(YX m who m.dk.length).1:=by
 unfold Zl
 rcases h with e | ⟨e,e'⟩
 ·rw [e];rfl
 ·rw [e,e'];rfl
theorem FM {who:Int} (h:XT m=false) (h':0<(Zr m who).length):Zl m who=(XE m who (Zr m who) (Zr m who).length).1:=by
 unfold Zl;rw [h,decide_eq_true h'];rfl
theorem EA {who:Int} {k:Nat} (hm:Zk m who k=true) (h:(YX m who k).1<0\/(YX m who k).2<XX (Zx m k who) (Zo m.rm k)):YX m who (k+1)=((k:Int),XX (Zx m k who) (Zo m.rm k)):=by
 show (if _ then _ else _)=_;rw [hm]
 rcases h with h | h
 ·rw [decide_eq_true h];rfl
 ·rw [decide_eq_true h,Bool.or_true];rfl
theorem Cc {who:Int} {k:Nat} (h:Zk m who k=false\/(¬ (YX m who k).1<0/\ ¬ (YX m who k).2<XX (Zx m k who) (Zo m.rm k))):YX m who (k+1)=YX m who k:=by
 show (if _ then _ else _)=_
 rcases h with h | ⟨h,h'⟩
 ·rw [h];rfl
 ·rw [decide_eq_false h,decide_eq_false h',Bool.or_false,Bool.and_false];rfl
theorem Lt {who:Int} {f:List Int} : XE m who f 1=(Z8 f 0,ZS m who (Z8 f 0)):=by
 cases f<;>rfl
theorem Od {who:Int} {f:List Int} {k:Nat} (h1:1<=k) (hk:k<f.length):XE m who f (k+1)=YP m who (XE m who f k) (Z8 f k):=by
 unfold XE
 have e:f.take (k+1)=f.take k++[Z8 f k]:=by
  rw [List.take_add_one,List.getElem?_eq_getElem hk,QO hk];rfl
 rw [e,List.drop_append_of_le_length (by simp;omega),List.foldl_append];rfl
theorem DR {who:Nat} {f:List Int} {k:Nat} (h1:1<=k) (hk:k<f.length) (h:ZS m (who:Int) (Z8 f k)<(XE m (who:Int) f k).2\/(ZS m (who:Int) (Z8 f k)=(XE m (who:Int) f k).2/\Z8 f k=(Z8 m.sm who).2.1)):XE m (who:Int) f (k+1)=(Z8 f k,ZS m (who:Int) (Z8 f k)):=by
 rw [Od h1 hk];unfold YP;exact if_pos h
theorem BA {who:Nat} {f:List Int} {k:Nat} (h1:1<=k) (hk:k<f.length) (h:¬ (ZS m (who:Int) (Z8 f k)<(XE m (who:Int) f k).2\/(ZS m (who:Int) (Z8 f k)=(XE m (who:Int) f k).2/\Z8 f k=(Z8 m.sm who).2.1))):XE m (who:Int) f (k+1)=XE m (who:Int) f k:=by
 rw [Od h1 hk];unfold YP;exact if_neg h
theorem Wx  {who:Nat} (h:Smy w v0 v1 v2 v3 v4 m) (hS:Sane m) (hp:m.pc.length<=1000) (hA:RZ m who) :
  cB 85 #[.agg #[v0,v1,v2,v3,v4,.int .i64 m.now],.int .i64 (who:Int)] w (.int .i64 (Zl m (who:Int))):=by
 have Hv:=Z9 (h.alloc (.cells #[v0,v1,v2,v3,v4,.int .i64 m.now] 32));obtain ⟨a0,p0,a1,p1,a2,p2,a3,p3,a4,p4,rfl,rfl,rfl,rfl,rfl,_,_,_,_,_,_,_,_,_,_⟩:=h.five;clear h;obtain ⟨BB0,kb0⟩:=V5 w 32 (S6 a0 p0 a1 p1 a2 p2 a3 p3 a4 p4 m);have HS:=Z9 hS;have HA:=Z9 hA;have HP:=Z9 hp;have h8:=hS.eight;clear hS hA hp;obtain ⟨c0,c1,c2,c3,c4,c5⟩:=(uh kb0).c6
 have hX:(XT m=true\/(XT m=false/\(Zr m (who:Int)).length=0))\/(XT m=false/\0<(Zr m (who:Int)).length):=by
  cases XT m
  ·by_cases h0:(Zr m (who:Int)).length=0
   ·exact .inl (.inr ⟨rfl,h0⟩)
   ·exact .inr ⟨rfl,by omega⟩
  ·exact .inl (.inl rfl)
 rcases hX with hX | ⟨hcr,hle⟩
 ·rw [FN hX]
  rcases hX with hcr | ⟨hcr,hle⟩
  all_goals
   go_enter func85,ntmps85;go_wp2_with (first | (go_at_call 73;refine (TX (uh Hv) (uh HS) (uh HA)).mono ?_;rintro e w1 ⟨fv,rfl,hf1,hb1⟩;obtain ⟨la,lc,rfl⟩:=RecAt.shape hf1;have HF:=Z9 hf1;have B1:=Z9 hb1;have kb1:=Z9 ((uh kb0).below hb1 (uh kb0).lt);have Hv1:=Z9 ((uh Hv).below hb1);have BB1:=Z9 ((uh BB0).trans (hb1.mono (uh BB0).size));clear hf1 hb1 kb0 Hv BB0 B1 c0 c1 c2 c3 c4 c5;have d0:=(uh kb1).cell (i:=0) (v:= .slice a0 m.rm.length p0) rfl;have d1:=(uh kb1).cell (i:=1) (v:= .slice a1 m.gd.length p1) rfl;have d2:=(uh kb1).cell (i:=2) (v:= .slice a2 m.sm.length p2) rfl;have d3:=(uh kb1).cell (i:=3) (v:= .slice a3 m.dk.length p3) rfl;have d4:=(uh kb1).cell (i:=4) (v:= .slice a4 m.pc.length p4) rfl;have d5:=(uh kb1).cell (i:=5) (v:= .int .i64 m.now) rfl) | (go_at_call 86;refine (TW (uh Hv1) (uh HS)).mono ?_;rintro e w2 ⟨he,hb2⟩;rw [hcr] at he;subst he;have B2:=Z9 hb2;clear hb2) | fail)
   have kb2:=Z9 ((uh kb1).below (uh B2) (uh kb1).lt);have Hv2:=Z9 ((uh Hv1).below (uh B2));have BB2:=Z9 ((uh BB1).trans ((uh B2).mono (uh BB1).size));clear kb1 Hv1 BB1 B2 d0 d1 d2 d3 d4 d5 HF
   go_loopw [10,11,12] (fun bv mv i wr=> ∃ k:Nat,k<=m.dk.length/\bv= .int .i64 (YX m (who:Int) k).1/\mv= .int .i64 (YX m (who:Int) k).2/\i= .int .i64 k/\Blk wr w.heap.size 32 (S6 a0 p0 a1 p1 a2 p2 a3 p3 a4 p4 m)/\Smy wr (.slice a0 m.rm.length p0) (.slice a1 m.gd.length p1) (.slice a2 m.sm.length p2) (.slice a3 m.dk.length p3) (.slice a4 m.pc.length p4) m/\Below w.heap.size w wr) (fun _ _ i _=>m.dk.length-(intOf i).toNat)
   case atStart=>exact ⟨0,ZA _,rfl,rfl,rfl,uh kb2,uh Hv2,uh BB2⟩
   case round=>
    obtain ⟨k,hk,rfl,rfl,rfl,hkb,hv,hb0⟩:=hrel;have kb:=Z9 hkb;have Hv3:=Z9 hv;have BB:=Z9 hb0;clear hkb hv hb0 kb2 BB2 Hv2;obtain ⟨e0,e1,e2,e3,e4,e5⟩:=(uh kb).c6;by_cases hlt:k<m.dk.length
    ·have hlt1:(k:Int)<(m.dk.length:Int):=by omega
     have Hno:=Z9 (fun hh=>Cc (m:=m) (who:=(who:Int)) (k:=k) hh);have Hyes:=Z9 (fun ha hh=>EA (m:=m) (who:=(who:Int)) (k:=k) ha hh);have hfo:=TQ ((uh HS).bench hlt);have Hma:=Z9 (fun (W:World) (hW:Below wr.heap.size wr W)=>TY ((uh Hv3).below hW) (uh HA).lt hlt (by omega) (uh HA).y0 (uh HA).y1);have Hu:=Z9 (fun (W:World) (hW:Below wr.heap.size wr W)=>UY (k:Int) (who:Int) ((uh Hv3).below hW) (uh HS).guilded (by have:=(uh HS).few;omega));have Hf:=Z9 (fun (W:World) (hW:Below wr.heap.size wr W)=>VL (k:Int) ((uh Hv3).below hW).rm ((uh HS).bench hlt));rw [<-hfo] at Hf;clear hfo;have Ht:=Z9 (fun (W:World)=>Calls.same_below (VZ (Zx m (k:Int) (who:Int)) (Zo m.rm (k:Int)) W));generalize Zk m (who:Int) k=ma at *;generalize Zx m (k:Int) (who:Int)=us at *;generalize Zo m.rm (k:Int)=fo at *;generalize XX us fo=sp at *;obtain ⟨bt,hbt⟩:=ZJ ((YX m (who:Int) k).1);obtain ⟨mt,hmt⟩:=ZJ ((YX m (who:Int) k).2);rw [hbt,hmt] at Hno Hyes;rw [hbt,hmt];have Hbt:=Z9 hbt;have Hmt:=Z9 hmt;clear hbt hmt;have y0:=ZX e0;have y1:=ZX e1;have y2:=ZX e2;have y3:=ZX e3;have y4:=ZX e4;have y5:=ZX e5;cases ma
     ·go_wp2_with fail
      refine wq ?_
      repeat (go_big_quiet_step (first | exact ZZ (uh Hu _ (Z1 _ _ _)) | exact ZZ (uh Hf _ (Z1 _ _ _)) | exact ZZ (uh Ht _)))
      refine wpQuiet_nil ?_;intro _ hw';obtain ⟨⟨dq,osq⟩,hw''⟩:=hw';subst hw'';go_wp2_with (go_at_call 75;refine (uh Hma _ (Z1 _ _ _)).mono ?_;rintro e w5 ⟨rfl,hb5⟩;have HX:=Z9 ((Z1 wr dq osq).trans (hb5.mono (Z1 _ _ _).size));clear hb5)
      go_roundw
      case rel=>exact ⟨k+1,by omega,by rw [uh Hno (.inl (by simp)),uh Hbt],by rw [uh Hno (.inl (by simp)),uh Hmt],by go_num,(uh kb).below (uh HX) (uh kb).lt,(uh Hv3).below (uh HX),(uh BB).trans ((uh HX).mono (uh BB).size)⟩
      case measure=>exact ms
     by_cases hb1:bt<0
     ·go_wp2_with fail
      refine wq ?_
      repeat (go_big_quiet_step (first | exact ZZ (uh Hu _ (Z1 _ _ _)) | exact ZZ (uh Hf _ (Z1 _ _ _)) | exact ZZ (uh Ht _)))
      refine wpQuiet_nil ?_;intro _ hw';obtain ⟨⟨dq,osq⟩,hw''⟩:=hw';subst hw'';go_wp2_with (go_at_call 75;refine (uh Hma _ (Z1 _ _ _)).mono ?_;rintro e w5 ⟨rfl,hb5⟩;have HX:=Z9 ((Z1 wr dq osq).trans (hb5.mono (Z1 _ _ _).size));clear hb5)
      go_roundw
      case rel=>exact ⟨k+1,by omega,by rw [uh Hyes (by simp) (.inl hb1)],by rw [uh Hyes (by simp) (.inl hb1)],by go_num,(uh kb).below (uh HX) (uh kb).lt,(uh Hv3).below (uh HX),(uh BB).trans ((uh HX).mono (uh BB).size)⟩
      case measure=>exact ms
     by_cases hb2:mt<sp
     ·go_wp2_with fail
      refine wq ?_
      repeat (go_big_quiet_step (first | exact ZZ (uh Hu _ (Z1 _ _ _)) | exact ZZ (uh Hf _ (Z1 _ _ _)) | exact ZZ (uh Ht _)))
      refine wpQuiet_nil ?_;intro _ hw';obtain ⟨⟨dq,osq⟩,hw''⟩:=hw';subst hw'';go_wp2_with (go_at_call 75;refine (uh Hma _ (Z1 _ _ _)).mono ?_;rintro e w5 ⟨rfl,hb5⟩;have HX:=Z9 ((Z1 wr dq osq).trans (hb5.mono (Z1 _ _ _).size));clear hb5)
      go_roundw
      case rel=>exact ⟨k+1,by omega,by rw [uh Hyes (by simp) (.inr hb2)],by rw [uh Hyes (by simp) (.inr hb2)],by go_num,(uh kb).below (uh HX) (uh kb).lt,(uh Hv3).below (uh HX),(uh BB).trans ((uh HX).mono (uh BB).size)⟩
      case measure=>exact ms
     ·go_wp2_with fail
      refine wq ?_
      repeat (go_big_quiet_step (first | exact ZZ (uh Hu _ (Z1 _ _ _)) | exact ZZ (uh Hf _ (Z1 _ _ _)) | exact ZZ (uh Ht _)))
      refine wpQuiet_nil ?_;intro _ hw';obtain ⟨⟨dq,osq⟩,hw''⟩:=hw';subst hw'';go_wp2_with (go_at_call 75;refine (uh Hma _ (Z1 _ _ _)).mono ?_;rintro e w5 ⟨rfl,hb5⟩;have HX:=Z9 ((Z1 wr dq osq).trans (hb5.mono (Z1 _ _ _).size));clear hb5)
      go_roundw
      case rel=>exact ⟨k+1,by omega,by rw [uh Hno (.inr ⟨by omega,by omega⟩),uh Hbt],by rw [uh Hno (.inr ⟨by omega,by omega⟩),uh Hmt],by go_num,(uh kb).below (uh HX) (uh kb).lt,(uh Hv3).below (uh HX),(uh BB).trans ((uh HX).mono (uh BB).size)⟩
      case measure=>exact ms
    ·obtain rfl:k=m.dk.length:=by omega
     go_wp2_with fail;go_ret;exact ⟨rfl,uh BB⟩
 ·rw [FM hcr hle]
  have hlb:(Zr m (who:Int)).length<=m.dk.length:=OR m (who:Int) m.dk.length;generalize hL:Zr m (who:Int)=L at *;go_enter func85,ntmps85;go_wp2_with (first | (go_at_call 73;refine (TX (uh Hv) (uh HS) (uh HA)).mono ?_;rintro e w1 ⟨fv,rfl,hf1,hb1⟩;rw [hL] at hf1;obtain ⟨la,lc,rfl⟩:=RecAt.shape hf1;obtain ⟨g,rfl,_,g1,hgc,_⟩:=RecAt.view Ze (by omega) hf1 rfl hle;have C1:=Z9 (fun j hj=>zu hgc (j:=j) hj);have kb1:=Z9 ((uh kb0).below hb1 (uh kb0).lt);have Hv1:=Z9 ((uh Hv).below hb1);have BB1:=Z9 ((uh BB0).trans (hb1.mono (uh BB0).size));clear hf1 hb1 hgc kb0 Hv BB0 c0 c1 c2 c3 c4 c5;have d0:=(uh kb1).cell (i:=0) (v:= .slice a0 m.rm.length p0) rfl;have d1:=(uh kb1).cell (i:=1) (v:= .slice a1 m.gd.length p1) rfl;have d2:=(uh kb1).cell (i:=2) (v:= .slice a2 m.sm.length p2) rfl;have d3:=(uh kb1).cell (i:=3) (v:= .slice a3 m.dk.length p3) rfl;have d4:=(uh kb1).cell (i:=4) (v:= .slice a4 m.pc.length p4) rfl;have d5:=(uh kb1).cell (i:=5) (v:= .int .i64 m.now) rfl) | (go_at_call 86;refine (TW (uh Hv1) (uh HS)).mono ?_;rintro e w2 ⟨he,hb2⟩;rw [hcr] at he;subst he;have kb2:=Z9 ((uh kb1).below hb2 (uh kb1).lt);have Hv2:=Z9 ((uh Hv1).below hb2);have BB2:=Z9 ((uh BB1).trans (hb2.mono (uh BB1).size));have C2:=Z9 (fun j hj=>(hb2.cell (p:=⟨g,j,none⟩) g1).trans (uh C1 j hj));have g2:=Y0 g1 hb2.size;clear hb2 kb1 Hv1 BB1 C1 g1 d0 d1 d2 d3 d4 d5;have d0:=(uh kb2).cell (i:=0) (v:= .slice a0 m.rm.length p0) rfl;have d1:=(uh kb2).cell (i:=1) (v:= .slice a1 m.gd.length p1) rfl;have d2:=(uh kb2).cell (i:=2) (v:= .slice a2 m.sm.length p2) rfl;have d3:=(uh kb2).cell (i:=3) (v:= .slice a3 m.dk.length p3) rfl;have d4:=(uh kb2).cell (i:=4) (v:= .slice a4 m.pc.length p4) rfl;have d5:=(uh kb2).cell (i:=5) (v:= .int .i64 m.now) rfl;have x0:=uh C2 0 hle) | (go_at_call 65;refine (Rj _ (uh Hv2) (uh HS) (uh HP) (uh HA).lt (uh HA).st).mono ?_;rintro e w3 ⟨rfl,hb3⟩;have B3:=Z9 hb3;clear hb3) | fail)
  have kb3:=Z9 ((uh kb2).below (uh B3) (uh kb2).lt);have Hv3:=Z9 ((uh Hv2).below (uh B3));have BB3:=Z9 ((uh BB2).trans ((uh B3).mono (uh BB2).size));have C3:=Z9 (fun j hj=>((uh B3).cell (p:=⟨g,j,none⟩) g2).trans (uh C2 j hj));have g3:=Y0 g2 (uh B3).size;clear kb2 Hv2 BB2 B3 C2 g2 d0 d1 d2 d3 d4 d5 x0
  go_loopw [6,7,8] (fun bv lv i wr=> ∃ k:Nat,1<=k/\k<=L.length/\bv= .int .i64 (XE m (who:Int) L k).1/\lv= .int .i64 (XE m (who:Int) L k).2/\i= .int .i64 k/\(∀ j,j<L.length->wr.cell? ⟨g,j,none⟩=some (.int .i64 (Z8 L j)))/\g<wr.heap.size/\Blk wr w.heap.size 32 (S6 a0 p0 a1 p1 a2 p2 a3 p3 a4 p4 m)/\Smy wr (.slice a0 m.rm.length p0) (.slice a1 m.gd.length p1) (.slice a2 m.sm.length p2) (.slice a3 m.dk.length p3) (.slice a4 m.pc.length p4) m/\Below w.heap.size w wr) (fun _ _ i _=>L.length-(intOf i).toNat)
  case atStart=>exact ⟨1,Z0 _,by omega,by rw [Lt],by rw [Lt],rfl,uh C3,g3,uh kb3,uh Hv3,uh BB3⟩
  case round=>
   obtain ⟨k,hk1,hk,rfl,rfl,rfl,hc,hg,hkb,hv,hb0⟩:=hrel;have HC:=Z9 hc;have kb:=Z9 hkb;have Hv4:=Z9 hv;have BB:=Z9 hb0;clear hkb hv hb0 kb3 BB3 Hv3 hc C3 g3;obtain ⟨e0,e1,e2,e3,e4,e5⟩:=(uh kb).c6;by_cases hlt:k<L.length
   ·have hlt1:(k:Int)<(L.length:Int):=by omega
    have x0:=uh HC k hlt;obtain ⟨_,_,hse,_,_,r2⟩:=(uh Hv4).sm;cases hse;have hwl:=(uh HA).lt
    rcases r2 with e0 | ⟨sb,so,rfl,hbs,hcs⟩
    ·rw [e0] at hwl;simp at hwl
    obtain ⟨_,s1,_⟩:=Zu hcs hwl;clear hcs;have hwl1:(who:Int)<(m.sm.length:Int):=by omega
    have Hno:=Z9 (fun hh=>BA (m:=m) (who:=who) (k:=k) hk1 hlt hh);have Hyes:=Z9 (fun hh=>DR (m:=m) (who:=who) (k:=k) hk1 hlt hh);have Hw:=Z9 (fun (W:World) (hW:Below wr.heap.size wr W)=>Rj (Z8 L k) ((uh Hv4).below hW) (uh HS) (uh HP) (uh HA).lt (uh HA).st);generalize ZS m (who:Int) (Z8 L k)=n at *;generalize Z8 L k=x at *;generalize (Z8 m.sm who).2.1=y at *;obtain ⟨bt,hbt⟩:=ZJ ((XE m (who:Int) L k).1);obtain ⟨lt,hmt⟩:=ZJ ((XE m (who:Int) L k).2);rw [hmt] at Hno Hyes;rw [hbt,hmt];have Hbt:=Z9 hbt;have Hmt:=Z9 hmt;clear hbt hmt;have y0:=ZX e0;have y1:=ZX e1;have y2:=ZX e2;have y3:=ZX e3;have y4:=ZX e4;have y5:=ZX e5;have z0:=ZX x0;have z1:=ZX s1;go_wp2_with fail;refine wq ?_
    repeat (go_big_quiet_step (first | exact ZZ (uh Hw _ (Z1 _ _ _))))
    refine wpQuiet_nil ?_;intro _ hw';obtain ⟨⟨dq,osq⟩,hw''⟩:=hw';subst hw'';go_wp2_with fail;have hX:=Z9 (Z1 wr dq osq);have q0:=y0 dq osq;have q1:=y1 dq osq;have q2:=y2 dq osq;have q3:=y3 dq osq;have q4:=y4 dq osq;have q5:=y5 dq osq;have r0:=z0 dq osq;have r1:=z1 dq osq;clear z0 z1 x0 s1 y0 y1 y2 y3 y4 y5 e0 e1 e2 e3 e4 e5 Hw;have HC2:=Z9 (fun j hj=>((uh hX).cell (p:=⟨g,j,none⟩) hg).trans (uh HC j hj));have hg2:=Y0 hg (uh hX).size;have kb9:=Z9 ((uh kb).below (uh hX) (uh kb).lt);have Hv9:=Z9 ((uh Hv4).below (uh hX));have BB9:=Z9 ((uh BB).trans ((uh hX).mono (uh BB).size));clear HC hg kb Hv4 BB hX hbs;generalize grow (redrawn wr dq) osq=X at *;have r2:=ZX r0;have r3:=ZX r1;have t0:=ZX q0;have t1:=ZX q1;have t2:=ZX q2;have t3:=ZX q3;have t4:=ZX q4;have t5:=ZX q5;by_cases hn:n<lt
    ·refine wq ?_
     repeat (go_big_quiet_step (fail))
     refine wpQuiet_nil ?_;intro _ hw';obtain ⟨⟨dq,osq⟩,hw''⟩:=hw';subst hw'';go_wp2_with fail;go_roundw
     case rel=>exact ⟨k+1,by omega,by omega,by rw [uh Hyes (by omega)],by rw [uh Hyes (by omega)],by go_num,fun j hj=>((Z1 X dq osq).cell (p:=⟨g,j,none⟩) hg2).trans (uh HC2 j hj),Y0 hg2 (Z1 X dq osq).size,(uh kb9).below (Z1 X dq osq) (uh kb9).lt,(uh Hv9).below (Z1 X dq osq),(uh BB9).trans ((Z1 X dq osq).mono (uh BB9).size)⟩
     case measure=>exact ms
    by_cases he:n=lt
    ·subst he
     by_cases hxy:x=y
     ·subst hxy
      refine wq ?_
      repeat (go_big_quiet_step (fail))
      refine wpQuiet_nil ?_;intro _ hw';obtain ⟨⟨dq,osq⟩,hw''⟩:=hw';subst hw'';go_wp2_with fail;go_roundw
      case rel=>exact ⟨k+1,by omega,by omega,by rw [uh Hyes (by omega)],by rw [uh Hyes (by omega)],by go_num,fun j hj=>((Z1 X dq osq).cell (p:=⟨g,j,none⟩) hg2).trans (uh HC2 j hj),Y0 hg2 (Z1 X dq osq).size,(uh kb9).below (Z1 X dq osq) (uh kb9).lt,(uh Hv9).below (Z1 X dq osq),(uh BB9).trans ((Z1 X dq osq).mono (uh BB9).size)⟩
      case measure=>exact ms
     ·refine wq ?_
      repeat (go_big_quiet_step (fail))
      refine wpQuiet_nil ?_;intro _ hw';obtain ⟨⟨dq,osq⟩,hw''⟩:=hw';subst hw'';go_wp2_with fail;go_roundw
      case rel=>exact ⟨k+1,by omega,by omega,by rw [uh Hno (by omega),uh Hbt],by rw [uh Hno (by omega),uh Hmt],by go_num,fun j hj=>((Z1 X dq osq).cell (p:=⟨g,j,none⟩) hg2).trans (uh HC2 j hj),Y0 hg2 (Z1 X dq osq).size,(uh kb9).below (Z1 X dq osq) (uh kb9).lt,(uh Hv9).below (Z1 X dq osq),(uh BB9).trans ((Z1 X dq osq).mono (uh BB9).size)⟩
      case measure=>exact ms
    ·have e1:(n ==lt)=false:=by simpa using he
     have e2:decide (n=lt)=false:=Yb he;refine wq ?_
     repeat (go_big_quiet_step (fail))
     refine wpQuiet_nil ?_;intro _ hw';obtain ⟨⟨dq,osq⟩,hw''⟩:=hw';subst hw'';go_wp2_with fail;go_roundw
     case rel=>exact ⟨k+1,by omega,by omega,by rw [uh Hno (by omega),uh Hbt],by rw [uh Hno (by omega),uh Hmt],by go_num,fun j hj=>((Z1 X dq osq).cell (p:=⟨g,j,none⟩) hg2).trans (uh HC2 j hj),Y0 hg2 (Z1 X dq osq).size,(uh kb9).below (Z1 X dq osq) (uh kb9).lt,(uh Hv9).below (Z1 X dq osq),(uh BB9).trans ((Z1 X dq osq).mono (uh BB9).size)⟩
     case measure=>exact ms
   ·obtain rfl:k=L.length:=by omega
    go_wp2_with fail;go_ret;exact ⟨rfl,uh BB⟩
open Go.ChangeShapes Go.WideShapes Go.ChangeAt Go.RowKit Go.Sort
def YT (m:Z6) (b:Nat):Nat->Nat
 | 0=>0
 | k+1=>if (Z8 m.dk k).1 && !(k ==b) then YT m b k ||| 2 ^ k else YT m b k
theorem QK (m:Z6) (b:Nat):∀ k j:Nat,(YT m b k).testBit j=(decide (j<k) && ((Z8 m.dk j).1 && !(j ==b)))
 | 0,j=>by simp [YT]
 | k+1,j=>by
  have ih:=QK m b k j;unfold YT;by_cases e:j=k
  ·subst e
   have hj:(YT m b j).testBit j=false:=by rw [ih];simp
   split
   ·rename_i h
    rw [Nat.testBit_or,hj,Nat.testBit_two_pow_self,h];simp
   ·rename_i h
    rw [hj];have:((Z8 m.dk j).1 && !(j ==b))=false:=by simpa using h
    rw [this];simp
  ·have hd:decide (j<k+1)=decide (j<k):=by
    by_cases h:j<k
    ·rw [decide_eq_true h,decide_eq_true (by omega)]
    ·rw [decide_eq_false h,decide_eq_false (by omega)]
   rw [hd]
   split
   ·rw [Nat.testBit_or,ih,Nat.testBit_two_pow_of_ne (by omega),Bool.or_false]
   ·exact ih
theorem Mx (m:Z6) (b:Nat):∀ k:Nat,YT m b k<2 ^ k
 | 0=>by simp [YT]
 | k+1=>by
  have ih:=Mx m b k;have hp:2 ^ (k+1)=2*2 ^ k:=by rw [Nat.pow_succ];omega
  unfold YT
  split
  ·exact Nat.or_lt_two_pow (by omega) (by omega)
  ·omega
theorem Lu {x:Nat} (h:x ≠ 0):∃ j,x.testBit j=true:=by
 refine Classical.byContradiction fun hn=>h ?_;apply Nat.eq_of_testBit_eq;intro i;rw [Nat.zero_testBit];cases hi:x.testBit i
 ·rfl
 ·exact absurd ⟨i,hi⟩ hn
theorem FI {s:Int} (h:0<=s) (j:Nat):V6 s (j:Int)=s.toNat.testBit j:=by
 obtain ⟨n,rfl⟩:=Int.eq_ofNat_of_zero_le h;unfold V6;rw [Nat.testBit_eq_decide_div_mod_eq];simp only [Zp]
 congr 1
 apply propext;constructor
 ·intro h
  exact_mod_cast h
 ·intro h
  exact_mod_cast h
def Yq (n:Nat):Int:=(2:Int) ^ n-1
theorem Oc (n:Nat):Yq n=((2 ^ n-1:Nat):Int):=by
 have h:1<=2 ^ n:=Nat.one_le_two_pow;unfold Yq;rw [Int.natCast_sub h]
 push_cast
 rfl
theorem Fu {n j:Nat} (h:j<n):V6 (Yq n) (j:Int)=true:=by
 rw [FI (by rw [Oc];omega),Oc,Zp,Nat.testBit_two_pow_sub_one];exact V0 h
theorem Ln {n:Nat} (h1:1<=n) (h8:n<=8):1<=Yq n/\Yq n<=255:=by
 have key:∀ k:Fin 8,1<=Yq (k.val+1)/\Yq (k.val+1)<=255:=by unfold Yq;decide
 have:=key ⟨n-1,by omega⟩
 rwa [show n-1+1=n by omega] at this
def Rp (op n:Nat) (may:Int):Int:=if may.toNat &&& op=0 then Yq n else may
theorem Ey {op n:Nat} {may:Int} (h0:0<=may) (hop:op ≠ 0) (hn:∀ j,op.testBit j=true->j<n):∃ j,op.testBit j=true/\V6 (Rp op n may) (j:Int)=true:=by
 unfold Rp
 split
 ·obtain ⟨j,hj⟩:=Lu hop
  exact ⟨j,hj,Fu (hn j hj)⟩
 ·rename_i h
  obtain ⟨j,hj⟩:=Lu h;rw [Nat.testBit_and] at hj;simp only [ZO] at hj;exact ⟨j,hj.2,by rw [FI h0];exact hj.1⟩
theorem Az {op n:Nat} {may:Int} (h1:1<=n) (h8:n<=8) (m0:1<=may) (m1:may<=255):1<=Rp op n may/\Rp op n may<=255:=by
 unfold Rp
 split
 ·exact Ln h1 h8
 ·exact ⟨m0,m1⟩
def closeX (op:Nat) (m:Z6) (w:Nat):Z6:=VS m w (Rp op m.dk.length (Z8 m.sm w).2.2.2.1)
def I5 (op:Nat) (m:Z6) (w:Nat):Int:=Zl (closeX op m w) (w:Int)
def Vf (op:Nat) (m:Z6) (w:Nat):Z6:=setS (closeX op m w) w (putS (closeX op m w) (Z8 (closeX op m w).sm w) (I5 op m w))
def Yf (op:Nat) (m:Z6) (q:List Z4):Nat->Z6
 | 0=>m
 | k+1=>Vf op (Yf op m q k) (Z7 q k).2.toNat
structure Shut (m0:Z6) (b:Nat) (P:Nat->Prop) (m:Z6):Prop where
 rm:m.rm=m0.rm
 gd:m.gd=m0.gd
 pc:m.pc=m0.pc
 now:m.now=m0.now
 dk:m.dk=(Xb m0 b false).dk
 len:m.sm.length=m0.sm.length
 here:∀ i,i<m.sm.length->XR m (Z8 m.sm i)=true
 seat:∀ i,i<m.sm.length-> ¬ P i->XL m (Z8 m.sm i)=true
 left:∀ i,P i->i<m.sm.length/\ZL (Z8 m.sm i)=true/\(Z8 m.sm i).2.1=(b:Int)/\Wt (Xs (Z8 m.sm i)) (WO m (b:Int))=true
theorem Nz {b:Nat} (hb:b<m.dk.length) (o:Bool) (j:Nat):Z8 (Xb m b o).dk j=if j=b then (o,(Z8 m.dk b).2) else Z8 m.dk j:=ZD hb j
theorem Ug (m:Z6) (b:Nat) (o:Bool):(Xb m b o).dk.length=m.dk.length:=by unfold Xb;simp
theorem Pc {b:Nat} (hb:b<m.dk.length) (o:Bool) (j:Nat):(Z8 (Xb m b o).dk j).2=(Z8 m.dk j).2:=by
 rw [Nz hb];by_cases e:j=b
 ·rw [if_pos e,e]
 ·rw [if_neg e]
theorem EV {m0:Z6} (h:Loose m0) {b:Nat} (hb:b<m0.dk.length):Shut m0 b (fun i=>i<m0.sm.length/\(Z8 m0.sm i).2.1=(b:Int)/\ZL (Z8 m0.sm i)=true) (Xb m0 b false):=by
 refine ⟨rfl,rfl,rfl,rfl,rfl,rfl,fun i hi=> ?_,fun i hi hn=> ?_,fun i hp=> ?_⟩
 ·rw [Wj (m:=m0) (m':=Xb m0 b false) rfl (Ug _ _ _)]
  exact h.here i hi
 ·cases hp:ZL (Z8 m0.sm i)
  ·exact Uq hp
  ·obtain ⟨a0,a1,a2,a3,a4⟩:=h.at (i:=i) hi hp
   have hne:(Z8 m0.sm i).2.1.toNat ≠ b:=by
    intro e;exact hn ⟨hi,by omega,hp⟩
   refine Ny (m:=Xb m0 b false) (s:=Z8 m0.sm i) ?_ a3 ?_
   ·rw [Nz hb,if_neg hne];exact a2
   ·rw [Pc hb];exact a4
 ·obtain ⟨hi,e,hp⟩:=hp
  obtain ⟨a0,a1,a2,a3,a4⟩:=h.at (i:=i) hi hp;refine ⟨hi,hp,e,?_⟩;rw [e] at a4;show Wt _ (Z8 (Xb m0 b false).dk ((b:Int)).toNat).2.2=true;rw [Pc hb];exact a4
theorem Shut.bare {m0 m:Z6} {b:Nat} {P:Nat->Prop} (h:Shut m0 b P m) (h0:Loose m0) (hb:b<m0.dk.length) (hop:YT m0 b m0.dk.length ≠ 0):Loose { m with sm:=[] }:=by
 have hl:m.dk.length=m0.dk.length:=by rw [h.dk,Ug]
 refine ⟨?_,?_,?_,fun i hi=>absurd hi (Nat.not_lt_zero _),fun i hi=>absurd hi (Nat.not_lt_zero _),?_⟩
 ·have:=h0.head
  unfold Yx at this ⊢;simp only [ZO,YZ] at this ⊢;rw [h.rm,h.gd,h.pc,h.now,hl];exact ⟨this.1,this.2.1,by simp,this.2.2.2⟩
 ·intro j hj
  show Vr (Z8 m.dk j)=true;have hj':j<m.dk.length:=hj;have:=h0.desk j (by omega);unfold Vr at this ⊢;rw [h.dk,Pc hb];exact this
 ·intro j hj
  have:=h0.pace j (by rw [<-h.pc];exact hj);unfold VX at this ⊢;simp only;rw [h.pc,h.rm];exact this
 ·obtain ⟨j,hj⟩:=Lu hop
  rw [QK] at hj;simp only [ZO,YZ,Bool.not_eq_true',beq_eq_false_iff_ne] at hj;refine ⟨j,(by show j<m.dk.length;omega),?_⟩;show (Z8 m.dk j).1=true;rw [h.dk,Nz hb,if_neg hj.2.2];exact hj.2.1
theorem Shut.pres {m0 m:Z6} {b:Nat} {P:Nat->Prop} (h:Shut m0 b P m) {i:Nat} (hp:P i):YN (Z8 m.sm i)=true/\(Z8 m.sm i).2.2.2.2.1<m.gd.length:=by
 obtain ⟨hi,hp1,_⟩:=h.left i hp
 rcases Xi.1 (h.here i hi) with e | e
 ·rw [e] at hp1;cases hp1
 ·exact ⟨e.1,e.2.1⟩
theorem Shut.sane {m0 m:Z6} {b:Nat} {P:Nat->Prop} (h:Shut m0 b P m) (h0:Loose m0):Sane m:=by
 have s0:=h0.sane
 have lim:∀ i,i<m.sm.length->(Z8 m.sm i).1 ≠ 0->YN (Z8 m.sm i)=true/\(Z8 m.sm i).2.2.2.2.1<m.gd.length:=fun i hi hs=>by
  rcases Xi.1 (h.here i hi) with e | e
  ·rw [e] at hs;exact absurd rfl hs
  ·exact ⟨e.1,e.2.1⟩
 refine ⟨by rw [h.rm];exact s0.hall,by rw [h.rm,h.dk,Ug];exact s0.dk,⟨by rw [h.gd];exact s0.guilded.gd,fun i hi hs=> ?_,fun i hi hs=>(lim i hi hs).2⟩,by rw [h.len];exact s0.few⟩;have hp:=(lim i hi hs).1;generalize Z8 m.sm i=s at *;obtain ⟨st,be,rk,my,gu,lo',hi',hd,ca,ut,wk⟩:=s;exact (Y2 hp).2.2.2.2.1.1
theorem Nv {k:Nat} (hk:k<m.sm.length) (may:Int) (i:Nat):Z8 (VS m k may).sm i=if i=k then Sn (Z8 m.sm k) may else Z8 m.sm i:=ZD hk i
theorem Shut.may {m0 m:Z6} {b:Nat} {P:Nat->Prop} (h:Shut m0 b P m) {w:Nat} (hw:P w) {may:Int} (y0:1<=may) (y1:may<=255):Shut m0 b P (VS m w may):=by
 obtain ⟨hwl,hp,hbe,hba⟩:=h.left w hw;obtain ⟨hpb,hg⟩:=h.pres hw;have hlen:(VS m w may).sm.length=m.sm.length:=by unfold VS setS;simp
 refine ⟨h.rm,h.gd,h.pc,h.now,h.dk,by rw [hlen];exact h.len,fun i hi=> ?_,fun i hi hn=> ?_,fun i hi=> ?_⟩
 ·rw [Wj (m:=m) (m':=VS m w may) rfl rfl,Nv hwl]
  split
  ·refine Xi.2 (.inr ⟨Ke hpb y0 y1,hg,?_⟩)
   rcases Xi.1 (h.here w hwl) with e | e
   ·rw [e] at hp;cases hp
   ·exact e.2.2
  ·exact h.here i (by omega)
 ·rw [Nv hwl,if_neg (fun e=>hn (by rw [e];exact hw))]
  exact h.seat i (by omega) hn
 ·obtain ⟨a,b1,c,d⟩:=h.left i hi
  refine ⟨by omega,?_⟩;rw [Nv hwl]
  split
  ·rename_i e
   subst e;exact ⟨b1,c,d⟩
  ·exact ⟨b1,c,d⟩
theorem Shut.chosen {m0 m:Z6} {b:Nat} {P:Nat->Prop} (h:Shut m0 b P m) (h0:Loose m0) (hb:b<m0.dk.length) (hop:YT m0 b m0.dk.length ≠ 0) {w:Nat} (hw:P w):∃ j:Nat,j<m.dk.length/\I5 (YT m0 b m0.dk.length) m w=(j:Int)/\Zk (closeX (YT m0 b m0.dk.length) m w) (w:Int) j=true:=by
 obtain ⟨hwl,hp,hbe,hba⟩:=h.left w hw;obtain ⟨hpb,hg⟩:=h.pres hw;have hl:m.dk.length=m0.dk.length:=by rw [h.dk,Ug]
 rcases Ul (closeX (YT m0 b m0.dk.length) m w) (w:Int) with ⟨_,hn⟩ | ⟨j,hj,e,hm⟩
 ·exfalso
  have hy:0<=(Z8 m.sm w).2.2.2.1:=by
   generalize Z8 m.sm w=s at *;obtain ⟨st,be,rk,my,gu,lo',hi',hd,ca,ut,wk⟩:=s;have:=(Y2 hpb).2.2.2.1.1;show 0<=my;omega
  obtain ⟨j,hj,hbit⟩:=Ey (op:=YT m0 b m0.dk.length) (n:=m.dk.length) hy hop (fun j hj=>by
   rw [QK] at hj;simp only [ZO,YZ] at hj
   omega)
  rw [QK] at hj;simp only [ZO,YZ,Bool.not_eq_true',beq_eq_false_iff_ne] at hj;have:=hn j (by show j<m.dk.length;omega);unfold Zk at this
  rw [show (Z8 (closeX (YT m0 b m0.dk.length) m w).dk j).1=true from by
   show (Z8 m.dk j).1=true;rw [h.dk,Nz hb,if_neg hj.2.2]
   exact hj.2.1,Zp,show Z8 (closeX (YT m0 b m0.dk.length) m w).sm w=Sn (Z8 m.sm w) (Rp (YT m0 b m0.dk.length) m.dk.length (Z8 m.sm w).2.2.2.1) from by
    unfold closeX
    rw [Nv hwl,if_pos rfl]] at this
  rw [show (Sn (Z8 m.sm w) (Rp (YT m0 b m0.dk.length) m.dk.length (Z8 m.sm w).2.2.2.1)).2.2.2.1=Rp (YT m0 b m0.dk.length) m.dk.length (Z8 m.sm w).2.2.2.1 from rfl,hbit] at this;cases this
 ·exact ⟨j,hj,e,hm⟩
theorem Shut.closeX {m0 m:Z6} {b:Nat} {P:Nat->Prop} (h:Shut m0 b P m) (h0:Loose m0) {w:Nat} (hw:P w) (op:Nat):Shut m0 b P (closeX op m w):=by
 obtain ⟨hpb,hg⟩:=h.pres hw;have hl:m.dk.length=m0.dk.length:=by rw [h.dk,Ug]
 have h8:=V8 h0;obtain ⟨j,hj,_⟩:=h0.openD
 have hy:1<=(Z8 m.sm w).2.2.2.1/\(Z8 m.sm w).2.2.2.1<=255:=by
  generalize Z8 m.sm w=s at *;obtain ⟨st,be,rk,my,gu,lo',hi',hd,ca,ut,wk⟩:=s;exact (Y2 hpb).2.2.2.1
 obtain ⟨y0,y1⟩:=Az (op:=op) (n:=m.dk.length) (by omega) (by omega) hy.1 hy.2;exact h.may hw y0 y1
theorem Shut.step {m0 m:Z6} {b:Nat} {P:Nat->Prop} (h:Shut m0 b P m) (h0:Loose m0) (hb:b<m0.dk.length) (hop:YT m0 b m0.dk.length ≠ 0) {w:Nat} (hw:P w) :
  Shut m0 b (fun i=>P i/\i ≠ w) (Vf (YT m0 b m0.dk.length) m w):=by
 obtain ⟨j,hj,ej,hm⟩:=h.chosen h0 hb hop hw;have hx:=h.closeX h0 hw (YT m0 b m0.dk.length);unfold Vf;rw [ej];generalize Go.Proofs.YtgdpaigcmoifbaaGreat.closeX (YT m0 b m0.dk.length) m w=x at *;have hjx:j<x.dk.length:=by rw [hx.dk,<-h.dk];exact hj
 obtain ⟨hwl,hp,hbe,hba⟩:=hx.left w hw;obtain ⟨hpb,hg⟩:=hx.pres hw;unfold Zk at hm;simp only [ZO,Zp] at hm;have hbl:b<x.dk.length:=by rw [hx.dk,Ug];exact hb
 have hk:=Ml (m:={ x with sm:=[] }) (hx.bare h0 hb hop) (s:=Z8 x.sm w) (b:=j) hpb hp hg (by omega) (by rw [hbe];show (b:Int)<x.dk.length;omega) (by rw [hbe];exact hba) hjx hm.1 hm.2;have k1:XR x (putS x (Z8 x.sm w) (j:Int))=true:=hk.1;have k2:XL x (putS x (Z8 x.sm w) (j:Int))=true:=hk.2;have hat:∀ i,Z8 (setS x w (putS x (Z8 x.sm w) (j:Int))).sm i=if i=w then putS x (Z8 x.sm w) (j:Int) else Z8 x.sm i:=fun i=>ZD hwl i
 have hlen:(setS x w (putS x (Z8 x.sm w) (j:Int))).sm.length=x.sm.length:=by unfold setS;simp
 refine ⟨hx.rm,hx.gd,hx.pc,hx.now,hx.dk,by rw [hlen];exact hx.len,fun i hi=> ?_,fun i hi hn=> ?_,fun i hi=> ?_⟩
 ·rw [Wj (m:=x) (m':=setS x w (putS x (Z8 x.sm w) (j:Int))) rfl rfl,hat]
  split
  ·exact k1
  ·exact hx.here i (by omega)
 ·show XL x (Z8 (setS x w (putS x (Z8 x.sm w) (j:Int))).sm i)=true
  rw [hat]
  split
  ·exact k2
  ·rename_i e
   exact hx.seat i (by omega) (fun hpi=>hn ⟨hpi,e⟩)
 ·obtain ⟨hpi,e⟩:=hi
  obtain ⟨a,b1,c,d⟩:=hx.left i hpi;refine ⟨by omega,?_⟩;rw [hat,if_neg e];exact ⟨b1,c,d⟩
theorem Shut.weak {m0 m:Z6} {b:Nat} {P Q:Nat->Prop} (h:Shut m0 b P m) (h1:∀ i,P i->Q i) (h2:∀ i,Q i->P i):Shut m0 b Q m:=
 ⟨h.rm,h.gd,h.pc,h.now,h.dk,h.len,h.here,fun i hi hn=>h.seat i hi (fun hp=>hn (h1 i hp)),fun i hi=>h.left i (h2 i hi)⟩
def IN (q:List Z4) (k:Nat) (i:Nat):Prop:= ∃ j,k<=j/\j<q.length/\(Z7 q j).2=(i:Int)
theorem Jv {m0:Z6} (h0:Loose m0) {b:Nat} (hb:b<m0.dk.length) (hop:YT m0 b m0.dk.length ≠ 0):∀ k,k<=(atV m0.sm b m0.sm.length).length->
  Shut m0 b (IN (atV m0.sm b m0.sm.length) k) (Yf (YT m0 b m0.dk.length) (Xb m0 b false) (atV m0.sm b m0.sm.length) k)
 | 0,_=>by
  refine (EV h0 hb).weak (fun i hi=> ?_) (fun i hi=> ?_)
  ·have hm:(Xs (Z8 m0.sm i),(i:Int)) ∈ atV m0.sm b m0.sm.length:=(XQ m0.sm b _ m0.sm.length).2 ⟨i,hi.1,hi.2.1,hi.2.2,rfl⟩
   obtain ⟨j,hj,e⟩:=So hm;exact ⟨j,ZA _,hj,by rw [e]⟩
  ·obtain ⟨j,_,hj,e⟩:=hi
   obtain ⟨i',hi',h1,h2,e2⟩:=(XQ m0.sm b _ m0.sm.length).1 (WR hj);rw [e2] at e
   have:i'=i:=by
    have e3:(i':Int)=(i:Int):=e;omega
   subst this;exact ⟨hi',h1,h2⟩
 | k+1,hk=>by
  have ih:=Jv h0 hb hop k (by omega);obtain ⟨i',hi',h1,h2,e2⟩:=(XQ m0.sm b _ m0.sm.length).1 (WR (show k<(atV m0.sm b m0.sm.length).length by omega));have hw:IN (atV m0.sm b m0.sm.length) k i':=⟨k,Z0 _,by omega,by rw [e2]⟩
  have:=ih.step h0 hb hop hw;unfold Yf;rw [e2];show Shut m0 b _ (Vf _ _ ((i':Int)).toNat);rw [Zp];refine this.weak (fun i hi=> ?_) (fun i hi=> ?_)
  ·obtain ⟨⟨j,hj,hjl,e⟩,hne⟩:=hi
   refine ⟨j,?_,hjl,e⟩
   rcases Nat.lt_or_ge k j with hlt | hge
   ·omega
   ·exfalso
    have:j=k:=by omega
    subst this;rw [e2] at e;apply hne;have:(i':Int)=(i:Int):=e;omega
  ·obtain ⟨j,hj,hjl,e⟩:=hi
   refine ⟨⟨j,by omega,hjl,e⟩,fun hii=> ?_⟩;subst hii;have hpw:=TK m0.sm b m0.sm.length;have hat:∀ n (hn:n<(atV m0.sm b m0.sm.length).length),Z7 (atV m0.sm b m0.sm.length) n=(atV m0.sm b m0.sm.length)[n]:=fun n hn=>by unfold Z7;simp [List.getD,hn]
   have:=List.pairwise_iff_getElem.1 hpw k j (by omega) hjl (by omega);rw [<-hat k (by omega),<-hat j hjl] at this;apply this;rw [e2,e]
theorem EU {m0:Z6} (h0:Loose m0) {b:Nat} (hb:b<m0.dk.length) (hop:YT m0 b m0.dk.length ≠ 0):Loose (Yf (YT m0 b m0.dk.length) (Xb m0 b false) (atV m0.sm b m0.sm.length) (atV m0.sm b m0.sm.length).length):=by
 have h:=Jv h0 hb hop _ (Z0 _)
 have hno:∀ i,¬ IN (atV m0.sm b m0.sm.length) (atV m0.sm b m0.sm.length).length i:=fun i hi=>by
  obtain ⟨j,h1,h2,_⟩:=hi;omega
 generalize Yf (YT m0 b m0.dk.length) (Xb m0 b false) (atV m0.sm b m0.sm.length) (atV m0.sm b m0.sm.length).length=x at *;have hb':=h.bare h0 hb hop;refine ⟨?_,hb'.desk,hb'.pace,h.here,fun i hi=>h.seat i hi (hno i),hb'.openD⟩;have:=hb'.head;unfold Yx at this ⊢;simp only [ZO,YZ] at this ⊢;exact ⟨this.1,this.2.1,by rw [h.len];exact YH h0,this.2.2.2⟩
def VV (m:Z6) (b:Int):Z6 × Int:=
 if ZM m then (if Y1 m b then (if (Z8 m.dk b.toNat).1 then (if YT m b.toNat m.dk.length=0 then (m,5) else
  (ZH (Yf (YT m b.toNat m.dk.length) (Xb m b.toNat false) (atV m.sm b m.sm.length) (atV m.sm b m.sm.length).length),0)) else (m,2)) else (m,1)) else (W7,3)
theorem FF {b:Int} (h:Y1 m b=true):∃ k:Nat,b=(k:Int)/\k<m.dk.length:=by
 have:=ZN (show inB b 0 ((m.dk.length:Int)-1)=true from h);exact ⟨b.toNat,by omega,by omega⟩
theorem I6 (h:ZM m=true) (b:Int):ZM (VV m b).1=true:=by
 unfold VV;rw [h];simp only [if_true]
 split
 ·rename_i hb
  obtain ⟨k,rfl,hk⟩:=FF hb;rw [Zp]
  split
  ·split
   ·exact h
   ·rename_i hop
    exact YS (EU (ZU h) hk hop)
  ·exact h
 ·exact h
end Go.Proofs.YtgdpaigcmoifbaaGreat
