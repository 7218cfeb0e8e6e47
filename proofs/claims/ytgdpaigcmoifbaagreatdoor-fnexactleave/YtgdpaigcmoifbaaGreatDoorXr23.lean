/- Part 23 of what the proof rests on. No condition but those that a theorem names. -/
import Derived.Test.YtgdpaigcmoifbaaGreatDoorXr20
set_option maxHeartbeats 8000000
set_option maxRecDepth 100000
namespace Go.Proofs.YtgdpaigcmoifbaaGreatDoor
open Go.ChangeShapes Go.WideShapes Go.ChangeAt Go.RowKit Go.Sort Go.Proofs.Tryz
set_option linter.unusedVariables false
set_option maxRecDepth 100000
variable {w w' w0 w1 w2 w3 w₀ wr W W' X A B C : World} {v v0 v1 v2 v3 v4 u u0 u1 u2 u3 u4 : Value} {m : Z3}
theorem PK (st be rk my gu lo hi hd ca ut wk:Int) {R n3 p3:Nat} {a3:Option Addr} {ds:List Yt} (hc:w.cell? ⟨R,3,none⟩=some (.slice a3 n3 p3)) (hR:R<w.heap.size) (h:XE w (.slice a3 n3 p3) ds):cB 163 #[.agg (I11 st be rk my gu lo hi hd ca ut wk),.pointer (some ⟨R,0,none⟩)] w (.bool (Wp ds (st,be,rk,my,gu,lo,hi,hd,ca,ut,wk))):=by
 have hne:R ≠ w.heap.size:=Vd hR;have HD:=Z9 h;clear h;go_enter func163,ntmps163;go_wp2_with fail;refine ck (NL st be rk my gu lo hi hd ca ut wk ((uh HD).below ((ba _ _)))) fun w1 hb=> ?_;have Hb:=Z9 (((Z0 w.heap.size w).alloc (ZY _) _).trans (hb.mono (by simp)));clear hb;go_wp2_with fail;go_ret;exact ⟨rfl,uh Hb⟩
theorem Lv  {ss:List ZZ} {R n3 p3:Nat} {a3:Option Addr} {ds:List Yt} (h:YZ w v ss) (hc0:w.cell? ⟨R,3,none⟩=some (.slice a3 n3 p3)) (hR:R<w.heap.size) (hds:XE w (.slice a3 n3 p3) ds):cB 162 #[v,.func (Fn.func 163) #[] #[.pointer (some ⟨R,0,none⟩)]] w (.bool (YC (Wp ds) ss ss.length)):=DL h (fun st be rk my gu lo hi hd ca ut wk _ hb=>PK st be rk my gu lo hi hd ca ut wk (((hb.cell (p:=⟨R,3,none⟩) hR).trans hc0)) (ZD hR hb.size) (hds.below hb))
theorem XM (a0 a1 a2 a3 a4:Option Addr) (n0 n1 n2 n3 n4 p0 p1 p2 p3 p4:Nat) (now:Int) (w:World):cB 127 #[.agg #[.slice a0 n0 p0,.slice a1 n1 p1,.slice a2 n2 p2,.slice a3 n3 p3,.slice a4 n4 p4,.int .i64 now]] w (.slice a2 n2 p2):=by
 go_enter func127,ntmps127;go_wp2_with fail;go_ret;exact ⟨rfl,(ba _ _)⟩
theorem Qa (a0 a1 a2 a3 a4:Option Addr) (n0 n1 n2 n3 n4 p0 p1 p2 p3 p4:Nat) (now:Int) (w:World):cB 129 #[.agg #[.slice a0 n0 p0,.slice a1 n1 p1,.slice a2 n2 p2,.slice a3 n3 p3,.slice a4 n4 p4,.int .i64 now]] w (.slice a3 n3 p3):=by
 go_enter func129,ntmps129;go_wp2_with fail;go_ret;exact ⟨rfl,(ba _ _)⟩
theorem Ms  {ss:List ZZ} {gs:List ZG} (h:YZ w v ss) (h1:Y9 w v1 gs):cB 188 #[v,v1] w (.bool (UH ss gs.length)):=by
 have Hv:=Z9 h;obtain ⟨a,cap,rfl,_,_⟩:=IsRec.shape h;obtain ⟨ga,gc,rfl,_,_⟩:=IsRec.shape h1;clear h h1;obtain ⟨q1,hq1⟩:=ZI (YC Zi ss ss.length);obtain ⟨q2,hq2⟩:=ZI (YC (Xc gs.length) ss ss.length);have H1:=Z9 hq1;have H2:=Z9 hq2;by_cases hl:ss.length<=12
 ·refine Calls.bool_of (q:=(q1 && q2)) ?_ (by unfold UH;rw [hq1,hq2,decide_eq_true hl,Bool.true_and])
  have hl1:(ss.length:Int)<=12:=by omega
  clear hq1 hq2;have HW:=Z9 ((uh Hv).below ((Z0 _ _).alloc (ZY _) (.cells #[.slice ga gs.length gc] 35)));go_enter func188,ntmps188;go_wp2_with fail;refine (Fe (uh HW)).mono ?_;rw [uh H1];rintro e w1 ⟨rfl,hb⟩;replace HW:=Z9 ((uh HW).below hb);have c0:w1.cell? ⟨w.heap.size,0,none⟩=some (.slice ga gs.length gc):=(hb.cell (p:=⟨w.heap.size,0,none⟩) (by simp)).trans (Zv _ rfl);have hlt:w.heap.size<w1.heap.size:=by have:=hb.size;simp at this;omega
  have Hb:=Z9 (((Z0 w.heap.size w).alloc (ZY _) _).trans (hb.mono (by simp)));have HC:=Z9 c0;clear hb c0;cases q1
  ·go_wp2_with fail
   go_ret;exact ⟨rfl,uh Hb⟩
  go_wp2_with fail;refine (Lw (uh HW) (uh HC) hlt).mono ?_;rw [uh H2];rintro e w2 ⟨rfl,hb⟩;replace Hb:=Z9 ((uh Hb).trans (hb.mono (uh Hb).size));clear hb;go_wp2_with fail;go_ret;exact ⟨Z5 (by simp),uh Hb⟩
 ·refine Calls.bool_of (q:=false) ?_ (by unfold UH;rw [decide_eq_false hl];rfl)
  have hl1:¬ ((ss.length:Int)<=12):=by omega
  clear hq1 hq2;go_enter func188,ntmps188;go_wp2_with fail;go_ret;exact ⟨rfl,(ba _ _)⟩
theorem JE  {ds:List Yt} {n:Int} (h:XE w v ds) (hn:n<=1000):cB 189 #[v,.int .i64 n] w (.bool (Su ds n)):=by
 have Hv:=Z9 h;obtain ⟨a,cap,rfl,_,_⟩:=IsRec.shape h;clear h;obtain ⟨q1,hq1⟩:=ZI (YC U0 ds ds.length);obtain ⟨ws,hws⟩:=ZI (ZS Ug ds ds.length);have H1:=Z9 hq1;have H2:=Z9 hws;by_cases hl:(ds.length:Int)=n
 ·refine Calls.bool_of (q:=(q1 && decide (0<ws.length))) ?_ (by unfold Su;rw [hq1,show ZS (fun d:Yt=>d.1) ds ds.length=ws from hws,decide_eq_true hl,Bool.true_and])
  subst hl;have hl1:ds.length<=1000:=by omega
  clear hq1 hws;go_enter func189,ntmps189;go_wp2_with fail;refine (Jj (uh Hv)).mono ?_;rw [uh H1];rintro e w1 ⟨rfl,hb⟩;replace Hv:=Z9 ((uh Hv).below hb);have Hb:=Z9 hb;clear hb;cases q1
  ·go_wp2_with fail
   go_ret;exact ⟨rfl,uh Hb⟩
  go_wp2_with fail;refine (NZ (uh Hv) hl1).mono ?_;rw [uh H2];rintro e w2 ⟨v2,rfl,hn2,hb⟩;obtain ⟨la,lc,rfl⟩:=RecAt.shape hn2;replace Hb:=Z9 ((uh Hb).trans (hb.mono (uh Hb).size));clear hb hn2;go_wp2_with fail;go_ret;exact ⟨Z5 (by simp),uh Hb⟩
 ·refine Calls.bool_of (q:=false) ?_ (by unfold Su;rw [decide_eq_false hl];rfl)
  have hl1:((ds.length:Int) ==n)=false:=by simpa using hl
  clear hq1 hws;go_enter func189,ntmps189;go_wp2_with fail;go_ret;exact ⟨rfl,Z0 _ _⟩
theorem ID {ps:List Int} {rs:List Z4} {k:Nat} (hk:k<ps.length) (h:XW (ZU rs k).2.length (Z8 ps k)=false):Wg ps rs=false:=by
 unfold Wg;rw [RK (p:=fun j=>XW (ZU rs j).2.length (Z8 ps j)) hk h,Bool.and_false]
theorem O6  {ps:List Int} {rs:List Z4} (h:SO w v ps) (h0:IsRooms w v0 rs):cB 191 #[v,v0] w (.bool (Wg ps rs)):=by
 obtain ⟨a,cap,rfl,hc,hm,hr⟩:=h;obtain ⟨a0,cap0,rfl,hc0,hm0,hr0⟩:=h0;have Hr:=Z9 hr;have Hr0:=Z9 hr0;clear hr hr0;by_cases hl:ps.length=rs.length
 ·have hl1:(ps.length:Int)=(rs.length:Int):=by omega
  have hbn:((ps.length:Int) !=(rs.length:Int))=false:=by simp [hl]
  have Hall:Hid ((List.range ps.length).all (fun j=>XW (ZU rs j).2.length (Z8 ps j))=true->Wg ps rs=true):=Z9 (fun e=>by unfold Wg;rw [e,decide_eq_true hl];rfl);have Hl:=Z9 hl;clear hl hl1;go_enter func191,ntmps191;go_wp2_with fail
  go_loopw [14] (fun i wr=> ∃ k:Nat,k<=ps.length/\i= .int .i64 k/\(List.range k).all (fun j=>XW (ZU rs j).2.length (Z8 ps j))=true/\Below w.heap.size w wr) (fun i _=>ps.length-(intOf i).toNat)
  case atStart=>exact ⟨0,ZR _,rfl,rfl,Z0 _ _⟩
  case round=>
   obtain ⟨k,hk,rfl,hst,hb0⟩:=hrel;have Hst:=Z9 hst;have BB:=Z9 hb0;by_cases hlt:k<ps.length
   ·have hlt1:(k:Int)<(ps.length:Int):=by omega
    have hlt2:(k:Int)<(rs.length:Int):=by have:=uh Hl;omega
    rcases uh Hr with e0 | ⟨b,off,rfl,hbw,hcl⟩
    ·rw [e0] at hlt;simp at hlt
    rcases uh Hr0 with e0 | ⟨b0,off0,rfl,hbw0,hcl0⟩
    ·rw [e0] at hlt2;simp at hlt2;omega
    have d0:=hcl k hlt 0 _ rfl;simp only [Nat.mul_one,Nat.add_zero] at d0;rw [<-hb0.cell (p:=⟨b,off+k,none⟩) hbw] at d0;obtain ⟨_,pv,g1,hpv⟩:=hcl0 k (by have:=uh Hl;omega);obtain ⟨pa,pc,rfl,_,_,_⟩:=hpv;rw [<-hb0.cell (p:=⟨b0,off0+k*2+1,none⟩) hbw0] at g1;have HU:=Z9 (fun (hh:XW (ZU rs k).2.length (Z8 ps k)=true)=>(show (List.range (k+1)).all (fun j=>XW (ZU rs j).2.length (Z8 ps j))=true from by rw [UN,hst,hh];rfl));have HN:=Z9 (fun hh=>ID (rs:=rs) hlt hh);clear hcl hcl0 hst hb0;generalize Z8 ps k=x at *;generalize (ZU rs k).2.length=n at *;obtain ⟨q,Hq⟩:=WH (XW n x);go_wp2_with fail;refine (JQ pa n pc x _).mono ?_;rw [uh Hq];rintro e w1 ⟨rfl,h9⟩;subst w1;cases q
    ·go_wp2_with fail
     go_ret;exact ⟨Z5 (uh HN (uh Hq)).symm,uh BB⟩
    ·go_wp2_with fail
     go_roundw
     case rel=>exact ⟨k+1,by omega,by go_num,uh HU (uh Hq),uh BB⟩
     case measure=>exact ms
   ·obtain rfl:k=ps.length:=by omega
    go_wp2_with fail;go_ret;exact ⟨Z5 (uh Hall (uh Hst)).symm,uh BB⟩
 ·refine Calls.bool_of (q:=false) ?_ (by unfold Wg;rw [decide_eq_false hl];rfl)
  have hbn:((ps.length:Int) !=(rs.length:Int))=true:=by simp;omega
  go_enter func191,ntmps191;go_wp2_with fail;go_ret;exact ⟨rfl,Z0 _ _⟩
theorem Calls.same_below' {P:Program} {f:FuncId} {args:Array Value}  (h:Calls P f args w fun e w'=>e= .returned v/\w'=w):Calls P f args w fun e w'=>e= .returned v/\Below w.heap.size w w':=h.mono fun e w' ⟨he,hw⟩=>⟨he,by subst hw;exact Z0 _ _⟩
theorem Calls.int_of {P:Program} {f:FuncId} {args:Array Value} {q q':Int} (h:Calls P f args w fun e w'=>e= .returned (.int .i64 q)/\Below w.heap.size w w') (e:q=q'):Calls P f args w fun e w'=>e= .returned (.int .i64 q')/\Below w.heap.size w w':=by rw [<-e];exact h
theorem Ku  (h:Smy w v0 v1 v2 v3 v4 m):cB 161 #[.agg #[v0,v1,v2,v3,v4,.int .i64 m.now]] w (.bool (Ru m)):=by
 have Hv:=Z9 (h.alloc (.cells #[v0,v1,v2,v3,v4,.int .i64 m.now] 39));obtain ⟨a0,p0,a1,p1,a2,p2,a3,p3,a4,p4,rfl,rfl,rfl,rfl,rfl,_,_,_,_,_,_,_,_,_,_⟩:=h.five;clear h;obtain ⟨q1,hq1⟩:=ZI (YF m.rm);obtain ⟨q2,hq2⟩:=ZI (Zk m.gd);obtain ⟨q3,hq3⟩:=ZI (UH m.sm m.gd.length);obtain ⟨q4,hq4⟩:=ZI (Su m.dk (Xq m.rm));obtain ⟨q5,hq5⟩:=ZI (Wg m.pc m.rm);obtain ⟨q6,hq6⟩:=ZI (inB m.now 0 1000000)
 refine Calls.bool_of (q:=(q1 && (q2 && (q3 && (q4 && (q5 && q6)))))) ?_ (by
  unfold Ru;rw [hq2,hq3,hq5,hq6];cases q1
  ·rw [hq1];rfl
  ·rw [<-Ve hq1,hq4,hq1])
 have kb:Hid (Blk (w.alloc (.cells (S6 a0 p0 a1 p1 a2 p2 a3 p3 a4 p4 m) 39)) w.heap.size 39 (S6 a0 p0 a1 p1 a2 p2 a3 p3 a4 p4 m)):=Z9 (Blk.new w _ _);have BB:Hid (Below w.heap.size w (w.alloc (.cells (S6 a0 p0 a1 p1 a2 p2 a3 p3 a4 p4 m) 39))):=Z9 ((ba _ _))
 have hbv:Xq m.rm<=1000:=by
  cases hb:YF m.rm
  ·rw [RN hb];omega
  ·rw [Ve hb];have:=(Zd hb).2.2.2;omega
 go_enter func161,ntmps161;go_wp2_with fail;generalize w.alloc (.cells (S6 a0 p0 a1 p1 a2 p2 a3 p3 a4 p4 m) 39)=W at *;have H1:=Z9 (fun (X:World) (hX:Below W.heap.size W X)=>Calls.bool_of (Yn ((uh Hv).below hX).rm) hq1);have H2:=Z9 (fun (X:World) (hX:Below W.heap.size W X)=>Calls.bool_of (Xk ((uh Hv).below hX).gd) hq2);have H3:=Z9 (fun (X:World) (hX:Below W.heap.size W X)=>Calls.bool_of (Ms ((uh Hv).below hX).sm ((uh Hv).below hX).gd) hq3);have H4a:=Z9 (fun (X:World) (hX:Below W.heap.size W X)=>Wz ((uh Hv).below hX).rm);have H4:=Z9 (fun (X:World) (hX:Below W.heap.size W X)=>Calls.bool_of (JE ((uh Hv).below hX).dk hbv) hq4);have H5:=Z9 (fun (X:World) (hX:Below W.heap.size W X)=>Calls.bool_of (O6 ((uh Hv).below hX).pc ((uh Hv).below hX).rm) hq5);have H6:=Z9 (fun (X:World) (hX:Below W.heap.size W X)=>Calls.bool_of (Calls.same_below' (ZL 0 m.now 1000000 X)) hq6);clear hq1 hq2 hq3 hq4 hq5 hq6;generalize Xq m.rm=nb at *;obtain ⟨c0,c1,c2,c3,c4,c5⟩:=(uh kb).c6;have y0:=Z1 c0;have y1:=Z1 c1;have y2:=Z1 c2;have y3:=Z1 c3;have y4:=Z1 c4;have y5:=Z1 c5;cases q1
 ·go_wp2_with fail
  refine wq ?_
  repeat (go_big_quiet_step (first | exact ZX (uh H1 _ (Z2 _ _ _)) | exact ZX (uh H2 _ (Z2 _ _ _)) | exact ZX (uh H3 _ (Z2 _ _ _)) | exact ZX (uh H4a _ (Z2 _ _ _)) | exact ZX (uh H4 _ (Z2 _ _ _)) | exact ZX (uh H5 _ (Z2 _ _ _)) | exact ZX (uh H6 _ (Z2 _ _ _))))
  refine wpQuiet_nil ?_;intro _ hw';obtain ⟨⟨dq,osq⟩,hw''⟩:=hw';subst hw'';go_wp2_with fail;go_ret;exact ⟨rfl,(uh BB).trans ((Z2 _ _ _).mono (uh BB).size)⟩
 cases q2
 ·go_wp2_with fail
  refine wq ?_
  repeat (go_big_quiet_step (first | exact ZX (uh H1 _ (Z2 _ _ _)) | exact ZX (uh H2 _ (Z2 _ _ _)) | exact ZX (uh H3 _ (Z2 _ _ _)) | exact ZX (uh H4a _ (Z2 _ _ _)) | exact ZX (uh H4 _ (Z2 _ _ _)) | exact ZX (uh H5 _ (Z2 _ _ _)) | exact ZX (uh H6 _ (Z2 _ _ _))))
  refine wpQuiet_nil ?_;intro _ hw';obtain ⟨⟨dq,osq⟩,hw''⟩:=hw';subst hw'';go_wp2_with fail;go_ret;exact ⟨rfl,(uh BB).trans ((Z2 _ _ _).mono (uh BB).size)⟩
 cases q3
 ·go_wp2_with fail
  refine wq ?_
  repeat (go_big_quiet_step (first | exact ZX (uh H1 _ (Z2 _ _ _)) | exact ZX (uh H2 _ (Z2 _ _ _)) | exact ZX (uh H3 _ (Z2 _ _ _)) | exact ZX (uh H4a _ (Z2 _ _ _)) | exact ZX (uh H4 _ (Z2 _ _ _)) | exact ZX (uh H5 _ (Z2 _ _ _)) | exact ZX (uh H6 _ (Z2 _ _ _))))
  refine wpQuiet_nil ?_;intro _ hw';obtain ⟨⟨dq,osq⟩,hw''⟩:=hw';subst hw'';go_wp2_with fail;go_ret;exact ⟨rfl,(uh BB).trans ((Z2 _ _ _).mono (uh BB).size)⟩
 cases q4
 ·go_wp2_with fail
  refine wq ?_
  repeat (go_big_quiet_step (first | exact ZX (uh H1 _ (Z2 _ _ _)) | exact ZX (uh H2 _ (Z2 _ _ _)) | exact ZX (uh H3 _ (Z2 _ _ _)) | exact ZX (uh H4a _ (Z2 _ _ _)) | exact ZX (uh H4 _ (Z2 _ _ _)) | exact ZX (uh H5 _ (Z2 _ _ _)) | exact ZX (uh H6 _ (Z2 _ _ _))))
  refine wpQuiet_nil ?_;intro _ hw';obtain ⟨⟨dq,osq⟩,hw''⟩:=hw';subst hw'';go_wp2_with fail;go_ret;exact ⟨rfl,(uh BB).trans ((Z2 _ _ _).mono (uh BB).size)⟩
 cases q5
 ·go_wp2_with fail
  refine wq ?_
  repeat (go_big_quiet_step (first | exact ZX (uh H1 _ (Z2 _ _ _)) | exact ZX (uh H2 _ (Z2 _ _ _)) | exact ZX (uh H3 _ (Z2 _ _ _)) | exact ZX (uh H4a _ (Z2 _ _ _)) | exact ZX (uh H4 _ (Z2 _ _ _)) | exact ZX (uh H5 _ (Z2 _ _ _)) | exact ZX (uh H6 _ (Z2 _ _ _))))
  refine wpQuiet_nil ?_;intro _ hw';obtain ⟨⟨dq,osq⟩,hw''⟩:=hw';subst hw'';go_wp2_with fail;go_ret;exact ⟨rfl,(uh BB).trans ((Z2 _ _ _).mono (uh BB).size)⟩
 go_wp2_with fail;refine wq ?_
 repeat (go_big_quiet_step (first | exact ZX (uh H1 _ (Z2 _ _ _)) | exact ZX (uh H2 _ (Z2 _ _ _)) | exact ZX (uh H3 _ (Z2 _ _ _)) | exact ZX (uh H4a _ (Z2 _ _ _)) | exact ZX (uh H4 _ (Z2 _ _ _)) | exact ZX (uh H5 _ (Z2 _ _ _)) | exact ZX (uh H6 _ (Z2 _ _ _))))
 refine wpQuiet_nil ?_;intro _ hw';obtain ⟨⟨dq,osq⟩,hw''⟩:=hw';subst hw'';go_wp2_with fail;go_ret;exact ⟨Z5 (by simp),(uh BB).trans ((Z2 _ _ _).mono (uh BB).size)⟩
theorem SP  (h:Smy w v0 v1 v2 v3 v4 m):cB 123 #[.agg #[v0,v1,v2,v3,v4,.int .i64 m.now]] w (.bool (WJ m)):=by
 have Hv:=Z9 (h.alloc (.cells #[v0,v1,v2,v3,v4,.int .i64 m.now] 39));obtain ⟨a0,p0,a1,p1,a2,p2,a3,p3,a4,p4,rfl,rfl,rfl,rfl,rfl,_,_,_,_,_,_,_,_,_,_⟩:=h.five;clear h;obtain ⟨q1,hq1⟩:=ZI (Ru m);obtain ⟨q2,hq2⟩:=ZI (YC (Wp m.dk) m.sm m.sm.length);refine Calls.bool_of (q:=(q1 && q2)) ?_ (by unfold WJ;rw [hq1,hq2]);have H1:=Z9 hq1;have H2:=Z9 hq2;clear hq1 hq2;have kb:Hid (Blk (w.alloc (.cells (S6 a0 p0 a1 p1 a2 p2 a3 p3 a4 p4 m) 39)) w.heap.size 39 (S6 a0 p0 a1 p1 a2 p2 a3 p3 a4 p4 m)):=Z9 (Blk.new w _ _);have BB:Hid (Below w.heap.size w (w.alloc (.cells (S6 a0 p0 a1 p1 a2 p2 a3 p3 a4 p4 m) 39))):=Z9 ((ba _ _));go_enter func123,ntmps123;go_wp2_with fail;generalize w.alloc (.cells (S6 a0 p0 a1 p1 a2 p2 a3 p3 a4 p4 m) 39)=W at *;refine (Ku (uh Hv)).mono ?_;rw [uh H1];rintro e w1 ⟨rfl,hb⟩;replace Hv:=Z9 ((uh Hv).below hb);replace kb:=bl kb hb;replace BB:=bt BB hb;clear hb;cases q1
 ·go_wp2_with fail
  go_ret;exact ⟨rfl,uh BB⟩
 obtain ⟨c0,c1,c2,c3,c4,c5⟩:=(uh kb).c6;go_wp2_with fail;refine ck (XM _ _ _ _ _ _ _ _ _ _ _ _ _ _ _ _ _) fun w2 hb=> ?_;replace Hv:=Z9 ((uh Hv).below hb);replace kb:=bl kb hb;replace BB:=bt BB hb;clear hb c0 c1 c2 c3 c4 c5;go_wp2_with fail;refine (Lv (uh Hv).sm ((uh kb).cell (i:=3) rfl) (uh kb).lt (uh Hv).dk).mono ?_;rw [uh H2];rintro e w3 ⟨rfl,hb⟩;replace BB:=bt BB hb;clear hb;go_wp2_with fail;go_ret;exact ⟨Z5 (by simp),uh BB⟩
theorem TE  (b:Int) (h:Smy w v0 v1 v2 v3 v4 m) (hl:m.sm.length<=1000):Calls prog 196 #[.agg #[v0,v1,v2,v3,v4,.int .i64 m.now],.int .i64 b] w fun e w'=> ∃ v',e= .returned v'/\NumsAt w.heap.size w' v' (ZS (atB b) m.sm m.sm.length)/\Below w.heap.size w w':=by
 have Hv:=Z9 ((h.alloc (.cells #[v0,v1,v2,v3,v4,.int .i64 m.now] 39)).alloc (.cells #[.int .i64 b] 2));obtain ⟨a0,p0,a1,p1,a2,p2,a3,p3,a4,p4,rfl,rfl,rfl,rfl,rfl,_,_,_,_,_,_,_,_,_,_⟩:=h.five;clear h;have BB:Hid (Below w.heap.size w ((w.alloc (.cells (S6 a0 p0 a1 p1 a2 p2 a3 p3 a4 p4 m) 39)).alloc (.cells #[.int .i64 b] 2))):=Z9 (((ba _ _)).alloc (by simp) _)
 have kc:Hid (Blk ((w.alloc (.cells (S6 a0 p0 a1 p1 a2 p2 a3 p3 a4 p4 m) 39)).alloc (.cells #[.int .i64 b] 2)) (w.heap.size+1) 2 #[.int .i64 b]):=Z9 (by
  have k:=Blk.new (w.alloc (.cells (S6 a0 p0 a1 p1 a2 p2 a3 p3 a4 p4 m) 39)) 2 #[.int .i64 b];rw [YW] at k
  exact k)
 go_enter func196,ntmps196;go_wp2_with fail;generalize (w.alloc (.cells (S6 a0 p0 a1 p1 a2 p2 a3 p3 a4 p4 m) 39)).alloc (.cells #[.int .i64 b] 2)=W at *;refine ck (XM _ _ _ _ _ _ _ _ _ _ _ _ _ _ _ _ _) fun w2 hb=> ?_;replace Hv:=Z9 ((uh Hv).below hb);replace kc:=bl kc hb;replace BB:=bt BB hb;clear hb;go_wp2_with fail;refine (Ll (uh Hv).sm hl ((uh kc).cell (i:=0) rfl) (uh kc).lt).mono ?_;rintro e w3 ⟨v',rfl,hn,hb⟩;have HN:=Z9 (RecAt.mono hn (uh BB).size);replace BB:=bt BB hb;obtain ⟨la,lc,rfl⟩:=RecAt.shape hn;clear hb hn;go_wp2_with fail;go_ret;exact ⟨_,rfl,uh HN,uh BB⟩
theorem Py  (b:Int) (h:Smy w v0 v1 v2 v3 v4 m) (hl:m.sm.length<=1000):Calls prog 197 #[.agg #[v0,v1,v2,v3,v4,.int .i64 m.now],.int .i64 b] w fun e w'=> ∃ v',e= .returned v'/\NumsAt w.heap.size w' v' (ZS (YR b) m.sm m.sm.length)/\Below w.heap.size w w':=by
 have Hv:=Z9 ((h.alloc (.cells #[v0,v1,v2,v3,v4,.int .i64 m.now] 39)).alloc (.cells #[.int .i64 b] 2));obtain ⟨a0,p0,a1,p1,a2,p2,a3,p3,a4,p4,rfl,rfl,rfl,rfl,rfl,_,_,_,_,_,_,_,_,_,_⟩:=h.five;clear h;have BB:Hid (Below w.heap.size w ((w.alloc (.cells (S6 a0 p0 a1 p1 a2 p2 a3 p3 a4 p4 m) 39)).alloc (.cells #[.int .i64 b] 2))):=Z9 (((ba _ _)).alloc (by simp) _)
 have kc:Hid (Blk ((w.alloc (.cells (S6 a0 p0 a1 p1 a2 p2 a3 p3 a4 p4 m) 39)).alloc (.cells #[.int .i64 b] 2)) (w.heap.size+1) 2 #[.int .i64 b]):=Z9 (by
  have k:=Blk.new (w.alloc (.cells (S6 a0 p0 a1 p1 a2 p2 a3 p3 a4 p4 m) 39)) 2 #[.int .i64 b];rw [YW] at k
  exact k)
 go_enter func197,ntmps197;go_wp2_with fail;generalize (w.alloc (.cells (S6 a0 p0 a1 p1 a2 p2 a3 p3 a4 p4 m) 39)).alloc (.cells #[.int .i64 b] 2)=W at *;refine ck (XM _ _ _ _ _ _ _ _ _ _ _ _ _ _ _ _ _) fun w2 hb=> ?_;replace Hv:=Z9 ((uh Hv).below hb);replace kc:=bl kc hb;replace BB:=bt BB hb;clear hb;go_wp2_with fail;refine (Px (uh Hv).sm hl ((uh kc).cell (i:=0) rfl) (uh kc).lt).mono ?_;rintro e w3 ⟨v',rfl,hn,hb⟩;have HN:=Z9 (RecAt.mono hn (uh BB).size);replace BB:=bt BB hb;obtain ⟨la,lc,rfl⟩:=RecAt.shape hn;clear hb hn;go_wp2_with fail;go_ret;exact ⟨_,rfl,uh HN,uh BB⟩
theorem I8  {b:Nat} (h:Smy w v0 v1 v2 v3 v4 m) (hl:m.sm.length<=1000) (hb0:b<m.dk.length):cB 165 #[.agg #[v0,v1,v2,v3,v4,.int .i64 m.now],.int .i64 (b:Int)] w (.bool (Vr m b)):=by
 have Hv:=Z9 (h.alloc (.cells #[v0,v1,v2,v3,v4,.int .i64 m.now] 39));obtain ⟨a0,p0,rfl,_,_⟩:=IsRooms.shape h.rm;obtain ⟨a1,p1,rfl,_,_⟩:=IsRec.shape h.gd;obtain ⟨a2,p2,rfl,_,_⟩:=IsRec.shape h.sm;obtain ⟨a3,p3,rfl,hc3,hm3,r3⟩:=h.dk;obtain ⟨a4,p4,rfl,_,_⟩:=IsRec.shape h.pc;clear h
 rcases r3 with e0 | ⟨db,off,rfl,hbw,hcl⟩
 ·rw [e0] at hb0;simp at hb0
 obtain ⟨_,d1,_⟩:=Zg hcl hb0;have hb1:(b:Int)<(m.dk.length:Int):=by omega
 have hT:Vr m b=if (Z8 m.dk b).2.1= -1 then decide ((ZS (atB b) m.sm m.sm.length).length=0) else decide ((ZS (YR b) m.sm m.sm.length).length=1) && decide (Z8 (ZS (YR b) m.sm m.sm.length) 0=(Z8 m.dk b).2.1):=rfl
 have HT:=Z9 hT;clear hT hcl;generalize (Z8 m.dk b).2.1=who at *;have hne:db ≠ w.heap.size:=Vd hbw;obtain ⟨BB,kb⟩:=V5 w 39 #[.slice a0 m.rm.length p0,.slice a1 m.gd.length p1,.slice a2 m.sm.length p2,.slice (some ⟨db,off,none⟩) m.dk.length p3,.slice a4 m.pc.length p4,.int .i64 m.now];rw [<-(uh BB).cell (p:=⟨db,off+b*3+1,none⟩) hbw] at d1;by_cases hw:who= -1
 ·subst hw
  obtain ⟨ws,hws⟩:=ZI (ZS (atB b) m.sm m.sm.length);refine Calls.bool_of (q:=decide (ws.length=0)) ?_ (by rw [uh HT,if_pos rfl,hws]);have Hws:=Z9 hws;clear hws HT;go_enter func165,ntmps165;go_upto_region 3 with fail;generalize w.alloc (.cells #[.slice a0 m.rm.length p0,.slice a1 m.gd.length p1,.slice a2 m.sm.length p2,.slice (some ⟨db,off,none⟩) m.dk.length p3,.slice a4 m.pc.length p4,.int .i64 m.now] 39)=W at *;obtain ⟨c0,c1,c2,c3,c4,c5⟩:=(uh kb).c6;go_wp2_with fail;refine (TE (b:Int) (uh Hv) hl).mono ?_;rw [uh Hws];rintro e w2 ⟨v',rfl,hn,hb⟩;obtain ⟨la,lc,rfl⟩:=RecAt.shape hn;replace BB:=bt BB hb;clear hb hn c0 c1 c2 c3 c4 c5;go_wp2_with fail;go_ret;exact ⟨Z5 (by rw [Bool.eq_iff_iff];simp only [beq_iff_eq,Yg];omega),uh BB⟩
 have nw:(who == -1)=false:=by simpa using hw
 obtain ⟨ws,hws⟩:=ZI (ZS (YR b) m.sm m.sm.length);refine Calls.bool_of (q:=decide (ws.length=1) && decide (Z8 ws 0=who)) ?_ (by rw [uh HT,if_neg hw,hws]);have Hws:=Z9 hws;clear hws HT;go_enter func165,ntmps165;go_upto_region 3 with fail;generalize w.alloc (.cells #[.slice a0 m.rm.length p0,.slice a1 m.gd.length p1,.slice a2 m.sm.length p2,.slice (some ⟨db,off,none⟩) m.dk.length p3,.slice a4 m.pc.length p4,.int .i64 m.now] 39)=W at *;obtain ⟨c0,c1,c2,c3,c4,c5⟩:=(uh kb).c6;go_wp2_with fail;refine (Py (b:Int) (uh Hv) hl).mono ?_;rw [uh Hws];rintro e w2 ⟨v',rfl,hn,hb⟩;obtain ⟨la,lc,rfl⟩:=RecAt.shape hn;replace BB:=bt BB hb;have HN:=Z9 hn;clear hb hn c0 c1 c2 c3 c4 c5;by_cases h1:ws.length=1
 ·obtain ⟨g,hga,_,_,hcl,_⟩:=RecAt.view Yd (by omega) (uh HN) rfl (by omega)
  cases hga;have z0:=hcl 0 (by omega) 0 _ rfl;simp only [Nat.zero_mul,Nat.add_zero] at z0;have hl1:((ws.length:Int) ==1)=true:=by simp;omega
  clear hcl;have h01:(0:Int)<(ws.length:Int):=by omega
  obtain ⟨z,hz⟩:=ZI (Z8 ws 0);rw [hz] at z0;have Hz:=Z9 hz;clear hz;go_wp2_with fail;go_ret;exact ⟨Z5 (by rw [uh Hz,decide_eq_true h1,Bool.eq_iff_iff];simp only [Bool.true_and,beq_iff_eq,Yg]),uh BB⟩
 ·have hl1:((ws.length:Int) ==1)=false:=by simp;omega
  go_wp2_with fail;go_ret;exact ⟨Z5 (by rw [decide_eq_false h1];rfl),uh BB⟩
theorem Lg  (h:Smy w v0 v1 v2 v3 v4 m) (hl:m.sm.length<=1000):cB 124 #[.agg #[v0,v1,v2,v3,v4,.int .i64 m.now]] w (.bool (RG m)):=by
 have Hv:=Z9 (h.alloc (.cells #[v0,v1,v2,v3,v4,.int .i64 m.now] 39));obtain ⟨a0,p0,a1,p1,a2,p2,a3,p3,a4,p4,rfl,rfl,rfl,rfl,rfl,_,_,_,_,_,_,_,_,_,_⟩:=h.five;clear h;obtain ⟨BB0,kb0⟩:=V5 w 39 (S6 a0 p0 a1 p1 a2 p2 a3 p3 a4 p4 m);go_enter func124,ntmps124;go_wp2_with fail
 go_loopw [7] (fun i wr=> ∃ k:Nat,k<=m.dk.length/\i= .int .i64 k/\(List.range k).all (Vr m)=true/\Smy wr (.slice a0 m.rm.length p0) (.slice a1 m.gd.length p1) (.slice a2 m.sm.length p2) (.slice a3 m.dk.length p3) (.slice a4 m.pc.length p4) m/\Blk wr w.heap.size 39 (S6 a0 p0 a1 p1 a2 p2 a3 p3 a4 p4 m)/\Below w.heap.size w wr) (fun i _=>m.dk.length-(intOf i).toNat)
 case atStart=>exact ⟨0,ZR _,rfl,rfl,uh Hv,uh kb0,uh BB0⟩
 case round=>
  obtain ⟨k,hk,rfl,hst,hv,hkb,hb0⟩:=hrel;have Hst:=Z9 hst;have Hv1:=Z9 hv;have kb:=Z9 hkb;have BB:=Z9 hb0;clear hv hkb hb0 kb0 BB0 Hv;by_cases hlt:k<m.dk.length
  ·have hlt1:(k:Int)<(m.dk.length:Int):=by omega
   have HU:=Z9 (fun (hh:Vr m k=true)=>(show (List.range (k+1)).all (Vr m)=true from by rw [UN,hst,hh];rfl));have HN:=Z9 (fun hh=>(show RG m=false from RK (p:=Vr m) hlt hh));clear hst;obtain ⟨q,Hq⟩:=WH (Vr m k);obtain ⟨c0,c1,c2,c3,c4,c5⟩:=(uh kb).c6;go_wp2_with fail;refine (I8 (uh Hv1) hl hlt).mono ?_;rw [uh Hq];rintro e w1 ⟨rfl,hb⟩;replace Hv1:=Z9 ((uh Hv1).below hb);replace kb:=bl kb hb;replace BB:=bt BB hb;clear hb c0 c1 c2 c3 c4 c5;cases q
   ·go_wp2_with fail
    go_ret;exact ⟨Z5 (uh HN (uh Hq)).symm,uh BB⟩
   ·go_wp2_with fail
    go_roundw
    case rel=>exact ⟨k+1,by omega,by go_num,uh HU (uh Hq),uh Hv1,uh kb,uh BB⟩
    case measure=>exact ms
  ·obtain rfl:k=m.dk.length:=by omega
   go_wp2_with fail;go_ret;exact ⟨Z5 (uh Hst).symm,uh BB⟩
theorem FM (h:WJ m=true):m.sm.length<=12:=by
 rw [RU] at h;unfold Y2 XT at h;simp only [ZJ,Yg] at h;exact h.1.2.2.1
theorem QK  (h:Smy w v0 v1 v2 v3 v4 m):cB 78 #[.agg #[v0,v1,v2,v3,v4,.int .i64 m.now]] w (.bool (Zl m)):=by
 have Hv:=Z9 (h.alloc (.cells #[v0,v1,v2,v3,v4,.int .i64 m.now] 39));obtain ⟨a0,p0,a1,p1,a2,p2,a3,p3,a4,p4,rfl,rfl,rfl,rfl,rfl,_,_,_,_,_,_,_,_,_,_⟩:=h.five;clear h;obtain ⟨q1,hq1⟩:=ZI (WJ m);obtain ⟨q2,hq2⟩:=ZI (RG m);refine Calls.bool_of (q:=(q1 && q2)) ?_ (by rw [<-EN];unfold EM;rw [hq1,hq2]);have H1:=Z9 hq1;have H2:=Z9 hq2;clear hq1 hq2;have kb:Hid (Blk (w.alloc (.cells (S6 a0 p0 a1 p1 a2 p2 a3 p3 a4 p4 m) 39)) w.heap.size 39 (S6 a0 p0 a1 p1 a2 p2 a3 p3 a4 p4 m)):=Z9 (Blk.new w _ _);have BB:Hid (Below w.heap.size w (w.alloc (.cells (S6 a0 p0 a1 p1 a2 p2 a3 p3 a4 p4 m) 39))):=Z9 ((ba _ _));go_enter func78,ntmps78;go_wp2_with fail;generalize w.alloc (.cells (S6 a0 p0 a1 p1 a2 p2 a3 p3 a4 p4 m) 39)=W at *;refine (SP (uh Hv)).mono ?_;rw [uh H1];rintro e w1 ⟨rfl,hb⟩;replace Hv:=Z9 ((uh Hv).below hb);replace kb:=bl kb hb;replace BB:=bt BB hb;clear hb;cases q1
 ·go_wp2_with fail
  go_ret;exact ⟨rfl,uh BB⟩
 obtain ⟨c0,c1,c2,c3,c4,c5⟩:=(uh kb).c6;go_wp2_with fail;refine (Lg (uh Hv) (by have:=FM (uh H1);omega)).mono ?_;rw [uh H2];rintro e w2 ⟨rfl,hb⟩;replace BB:=bt BB hb;clear hb c0 c1 c2 c3 c4 c5;go_wp2_with fail;go_ret;exact ⟨Z5 (by simp),uh BB⟩
theorem Ta (w:World) (v0 v1 v2 v3 v4:Value) (m:Z3) (q:Bool) (hq:Zl m=q) (h:Smy w v0 v1 v2 v3 v4 m):cB 78 #[.agg #[v0,v1,v2,v3,v4,.int .i64 m.now]] w (.bool q):=Calls.bool_of (QK h) hq
end Go.Proofs.YtgdpaigcmoifbaaGreatDoor
