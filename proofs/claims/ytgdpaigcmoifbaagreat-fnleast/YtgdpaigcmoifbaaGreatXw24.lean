/- Part 24 of what the proof rests on. No condition but those that a theorem names. -/
import Derived.Test.YtgdpaigcmoifbaaGreatXw18
set_option maxHeartbeats 8000000
set_option maxRecDepth 100000
namespace Go.Proofs.YtgdpaigcmoifbaaGreat
open Go.ChangeShapes Go.WideShapes Go.ChangeAt Go.RowKit Go.Sort Go.Proofs.Tryz
set_option linter.unusedVariables false
set_option maxRecDepth 100000
variable {w w' w0 w1 w2 w3 w₀ wr W W' X A B C : World} {v v0 v1 v2 v3 v4 u u0 u1 u2 u3 u4 : Value} {m : Z6}
theorem NC (st be rk my gu lo hi hd ca ut wk:Int) {R n3 p3:Nat} {a3:Option Addr} {ds:List Yg} (hc:w.cell? ⟨R,3,none⟩=some (.slice a3 n3 p3)) (hR:R<w.heap.size) (h:Us w (.slice a3 n3 p3) ds):cB 164 #[.agg (I11 st be rk my gu lo hi hd ca ut wk),.pointer (some ⟨R,0,none⟩)] w (.bool (Vl ds (st,be,rk,my,gu,lo,hi,hd,ca,ut,wk))):=by
 have hne:R ≠ w.heap.size:=VH hR;have HD:=Z9 h;clear h;go_enter func164,ntmps164;go_wp2_with fail;refine ck (KP st be rk my gu lo hi hd ca ut wk ((uh HD).below ((ba _ _)))) fun w1 hb=> ?_;have Hb:=Z9 (((Z3 w.heap.size w).alloc (Z0 _) _).trans (hb.mono (by simp)));clear hb;go_wp2_with fail;go_ret;exact ⟨rfl,uh Hb⟩
theorem IT  {ss:List Z2} {R n3 p3:Nat} {a3:Option Addr} {ds:List Yg} (h:Xc w v ss) (hc0:w.cell? ⟨R,3,none⟩=some (.slice a3 n3 p3)) (hR:R<w.heap.size) (hds:Us w (.slice a3 n3 p3) ds):cB 163 #[v,.func (Fn.func 164) #[] #[.pointer (some ⟨R,0,none⟩)]] w (.bool (X8 (Vl ds) ss ss.length)):=zI h (fun st be rk my gu lo hi hd ca ut wk _ hb=>NC st be rk my gu lo hi hd ca ut wk (((hb.cell (p:=⟨R,3,none⟩) hR).trans hc0)) (Y0 hR hb.size) (hds.below hb))
theorem WS (a0 a1 a2 a3 a4:Option Addr) (n0 n1 n2 n3 n4 p0 p1 p2 p3 p4:Nat) (now:Int) (w:World):cB 162 #[.agg #[.slice a0 n0 p0,.slice a1 n1 p1,.slice a2 n2 p2,.slice a3 n3 p3,.slice a4 n4 p4,.int .i64 now]] w (.slice a2 n2 p2):=by
 go_enter func162,ntmps162;go_wp2_with fail;go_ret;exact ⟨rfl,(ba _ _)⟩
theorem Oe (a0 a1 a2 a3 a4:Option Addr) (n0 n1 n2 n3 n4 p0 p1 p2 p3 p4:Nat) (now:Int) (w:World):cB 123 #[.agg #[.slice a0 n0 p0,.slice a1 n1 p1,.slice a2 n2 p2,.slice a3 n3 p3,.slice a4 n4 p4,.int .i64 now]] w (.slice a3 n3 p3):=by
 go_enter func123,ntmps123;go_wp2_with fail;go_ret;exact ⟨rfl,(ba _ _)⟩
theorem Jy  {ss:List Z2} {gs:List Zs} (h:Xc w v ss) (h1:XF w v1 gs):cB 215 #[v,v1] w (.bool (Tb ss gs.length)):=by
 have Hv:=Z9 h;obtain ⟨a,cap,rfl,_,_⟩:=IsRec.shape h;obtain ⟨ga,gc,rfl,_,_⟩:=IsRec.shape h1;clear h h1;obtain ⟨q1,hq1⟩:=ZJ (X8 Zm ss ss.length);obtain ⟨q2,hq2⟩:=ZJ (X8 (VD gs.length) ss ss.length);have H1:=Z9 hq1;have H2:=Z9 hq2;by_cases hl:ss.length<=12
 ·refine Calls.bool_of (q:=(q1 && q2)) ?_ (by unfold Tb;rw [hq1,hq2,decide_eq_true hl,Bool.true_and])
  have hl1:(ss.length:Int)<=12:=by omega
  clear hq1 hq2;have HW:=Z9 ((uh Hv).below ((Z3 _ _).alloc (Z0 _) (.cells #[.slice ga gs.length gc] 27)));go_enter func215,ntmps215;go_wp2_with fail;refine (Bu (uh HW)).mono ?_;rw [uh H1];rintro e w1 ⟨rfl,hb⟩;replace HW:=Z9 ((uh HW).below hb);have c0:w1.cell? ⟨w.heap.size,0,none⟩=some (.slice ga gs.length gc):=(hb.cell (p:=⟨w.heap.size,0,none⟩) (by simp)).trans (Y4 _ rfl);have hlt:w.heap.size<w1.heap.size:=by have:=hb.size;simp at this;omega
  have Hb:=Z9 (((Z3 w.heap.size w).alloc (Z0 _) _).trans (hb.mono (by simp)));have HC:=Z9 c0;clear hb c0;cases q1
  ·go_wp2_with fail
   go_ret;exact ⟨rfl,uh Hb⟩
  go_wp2_with fail;refine (IU (uh HW) (uh HC) hlt).mono ?_;rw [uh H2];rintro e w2 ⟨rfl,hb⟩;replace Hb:=Z9 ((uh Hb).trans (hb.mono (uh Hb).size));clear hb;go_wp2_with fail;go_ret;exact ⟨Z5 (by simp),uh Hb⟩
 ·refine Calls.bool_of (q:=false) ?_ (by unfold Tb;rw [decide_eq_false hl];rfl)
  have hl1:¬ ((ss.length:Int)<=12):=by omega
  clear hq1 hq2;go_enter func215,ntmps215;go_wp2_with fail;go_ret;exact ⟨rfl,(ba _ _)⟩
theorem FV  {ds:List Yg} {n:Int} (h:Us w v ds) (hn:n<=1000):cB 216 #[v,.int .i64 n] w (.bool (QC ds n)):=by
 have Hv:=Z9 h;obtain ⟨a,cap,rfl,_,_⟩:=IsRec.shape h;clear h;obtain ⟨q1,hq1⟩:=ZJ (X8 Vr ds ds.length);obtain ⟨ws,hws⟩:=ZJ (ZP Sr ds ds.length);have H1:=Z9 hq1;have H2:=Z9 hws;by_cases hl:(ds.length:Int)=n
 ·refine Calls.bool_of (q:=(q1 && decide (0<ws.length))) ?_ (by unfold QC;rw [hq1,show ZP (fun d:Yg=>d.1) ds ds.length=ws from hws,decide_eq_true hl,Bool.true_and])
  subst hl;have hl1:ds.length<=1000:=by omega
  clear hq1 hws;go_enter func216,ntmps216;go_wp2_with fail;refine (Fv (uh Hv)).mono ?_;rw [uh H1];rintro e w1 ⟨rfl,hb⟩;replace Hv:=Z9 ((uh Hv).below hb);have Hb:=Z9 hb;clear hb;cases q1
  ·go_wp2_with fail
   go_ret;exact ⟨rfl,uh Hb⟩
  go_wp2_with fail;refine (Lk (uh Hv) hl1).mono ?_;rw [uh H2];rintro e w2 ⟨v2,rfl,hn2,hb⟩;obtain ⟨la,lc,rfl⟩:=RecAt.shape hn2;replace Hb:=Z9 ((uh Hb).trans (hb.mono (uh Hb).size));clear hb hn2;go_wp2_with fail;go_ret;exact ⟨Z5 (by simp),uh Hb⟩
 ·refine Calls.bool_of (q:=false) ?_ (by unfold QC;rw [decide_eq_false hl];rfl)
  have hl1:((ds.length:Int) ==n)=false:=by simpa using hl
  clear hq1 hws;go_enter func216,ntmps216;go_wp2_with fail;go_ret;exact ⟨rfl,Z3 _ _⟩
theorem EG {ps:List Int} {rs:List ZY} {k:Nat} (hk:k<ps.length) (h:Xa (ZQ rs k).2.length (Z8 ps k)=false):Vb ps rs=false:=by
 unfold Vb;rw [P4 (p:=fun j=>Xa (ZQ rs j).2.length (Z8 ps j)) hk h,Bool.and_false]
theorem MB  {ps:List Int} {rs:List ZY} (h:OI w v ps) (h0:IsRooms w v0 rs):cB 218 #[v,v0] w (.bool (Vb ps rs)):=by
 obtain ⟨a,cap,rfl,hc,hm,hr⟩:=h;obtain ⟨a0,cap0,rfl,hc0,hm0,hr0⟩:=h0;have Hr:=Z9 hr;have Hr0:=Z9 hr0;clear hr hr0;by_cases hl:ps.length=rs.length
 ·have hl1:(ps.length:Int)=(rs.length:Int):=by omega
  have hbn:((ps.length:Int) !=(rs.length:Int))=false:=by simp [hl]
  have Hall:Hid ((List.range ps.length).all (fun j=>Xa (ZQ rs j).2.length (Z8 ps j))=true->Vb ps rs=true):=Z9 (fun e=>by unfold Vb;rw [e,decide_eq_true hl];rfl);have Hl:=Z9 hl;clear hl hl1;go_enter func218,ntmps218;go_wp2_with fail
  go_loopw [14] (fun i wr=> ∃ k:Nat,k<=ps.length/\i= .int .i64 k/\(List.range k).all (fun j=>Xa (ZQ rs j).2.length (Z8 ps j))=true/\Below w.heap.size w wr) (fun i _=>ps.length-(intOf i).toNat)
  case atStart=>exact ⟨0,ZA _,rfl,rfl,Z3 _ _⟩
  case round=>
   obtain ⟨k,hk,rfl,hst,hb0⟩:=hrel;have Hst:=Z9 hst;have BB:=Z9 hb0;by_cases hlt:k<ps.length
   ·have hlt1:(k:Int)<(ps.length:Int):=by omega
    have hlt2:(k:Int)<(rs.length:Int):=by have:=uh Hl;omega
    rcases uh Hr with e0 | ⟨b,off,rfl,hbw,hcl⟩
    ·rw [e0] at hlt;simp at hlt
    rcases uh Hr0 with e0 | ⟨b0,off0,rfl,hbw0,hcl0⟩
    ·rw [e0] at hlt2;simp at hlt2;omega
    have d0:=hcl k hlt 0 _ rfl;simp only [Nat.mul_one,Nat.add_zero] at d0;rw [<-hb0.cell (p:=⟨b,off+k,none⟩) hbw] at d0;obtain ⟨_,pv,g1,hpv⟩:=hcl0 k (by have:=uh Hl;omega);obtain ⟨pa,pc,rfl,_,_,_⟩:=hpv;rw [<-hb0.cell (p:=⟨b0,off0+k*2+1,none⟩) hbw0] at g1;have HU:=Z9 (fun (hh:Xa (ZQ rs k).2.length (Z8 ps k)=true)=>(show (List.range (k+1)).all (fun j=>Xa (ZQ rs j).2.length (Z8 ps j))=true from by rw [Tg,hst,hh];rfl));have HN:=Z9 (fun hh=>EG (rs:=rs) hlt hh);clear hcl hcl0 hst hb0;generalize Z8 ps k=x at *;generalize (ZQ rs k).2.length=n at *;obtain ⟨q,Hq⟩:=YV (Xa n x);go_wp2_with fail;refine (Gh pa n pc x _).mono ?_;rw [uh Hq];rintro e w1 ⟨rfl,h9⟩;subst w1;cases q
    ·go_wp2_with fail
     go_ret;exact ⟨Z5 (uh HN (uh Hq)).symm,uh BB⟩
    ·go_wp2_with fail
     go_roundw
     case rel=>exact ⟨k+1,by omega,by go_num,uh HU (uh Hq),uh BB⟩
     case measure=>exact ms
   ·obtain rfl:k=ps.length:=by omega
    go_wp2_with fail;go_ret;exact ⟨Z5 (uh Hall (uh Hst)).symm,uh BB⟩
 ·refine Calls.bool_of (q:=false) ?_ (by unfold Vb;rw [decide_eq_false hl];rfl)
  have hbn:((ps.length:Int) !=(rs.length:Int))=true:=by simp;omega
  go_enter func218,ntmps218;go_wp2_with fail;go_ret;exact ⟨rfl,Z3 _ _⟩
theorem Calls.same_below' {P:Program} {f:FuncId} {args:Array Value}  (h:Calls P f args w fun e w'=>e= .returned v/\w'=w):Calls P f args w fun e w'=>e= .returned v/\Below w.heap.size w w':=h.mono fun e w' ⟨he,hw⟩=>⟨he,by subst hw;exact Z3 _ _⟩
theorem Calls.int_of {P:Program} {f:FuncId} {args:Array Value} {q q':Int} (h:Calls P f args w fun e w'=>e= .returned (.int .i64 q)/\Below w.heap.size w w') (e:q=q'):Calls P f args w fun e w'=>e= .returned (.int .i64 q')/\Below w.heap.size w w':=by rw [<-e];exact h
theorem GY  (h:Smy w v0 v1 v2 v3 v4 m):cB 161 #[.agg #[v0,v1,v2,v3,v4,.int .i64 m.now]] w (.bool (PG m)):=by
 have Hv:=Z9 (h.alloc (.cells #[v0,v1,v2,v3,v4,.int .i64 m.now] 32));obtain ⟨a0,p0,a1,p1,a2,p2,a3,p3,a4,p4,rfl,rfl,rfl,rfl,rfl,_,_,_,_,_,_,_,_,_,_⟩:=h.five;clear h;obtain ⟨q1,hq1⟩:=ZJ (YW m.rm);obtain ⟨q2,hq2⟩:=ZJ (Za m.gd);obtain ⟨q3,hq3⟩:=ZJ (Tb m.sm m.gd.length);obtain ⟨q4,hq4⟩:=ZJ (QC m.dk (Wg m.rm));obtain ⟨q5,hq5⟩:=ZJ (Vb m.pc m.rm);obtain ⟨q6,hq6⟩:=ZJ (inB m.now 0 1000000)
 refine Calls.bool_of (q:=(q1 && (q2 && (q3 && (q4 && (q5 && q6)))))) ?_ (by
  unfold PG;rw [hq2,hq3,hq5,hq6];cases q1
  ·rw [hq1];rfl
  ·rw [<-TP hq1,hq4,hq1])
 have kb:Hid (Blk (w.alloc (.cells (S6 a0 p0 a1 p1 a2 p2 a3 p3 a4 p4 m) 32)) w.heap.size 32 (S6 a0 p0 a1 p1 a2 p2 a3 p3 a4 p4 m)):=Z9 (Blk.new w _ _);have BB:Hid (Below w.heap.size w (w.alloc (.cells (S6 a0 p0 a1 p1 a2 p2 a3 p3 a4 p4 m) 32))):=Z9 ((ba _ _))
 have hbv:Wg m.rm<=1000:=by
  cases hb:YW m.rm
  ·rw [P7 hb];omega
  ·rw [TP hb];have:=(Zj hb).2.2.2;omega
 go_enter func161,ntmps161;go_wp2_with fail;generalize w.alloc (.cells (S6 a0 p0 a1 p1 a2 p2 a3 p3 a4 p4 m) 32)=W at *;have H1:=Z9 (fun (X:World) (hX:Below W.heap.size W X)=>Calls.bool_of (XH ((uh Hv).below hX).rm) hq1);have H2:=Z9 (fun (X:World) (hX:Below W.heap.size W X)=>Calls.bool_of (V9 ((uh Hv).below hX).gd) hq2);have H3:=Z9 (fun (X:World) (hX:Below W.heap.size W X)=>Calls.bool_of (Jy ((uh Hv).below hX).sm ((uh Hv).below hX).gd) hq3);have H4a:=Z9 (fun (X:World) (hX:Below W.heap.size W X)=>VA ((uh Hv).below hX).rm);have H4:=Z9 (fun (X:World) (hX:Below W.heap.size W X)=>Calls.bool_of (FV ((uh Hv).below hX).dk hbv) hq4);have H5:=Z9 (fun (X:World) (hX:Below W.heap.size W X)=>Calls.bool_of (MB ((uh Hv).below hX).pc ((uh Hv).below hX).rm) hq5);have H6:=Z9 (fun (X:World) (hX:Below W.heap.size W X)=>Calls.bool_of (Calls.same_below' (Zy 0 m.now 1000000 X)) hq6);clear hq1 hq2 hq3 hq4 hq5 hq6;generalize Wg m.rm=nb at *;obtain ⟨c0,c1,c2,c3,c4,c5⟩:=(uh kb).c6;have y0:=ZX c0;have y1:=ZX c1;have y2:=ZX c2;have y3:=ZX c3;have y4:=ZX c4;have y5:=ZX c5;cases q1
 ·go_wp2_with fail
  refine wq ?_
  repeat (go_big_quiet_step (first | exact ZZ (uh H1 _ (Z1 _ _ _)) | exact ZZ (uh H2 _ (Z1 _ _ _)) | exact ZZ (uh H3 _ (Z1 _ _ _)) | exact ZZ (uh H4a _ (Z1 _ _ _)) | exact ZZ (uh H4 _ (Z1 _ _ _)) | exact ZZ (uh H5 _ (Z1 _ _ _)) | exact ZZ (uh H6 _ (Z1 _ _ _))))
  refine wpQuiet_nil ?_;intro _ hw';obtain ⟨⟨dq,osq⟩,hw''⟩:=hw';subst hw'';go_wp2_with fail;go_ret;exact ⟨rfl,(uh BB).trans ((Z1 _ _ _).mono (uh BB).size)⟩
 cases q2
 ·go_wp2_with fail
  refine wq ?_
  repeat (go_big_quiet_step (first | exact ZZ (uh H1 _ (Z1 _ _ _)) | exact ZZ (uh H2 _ (Z1 _ _ _)) | exact ZZ (uh H3 _ (Z1 _ _ _)) | exact ZZ (uh H4a _ (Z1 _ _ _)) | exact ZZ (uh H4 _ (Z1 _ _ _)) | exact ZZ (uh H5 _ (Z1 _ _ _)) | exact ZZ (uh H6 _ (Z1 _ _ _))))
  refine wpQuiet_nil ?_;intro _ hw';obtain ⟨⟨dq,osq⟩,hw''⟩:=hw';subst hw'';go_wp2_with fail;go_ret;exact ⟨rfl,(uh BB).trans ((Z1 _ _ _).mono (uh BB).size)⟩
 cases q3
 ·go_wp2_with fail
  refine wq ?_
  repeat (go_big_quiet_step (first | exact ZZ (uh H1 _ (Z1 _ _ _)) | exact ZZ (uh H2 _ (Z1 _ _ _)) | exact ZZ (uh H3 _ (Z1 _ _ _)) | exact ZZ (uh H4a _ (Z1 _ _ _)) | exact ZZ (uh H4 _ (Z1 _ _ _)) | exact ZZ (uh H5 _ (Z1 _ _ _)) | exact ZZ (uh H6 _ (Z1 _ _ _))))
  refine wpQuiet_nil ?_;intro _ hw';obtain ⟨⟨dq,osq⟩,hw''⟩:=hw';subst hw'';go_wp2_with fail;go_ret;exact ⟨rfl,(uh BB).trans ((Z1 _ _ _).mono (uh BB).size)⟩
 cases q4
 ·go_wp2_with fail
  refine wq ?_
  repeat (go_big_quiet_step (first | exact ZZ (uh H1 _ (Z1 _ _ _)) | exact ZZ (uh H2 _ (Z1 _ _ _)) | exact ZZ (uh H3 _ (Z1 _ _ _)) | exact ZZ (uh H4a _ (Z1 _ _ _)) | exact ZZ (uh H4 _ (Z1 _ _ _)) | exact ZZ (uh H5 _ (Z1 _ _ _)) | exact ZZ (uh H6 _ (Z1 _ _ _))))
  refine wpQuiet_nil ?_;intro _ hw';obtain ⟨⟨dq,osq⟩,hw''⟩:=hw';subst hw'';go_wp2_with fail;go_ret;exact ⟨rfl,(uh BB).trans ((Z1 _ _ _).mono (uh BB).size)⟩
 cases q5
 ·go_wp2_with fail
  refine wq ?_
  repeat (go_big_quiet_step (first | exact ZZ (uh H1 _ (Z1 _ _ _)) | exact ZZ (uh H2 _ (Z1 _ _ _)) | exact ZZ (uh H3 _ (Z1 _ _ _)) | exact ZZ (uh H4a _ (Z1 _ _ _)) | exact ZZ (uh H4 _ (Z1 _ _ _)) | exact ZZ (uh H5 _ (Z1 _ _ _)) | exact ZZ (uh H6 _ (Z1 _ _ _))))
  refine wpQuiet_nil ?_;intro _ hw';obtain ⟨⟨dq,osq⟩,hw''⟩:=hw';subst hw'';go_wp2_with fail;go_ret;exact ⟨rfl,(uh BB).trans ((Z1 _ _ _).mono (uh BB).size)⟩
 go_wp2_with fail;refine wq ?_
 repeat (go_big_quiet_step (first | exact ZZ (uh H1 _ (Z1 _ _ _)) | exact ZZ (uh H2 _ (Z1 _ _ _)) | exact ZZ (uh H3 _ (Z1 _ _ _)) | exact ZZ (uh H4a _ (Z1 _ _ _)) | exact ZZ (uh H4 _ (Z1 _ _ _)) | exact ZZ (uh H5 _ (Z1 _ _ _)) | exact ZZ (uh H6 _ (Z1 _ _ _))))
 refine wpQuiet_nil ?_;intro _ hw';obtain ⟨⟨dq,osq⟩,hw''⟩:=hw';subst hw'';go_wp2_with fail;go_ret;exact ⟨Z5 (by simp),(uh BB).trans ((Z1 _ _ _).mono (uh BB).size)⟩
theorem QV  (h:Smy w v0 v1 v2 v3 v4 m):cB 111 #[.agg #[v0,v1,v2,v3,v4,.int .i64 m.now]] w (.bool (VK m)):=by
 have Hv:=Z9 (h.alloc (.cells #[v0,v1,v2,v3,v4,.int .i64 m.now] 32));obtain ⟨a0,p0,a1,p1,a2,p2,a3,p3,a4,p4,rfl,rfl,rfl,rfl,rfl,_,_,_,_,_,_,_,_,_,_⟩:=h.five;clear h;obtain ⟨q1,hq1⟩:=ZJ (PG m);obtain ⟨q2,hq2⟩:=ZJ (X8 (Vl m.dk) m.sm m.sm.length);refine Calls.bool_of (q:=(q1 && q2)) ?_ (by unfold VK;rw [hq1,hq2]);have H1:=Z9 hq1;have H2:=Z9 hq2;clear hq1 hq2;have kb:Hid (Blk (w.alloc (.cells (S6 a0 p0 a1 p1 a2 p2 a3 p3 a4 p4 m) 32)) w.heap.size 32 (S6 a0 p0 a1 p1 a2 p2 a3 p3 a4 p4 m)):=Z9 (Blk.new w _ _);have BB:Hid (Below w.heap.size w (w.alloc (.cells (S6 a0 p0 a1 p1 a2 p2 a3 p3 a4 p4 m) 32))):=Z9 ((ba _ _));go_enter func111,ntmps111;go_wp2_with fail;generalize w.alloc (.cells (S6 a0 p0 a1 p1 a2 p2 a3 p3 a4 p4 m) 32)=W at *;refine (GY (uh Hv)).mono ?_;rw [uh H1];rintro e w1 ⟨rfl,hb⟩;replace Hv:=Z9 ((uh Hv).below hb);replace kb:=bl kb hb;replace BB:=bt BB hb;clear hb;cases q1
 ·go_wp2_with fail
  go_ret;exact ⟨rfl,uh BB⟩
 obtain ⟨c0,c1,c2,c3,c4,c5⟩:=(uh kb).c6;go_wp2_with fail;refine ck (WS _ _ _ _ _ _ _ _ _ _ _ _ _ _ _ _ _) fun w2 hb=> ?_;replace Hv:=Z9 ((uh Hv).below hb);replace kb:=bl kb hb;replace BB:=bt BB hb;clear hb c0 c1 c2 c3 c4 c5;go_wp2_with fail;refine (IT (uh Hv).sm ((uh kb).cell (i:=3) rfl) (uh kb).lt (uh Hv).dk).mono ?_;rw [uh H2];rintro e w3 ⟨rfl,hb⟩;replace BB:=bt BB hb;clear hb;go_wp2_with fail;go_ret;exact ⟨Z5 (by simp),uh BB⟩
theorem TH  (b:Int) (h:Smy w v0 v1 v2 v3 v4 m) (hl:m.sm.length<=1000):Calls prog 159 #[.agg #[v0,v1,v2,v3,v4,.int .i64 m.now],.int .i64 b] w fun e w'=> ∃ v',e= .returned v'/\NumsAt w.heap.size w' v' (ZP (atB b) m.sm m.sm.length)/\Below w.heap.size w w':=by
 have Hv:=Z9 ((h.alloc (.cells #[v0,v1,v2,v3,v4,.int .i64 m.now] 32)).alloc (.cells #[.int .i64 b] 2));obtain ⟨a0,p0,a1,p1,a2,p2,a3,p3,a4,p4,rfl,rfl,rfl,rfl,rfl,_,_,_,_,_,_,_,_,_,_⟩:=h.five;clear h;have BB:Hid (Below w.heap.size w ((w.alloc (.cells (S6 a0 p0 a1 p1 a2 p2 a3 p3 a4 p4 m) 32)).alloc (.cells #[.int .i64 b] 2))):=Z9 (((ba _ _)).alloc (by simp) _)
 have kc:Hid (Blk ((w.alloc (.cells (S6 a0 p0 a1 p1 a2 p2 a3 p3 a4 p4 m) 32)).alloc (.cells #[.int .i64 b] 2)) (w.heap.size+1) 2 #[.int .i64 b]):=Z9 (by
  have k:=Blk.new (w.alloc (.cells (S6 a0 p0 a1 p1 a2 p2 a3 p3 a4 p4 m) 32)) 2 #[.int .i64 b];rw [XG] at k
  exact k)
 go_enter func159,ntmps159;go_wp2_with fail;generalize (w.alloc (.cells (S6 a0 p0 a1 p1 a2 p2 a3 p3 a4 p4 m) 32)).alloc (.cells #[.int .i64 b] 2)=W at *;refine ck (WS _ _ _ _ _ _ _ _ _ _ _ _ _ _ _ _ _) fun w2 hb=> ?_;replace Hv:=Z9 ((uh Hv).below hb);replace kc:=bl kc hb;replace BB:=bt BB hb;clear hb;go_wp2_with fail;refine (IG (uh Hv).sm hl ((uh kc).cell (i:=0) rfl) (uh kc).lt).mono ?_;rintro e w3 ⟨v',rfl,hn,hb⟩;have HN:=Z9 (RecAt.mono hn (uh BB).size);replace BB:=bt BB hb;obtain ⟨la,lc,rfl⟩:=RecAt.shape hn;clear hb hn;go_wp2_with fail;go_ret;exact ⟨_,rfl,uh HN,uh BB⟩
theorem Nl  (b:Int) (h:Smy w v0 v1 v2 v3 v4 m) (hl:m.sm.length<=1000):Calls prog 242 #[.agg #[v0,v1,v2,v3,v4,.int .i64 m.now],.int .i64 b] w fun e w'=> ∃ v',e= .returned v'/\NumsAt w.heap.size w' v' (ZP (Yw b) m.sm m.sm.length)/\Below w.heap.size w w':=by
 have Hv:=Z9 ((h.alloc (.cells #[v0,v1,v2,v3,v4,.int .i64 m.now] 32)).alloc (.cells #[.int .i64 b] 2));obtain ⟨a0,p0,a1,p1,a2,p2,a3,p3,a4,p4,rfl,rfl,rfl,rfl,rfl,_,_,_,_,_,_,_,_,_,_⟩:=h.five;clear h;have BB:Hid (Below w.heap.size w ((w.alloc (.cells (S6 a0 p0 a1 p1 a2 p2 a3 p3 a4 p4 m) 32)).alloc (.cells #[.int .i64 b] 2))):=Z9 (((ba _ _)).alloc (by simp) _)
 have kc:Hid (Blk ((w.alloc (.cells (S6 a0 p0 a1 p1 a2 p2 a3 p3 a4 p4 m) 32)).alloc (.cells #[.int .i64 b] 2)) (w.heap.size+1) 2 #[.int .i64 b]):=Z9 (by
  have k:=Blk.new (w.alloc (.cells (S6 a0 p0 a1 p1 a2 p2 a3 p3 a4 p4 m) 32)) 2 #[.int .i64 b];rw [XG] at k
  exact k)
 go_enter func242,ntmps242;go_wp2_with fail;generalize (w.alloc (.cells (S6 a0 p0 a1 p1 a2 p2 a3 p3 a4 p4 m) 32)).alloc (.cells #[.int .i64 b] 2)=W at *;refine ck (WS _ _ _ _ _ _ _ _ _ _ _ _ _ _ _ _ _) fun w2 hb=> ?_;replace Hv:=Z9 ((uh Hv).below hb);replace kc:=bl kc hb;replace BB:=bt BB hb;clear hb;go_wp2_with fail;refine (Nk (uh Hv).sm hl ((uh kc).cell (i:=0) rfl) (uh kc).lt).mono ?_;rintro e w3 ⟨v',rfl,hn,hb⟩;have HN:=Z9 (RecAt.mono hn (uh BB).size);replace BB:=bt BB hb;obtain ⟨la,lc,rfl⟩:=RecAt.shape hn;clear hb hn;go_wp2_with fail;go_ret;exact ⟨_,rfl,uh HN,uh BB⟩
theorem Fe  {b:Nat} (h:Smy w v0 v1 v2 v3 v4 m) (hl:m.sm.length<=1000) (hb0:b<m.dk.length):cB 203 #[.agg #[v0,v1,v2,v3,v4,.int .i64 m.now],.int .i64 (b:Int)] w (.bool (UO m b)):=by
 have Hv:=Z9 (h.alloc (.cells #[v0,v1,v2,v3,v4,.int .i64 m.now] 32));obtain ⟨a0,p0,rfl,_,_⟩:=IsRooms.shape h.rm;obtain ⟨a1,p1,rfl,_,_⟩:=IsRec.shape h.gd;obtain ⟨a2,p2,rfl,_,_⟩:=IsRec.shape h.sm;obtain ⟨a3,p3,rfl,hc3,hm3,r3⟩:=h.dk;obtain ⟨a4,p4,rfl,_,_⟩:=IsRec.shape h.pc;clear h
 rcases r3 with e0 | ⟨db,off,rfl,hbw,hcl⟩
 ·rw [e0] at hb0;simp at hb0
 obtain ⟨_,d1,_⟩:=Zh hcl hb0;have hb1:(b:Int)<(m.dk.length:Int):=by omega
 have hT:UO m b=if (Z8 m.dk b).2.1= -1 then decide ((ZP (atB b) m.sm m.sm.length).length=0) else decide ((ZP (Yw b) m.sm m.sm.length).length=1) && decide (Z8 (ZP (Yw b) m.sm m.sm.length) 0=(Z8 m.dk b).2.1):=rfl
 have HT:=Z9 hT;clear hT hcl;generalize (Z8 m.dk b).2.1=who at *;have hne:db ≠ w.heap.size:=VH hbw;obtain ⟨BB,kb⟩:=V5 w 32 #[.slice a0 m.rm.length p0,.slice a1 m.gd.length p1,.slice a2 m.sm.length p2,.slice (some ⟨db,off,none⟩) m.dk.length p3,.slice a4 m.pc.length p4,.int .i64 m.now];rw [<-(uh BB).cell (p:=⟨db,off+b*3+1,none⟩) hbw] at d1;by_cases hw:who= -1
 ·subst hw
  obtain ⟨ws,hws⟩:=ZJ (ZP (atB b) m.sm m.sm.length);refine Calls.bool_of (q:=decide (ws.length=0)) ?_ (by rw [uh HT,if_pos rfl,hws]);have Hws:=Z9 hws;clear hws HT;go_enter func203,ntmps203;go_upto_region 3 with fail;generalize w.alloc (.cells #[.slice a0 m.rm.length p0,.slice a1 m.gd.length p1,.slice a2 m.sm.length p2,.slice (some ⟨db,off,none⟩) m.dk.length p3,.slice a4 m.pc.length p4,.int .i64 m.now] 32)=W at *;obtain ⟨c0,c1,c2,c3,c4,c5⟩:=(uh kb).c6;go_wp2_with fail;refine (TH (b:Int) (uh Hv) hl).mono ?_;rw [uh Hws];rintro e w2 ⟨v',rfl,hn,hb⟩;obtain ⟨la,lc,rfl⟩:=RecAt.shape hn;replace BB:=bt BB hb;clear hb hn c0 c1 c2 c3 c4 c5;go_wp2_with fail;go_ret;exact ⟨Z5 (by rw [Bool.eq_iff_iff];simp only [beq_iff_eq,YZ];omega),uh BB⟩
 have nw:(who == -1)=false:=by simpa using hw
 obtain ⟨ws,hws⟩:=ZJ (ZP (Yw b) m.sm m.sm.length);refine Calls.bool_of (q:=decide (ws.length=1) && decide (Z8 ws 0=who)) ?_ (by rw [uh HT,if_neg hw,hws]);have Hws:=Z9 hws;clear hws HT;go_enter func203,ntmps203;go_upto_region 3 with fail;generalize w.alloc (.cells #[.slice a0 m.rm.length p0,.slice a1 m.gd.length p1,.slice a2 m.sm.length p2,.slice (some ⟨db,off,none⟩) m.dk.length p3,.slice a4 m.pc.length p4,.int .i64 m.now] 32)=W at *;obtain ⟨c0,c1,c2,c3,c4,c5⟩:=(uh kb).c6;go_wp2_with fail;refine (Nl (b:Int) (uh Hv) hl).mono ?_;rw [uh Hws];rintro e w2 ⟨v',rfl,hn,hb⟩;obtain ⟨la,lc,rfl⟩:=RecAt.shape hn;replace BB:=bt BB hb;have HN:=Z9 hn;clear hb hn c0 c1 c2 c3 c4 c5;by_cases h1:ws.length=1
 ·obtain ⟨g,hga,_,_,hcl,_⟩:=RecAt.view Ze (by omega) (uh HN) rfl (by omega)
  cases hga;have z0:=hcl 0 (by omega) 0 _ rfl;simp only [Nat.zero_mul,Nat.add_zero] at z0;have hl1:((ws.length:Int) ==1)=true:=by simp;omega
  clear hcl;have h01:(0:Int)<(ws.length:Int):=by omega
  obtain ⟨z,hz⟩:=ZJ (Z8 ws 0);rw [hz] at z0;have Hz:=Z9 hz;clear hz;go_wp2_with fail;go_ret;exact ⟨Z5 (by rw [uh Hz,decide_eq_true h1,Bool.eq_iff_iff];simp only [Bool.true_and,beq_iff_eq,YZ]),uh BB⟩
 ·have hl1:((ws.length:Int) ==1)=false:=by simp;omega
  go_wp2_with fail;go_ret;exact ⟨Z5 (by rw [decide_eq_false h1];rfl),uh BB⟩
theorem Iy  (h:Smy w v0 v1 v2 v3 v4 m) (hl:m.sm.length<=1000):cB 148 #[.agg #[v0,v1,v2,v3,v4,.int .i64 m.now]] w (.bool (PX m)):=by
 have Hv:=Z9 (h.alloc (.cells #[v0,v1,v2,v3,v4,.int .i64 m.now] 32));obtain ⟨a0,p0,a1,p1,a2,p2,a3,p3,a4,p4,rfl,rfl,rfl,rfl,rfl,_,_,_,_,_,_,_,_,_,_⟩:=h.five;clear h;obtain ⟨BB0,kb0⟩:=V5 w 32 (S6 a0 p0 a1 p1 a2 p2 a3 p3 a4 p4 m);go_enter func148,ntmps148;go_wp2_with fail
 go_loopw [7] (fun i wr=> ∃ k:Nat,k<=m.dk.length/\i= .int .i64 k/\(List.range k).all (UO m)=true/\Smy wr (.slice a0 m.rm.length p0) (.slice a1 m.gd.length p1) (.slice a2 m.sm.length p2) (.slice a3 m.dk.length p3) (.slice a4 m.pc.length p4) m/\Blk wr w.heap.size 32 (S6 a0 p0 a1 p1 a2 p2 a3 p3 a4 p4 m)/\Below w.heap.size w wr) (fun i _=>m.dk.length-(intOf i).toNat)
 case atStart=>exact ⟨0,ZA _,rfl,rfl,uh Hv,uh kb0,uh BB0⟩
 case round=>
  obtain ⟨k,hk,rfl,hst,hv,hkb,hb0⟩:=hrel;have Hst:=Z9 hst;have Hv1:=Z9 hv;have kb:=Z9 hkb;have BB:=Z9 hb0;clear hv hkb hb0 kb0 BB0 Hv;by_cases hlt:k<m.dk.length
  ·have hlt1:(k:Int)<(m.dk.length:Int):=by omega
   have HU:=Z9 (fun (hh:UO m k=true)=>(show (List.range (k+1)).all (UO m)=true from by rw [Tg,hst,hh];rfl));have HN:=Z9 (fun hh=>(show PX m=false from P4 (p:=UO m) hlt hh));clear hst;obtain ⟨q,Hq⟩:=YV (UO m k);obtain ⟨c0,c1,c2,c3,c4,c5⟩:=(uh kb).c6;go_wp2_with fail;refine (Fe (uh Hv1) hl hlt).mono ?_;rw [uh Hq];rintro e w1 ⟨rfl,hb⟩;replace Hv1:=Z9 ((uh Hv1).below hb);replace kb:=bl kb hb;replace BB:=bt BB hb;clear hb c0 c1 c2 c3 c4 c5;cases q
   ·go_wp2_with fail
    go_ret;exact ⟨Z5 (uh HN (uh Hq)).symm,uh BB⟩
   ·go_wp2_with fail
    go_roundw
    case rel=>exact ⟨k+1,by omega,by go_num,uh HU (uh Hq),uh Hv1,uh kb,uh BB⟩
    case measure=>exact ms
  ·obtain rfl:k=m.dk.length:=by omega
   go_wp2_with fail;go_ret;exact ⟨Z5 (uh Hst).symm,uh BB⟩
theorem Cl (h:VK m=true):m.sm.length<=12:=by
 rw [Qd] at h;unfold YA Yx at h;simp only [ZO,YZ] at h;exact h.1.2.2.1
theorem SS  (h:Smy w v0 v1 v2 v3 v4 m):cB 83 #[.agg #[v0,v1,v2,v3,v4,.int .i64 m.now]] w (.bool (ZM m)):=by
 have Hv:=Z9 (h.alloc (.cells #[v0,v1,v2,v3,v4,.int .i64 m.now] 32));obtain ⟨a0,p0,a1,p1,a2,p2,a3,p3,a4,p4,rfl,rfl,rfl,rfl,rfl,_,_,_,_,_,_,_,_,_,_⟩:=h.five;clear h;obtain ⟨q1,hq1⟩:=ZJ (VK m);obtain ⟨q2,hq2⟩:=ZJ (PX m);refine Calls.bool_of (q:=(q1 && q2)) ?_ (by rw [<-A8];unfold A7;rw [hq1,hq2]);have H1:=Z9 hq1;have H2:=Z9 hq2;clear hq1 hq2;have kb:Hid (Blk (w.alloc (.cells (S6 a0 p0 a1 p1 a2 p2 a3 p3 a4 p4 m) 32)) w.heap.size 32 (S6 a0 p0 a1 p1 a2 p2 a3 p3 a4 p4 m)):=Z9 (Blk.new w _ _);have BB:Hid (Below w.heap.size w (w.alloc (.cells (S6 a0 p0 a1 p1 a2 p2 a3 p3 a4 p4 m) 32))):=Z9 ((ba _ _));go_enter func83,ntmps83;go_wp2_with fail;generalize w.alloc (.cells (S6 a0 p0 a1 p1 a2 p2 a3 p3 a4 p4 m) 32)=W at *;refine (QV (uh Hv)).mono ?_;rw [uh H1];rintro e w1 ⟨rfl,hb⟩;replace Hv:=Z9 ((uh Hv).below hb);replace kb:=bl kb hb;replace BB:=bt BB hb;clear hb;cases q1
 ·go_wp2_with fail
  go_ret;exact ⟨rfl,uh BB⟩
 obtain ⟨c0,c1,c2,c3,c4,c5⟩:=(uh kb).c6;go_wp2_with fail;refine (Iy (uh Hv) (by have:=Cl (uh H1);omega)).mono ?_;rw [uh H2];rintro e w2 ⟨rfl,hb⟩;replace BB:=bt BB hb;clear hb c0 c1 c2 c3 c4 c5;go_wp2_with fail;go_ret;exact ⟨Z5 (by simp),uh BB⟩
theorem TS (w:World) (v0 v1 v2 v3 v4:Value) (m:Z6) (q:Bool) (hq:ZM m=q) (h:Smy w v0 v1 v2 v3 v4 m):cB 83 #[.agg #[v0,v1,v2,v3,v4,.int .i64 m.now]] w (.bool q):=Calls.bool_of (SS h) hq
end Go.Proofs.YtgdpaigcmoifbaaGreat
