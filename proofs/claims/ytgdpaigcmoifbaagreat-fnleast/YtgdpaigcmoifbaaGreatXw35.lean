/- Part 35 of what the proof rests on. No condition but those that a theorem names. -/
import Derived.Test.YtgdpaigcmoifbaaGreatXw27
import Derived.Test.YtgdpaigcmoifbaaGreatXw29
import Derived.Test.YtgdpaigcmoifbaaGreatXw30
import Derived.Test.YtgdpaigcmoifbaaGreatXw31
set_option maxHeartbeats 8000000
set_option maxRecDepth 100000
namespace Go.Proofs.YtgdpaigcmoifbaaGreat
open Go.ChangeShapes Go.WideShapes Go.ChangeAt Go.RowKit Go.Sort Go.Proofs.Tryz
set_option linter.unusedVariables false
set_option maxRecDepth 100000
variable {w w' w0 w1 w2 w3 w₀ wr W W' X A B C : World} {v v0 v1 v2 v3 v4 u u0 u1 u2 u3 u4 : Value} {m : Z6}
theorem MX  (h:Smy w v0 v1 v2 v3 v4 m) :
  cB 314 #[.agg #[v0,v1,v2,v3,v4,.int .i64 m.now]] w (CF (Ux m)):=by
 have Hv0:=Z9 (h.alloc (.cells #[v0,v1,v2,v3,v4,.int .i64 m.now] 32));obtain ⟨a0,p0,a1,p1,a2,p2,a3,p3,a4,p4,rfl,rfl,rfl,rfl,rfl,_,_,_,_,_,_,_,_,_,_⟩:=h.five;clear h;obtain ⟨BB0,kb0⟩:=V5 w 32 (S6 a0 p0 a1 p1 a2 p2 a3 p3 a4 p4 m);obtain ⟨tv,htv⟩:=ZJ (CF (Ux m));rw [htv];obtain ⟨ok,hok⟩:=ZJ (ZM m);have Hok:=Z9 hok;have HT:=Z9 htv;clear hok htv;cases ok
 ·obtain rfl:tv= .tuple #[.int .i64 0,.int .i64 0,.bool false]:=by rw [<-uh HT];unfold Ux;rw [uh Hok];rfl
  go_enter func314,ntmps314;go_wp2_with fail
  go_loopw [5] (fun i wr=>i= .int .i64 0/\Blk wr w.heap.size 32 (S6 a0 p0 a1 p1 a2 p2 a3 p3 a4 p4 m)/\Smy wr (.slice a0 m.rm.length p0) (.slice a1 m.gd.length p1) (.slice a2 m.sm.length p2) (.slice a3 m.dk.length p3) (.slice a4 m.pc.length p4) m/\Below w.heap.size w wr) (fun _ _=>1)
  case atStart=>exact ⟨rfl,uh kb0,uh Hv0,uh BB0⟩
  case round=>
   obtain ⟨rfl,hkb,hv,hb0⟩:=hrel;have kb:=Z9 hkb;have Hv:=Z9 hv;have BB:=Z9 hb0;clear hkb hv hb0 kb0 Hv0 BB0;obtain ⟨c0,c1,c2,c3,c4,c5⟩:=(uh kb).c6;by_cases hlt:0<m.sm.length
   ·have hlt1:(0:Int)<(m.sm.length:Int):=by omega
    go_wp2_with fail;refine ck (Ww (uh Hok) (uh Hv)) fun w1 hb=> ?_;replace BB:=bt BB hb;clear hb;go_wp2_with fail;refine Zz (v:= .tuple #[.int .i64 0,.int .i64 0,.bool false]) (by simp [results,results314,go_sem]) rfl ⟨rfl,uh BB⟩
   ·have hlt1:¬ ((0:Int)<(m.sm.length:Int)):=by omega
    go_wp2_with fail;refine Zz (v:= .tuple #[.int .i64 0,.int .i64 0,.bool false]) (by simp [results,results314,go_sem]) rfl ⟨rfl,uh BB⟩
 have hlo:=ZU (uh Hok);have HLo:=Z9 hlo;have HSa:=Z9 hlo.sane;have h12:=YH hlo;have h8:=V8 hlo;clear hlo;have HW:Hid (tv=CF (SX m m.sm.length)):=Z9 (by rw [<-uh HT];unfold Ux;rw [uh Hok];rfl);clear HT;go_enter func314,ntmps314;go_wp2_with fail
 go_loopw [5] (fun i wr=> ∃ k:Nat,k<=m.sm.length/\i= .int .i64 k/\SX m k=none/\Blk wr w.heap.size 32 (S6 a0 p0 a1 p1 a2 p2 a3 p3 a4 p4 m)/\Smy wr (.slice a0 m.rm.length p0) (.slice a1 m.gd.length p1) (.slice a2 m.sm.length p2) (.slice a3 m.dk.length p3) (.slice a4 m.pc.length p4) m/\Below w.heap.size w wr) (fun i _=>m.sm.length-(intOf i).toNat)
 case atStart=>exact ⟨0,ZA _,rfl,rfl,uh kb0,uh Hv0,uh BB0⟩
 case round=>
  obtain ⟨k,hk,rfl,hno,hkb,hv,hb0⟩:=hrel;have Hno:=Z9 hno;clear hno;have kb:=Z9 hkb;have Hv:=Z9 hv;have BB:=Z9 hb0;clear hkb hv hb0;clear kb0 Hv0 BB0;obtain ⟨c0,c1,c2,c3,c4,c5⟩:=(uh kb).c6;by_cases hlt:k<m.sm.length;rotate_left
  ·have hlt1:¬ ((k:Int)<(m.sm.length:Int)):=by omega
   obtain rfl:k=m.sm.length:=by omega
   obtain rfl:tv= .tuple #[.int .i64 0,.int .i64 0,.bool false]:=by rw [uh HW,uh Hno];rfl
   go_wp2_with fail;refine Zz (v:= .tuple #[.int .i64 0,.int .i64 0,.bool false]) (by simp [results,results314,go_sem]) rfl ⟨rfl,uh BB⟩
  have hlt1:(k:Int)<(m.sm.length:Int):=by omega
  go_wp2_with fail;refine ck (Ww (uh Hok) (uh Hv)) fun w1 hb=> ?_;replace Hv:=Z9 ((uh Hv).below hb);replace kb:=bl kb hb;replace BB:=bt BB hb;clear hb c0 c1 c2 c3 c4 c5;have HN:Hid (∀ w9,PE m k=w9->SX m (k+1)=w9.map fun x=>(k,x)):=Z9 (fun w9 e=>by unfold SX;rw [uh Hno,e]);have HMB:Hid (Qv m k=(ZL (Z8 m.sm k) && !WW (ZC m (k:Int)) 0 (Zo m.rm (Z8 m.sm k).2.1))):=Z9 rfl;obtain ⟨_,_,hse,_,_,r2⟩:=(uh Hv).sm;cases hse
  rcases r2 with e0 | ⟨sb,off,rfl,hbw,hcl⟩
  ·rw [e0] at hlt;simp at hlt
  obtain ⟨d0,d1,d2,d3,d4,d5,d6,d7,d8,d9,d10⟩:=Zu hcl hlt;clear hcl;obtain ⟨ps,hps⟩:=ZJ (ZL (Z8 m.sm k));obtain ⟨fi,hfi⟩:=ZJ (WW (ZC m (k:Int)) 0 (Zo m.rm (Z8 m.sm k).2.1));have HM2:Hid (Qv m k=(ps && !fi)):=Z9 (by rw [uh HMB,hps,hfi]);have HP0:=Z9 hps
  have HA1:Hid (ps=true->0<=(Z8 m.sm k).2.1/\(Z8 m.sm k).2.1<m.dk.length/\ -1<=(Z8 m.sm k).2.2.2.2.1/\(Z8 m.sm k).2.2.2.2.1<m.gd.length/\0<=(Z8 m.sm k).2.2.2.1/\(Z8 m.sm k).2.2.2.1<=255):=Z9 (fun e=>by
   have hp:=(uh HP0).trans e;have h1:=(uh HLo).at hlt hp;have h2:=(uh HLo).limits hlt (Dt hp);have h3:=h2.1;have h4:=h2.2.1;have a0:=h1.1;have a1:=h1.2.1;generalize Z8 m.sm k=s at *;obtain ⟨st,be,rk,my,gu,lo',hi',hd,ca,ut,wk⟩:=s;have h5:=Y2 h3
   exact ⟨a0,a1,h5.2.2.2.2.1.1,h4,by show 0<=my;omega,h5.2.2.2.1.2⟩)
  have HG:=Z9 (uh HSa).guilded.gd;have Hwa:=Z9 (fun (e:ps=true) (X:World) (hX:Smy X (.slice a0 m.rm.length p0) (.slice a1 m.gd.length p1) (.slice (some ⟨sb,off,none⟩) m.sm.length p2) (.slice a3 m.dk.length p3) (.slice a4 m.pc.length p4) m)=>Tx hX (uh HG) hlt (uh HA1 e).2.2.1 (uh HA1 e).2.2.2.1)
  have Hfo:=Z9 (fun (e:ps=true) (X:World) (hX:Smy X (.slice a0 m.rm.length p0) (.slice a1 m.gd.length p1) (.slice (some ⟨sb,off,none⟩) m.sm.length p2) (.slice a3 m.dk.length p3) (.slice a4 m.pc.length p4) m)=>VL (Z8 m.sm k).2.1 hX.rm (by
   have h9:=uh HA1 e;obtain ⟨j9,e9⟩:∃ j:Nat,(Z8 m.sm k).2.1=(j:Int):=⟨(Z8 m.sm k).2.1.toNat,by omega⟩
   rw [e9]
   exact (uh HSa).bench (by omega)))
  have HFv:Hid (ps=true->Vj (ZQ m.rm (Xl m.rm (Z8 m.sm k).2.1)).2=Zo m.rm (Z8 m.sm k).2.1):=Z9 (fun e=>(TQ (by
   have h9:=uh HA1 e;obtain ⟨j9,e9⟩:∃ j:Nat,(Z8 m.sm k).2.1=(j:Int):=⟨(Z8 m.sm k).2.1.toNat,by omega⟩
   rw [e9]
   exact (uh HSa).bench (by omega))).symm)
  have Hmy:=Z9 (fun (e:ps=true)=>(uh HA1 e).2.2.2.2);obtain ⟨⟨st,be,rk,my,gu,lo,hi,hd,ca,ut,wk⟩,hrk⟩:=ZJ (Z8 m.sm k);rw [hrk] at d0 d1 d2 d3 d4 d5 d6 d7 d8 d9 d10 hps hfi Hfo HFv;simp only at d0 d1 d2 d3 d4 d5 d6 d7 d8 d9 d10 hfi Hfo HFv;have Hps:=Z9 hps;have Hfi:=Z9 hfi;have Hrk:=Z9 hrk;clear hps hfi hrk HMB HP0;have hsbw:sb<w1.heap.size:=hbw;obtain ⟨c0,c1,c2,c3,c4,c5⟩:=(uh kb).c6;go_upto_region 5 with fail;clear d0 d1 d2 d3 d4 d5 d6 d7 d8 d9 d10 c0 c1 c2 c3 c4 c5;obtain ⟨WQ,hWQ,hba,ks⟩:=Zc w1 38 (I11 st be rk my gu lo hi hd ca ut wk);replace Hv:=Z9 ((uh Hv).below hba);replace kb:=bl kb hba;replace BB:=bt BB hba;clear hba hsbw hbw;rw [hWQ];clear hWQ;generalize w1.heap.size=sx at *;obtain ⟨c0,c1,c2,c3,c4,c5⟩:=(uh kb).c6;have y0:=ZX c0;have y1:=ZX c1;have y2:=ZX c2;have y3:=ZX c3;have y4:=ZX c4;have y5:=ZX c5;have s0:=ZX ((uh ks).cell (i:=0) (v:= .int .i64 st) rfl);have s1:=ZX ((uh ks).cell (i:=1) (v:= .int .i64 be) rfl);have s2:=ZX ((uh ks).cell (i:=2) (v:= .int .i64 rk) rfl);have s3:=ZX ((uh ks).cell (i:=3) (v:= .int .i64 my) rfl);have s4:=ZX ((uh ks).cell (i:=4) (v:= .int .i64 gu) rfl);have s5:=ZX ((uh ks).cell (i:=5) (v:= .int .i64 lo) rfl);have s6:=ZX ((uh ks).cell (i:=6) (v:= .int .i64 hi) rfl);have s7:=ZX ((uh ks).cell (i:=7) (v:= .int .i64 hd) rfl);have s8:=ZX ((uh ks).cell (i:=8) (v:= .int .i64 ca) rfl);have s9:=ZX ((uh ks).cell (i:=9) (v:= .int .i64 ut) rfl);have s10:=ZX ((uh ks).cell (i:=10) (v:= .int .i64 wk) rfl);have H1:=Z9 (fun (X:World)=>Yr (uh Hps) X);cases ps
  ·have hm0:PE m k=none:=by unfold PE;rw [uh HM2];rfl
   have Hm0:=Z9 hm0;clear hm0;go_wp2_with fail;refine wq ?_
   repeat (go_big_quiet_step (first | exact ZZ (uh H1 _)))
   refine wqn fun W9 hb=> ?_;replace Hv:=Z9 ((uh Hv).below hb);replace kb:=bl kb hb;replace BB:=bt BB hb;clear hb;go_wp2_with fail;go_roundw
   case rel=>exact ⟨k+1,by omega,by go_num,by rw [uh HN none (uh Hm0)];rfl,uh kb,uh Hv,uh BB⟩
   case measure=>exact ms
  have H2:=Z9 (fun (X:World) (hX:Below WQ.heap.size WQ X)=>uh Hwa rfl X ((uh Hv).below hX));have H3:=Z9 (fun (X:World) (hX:Below WQ.heap.size WQ X)=>uh Hfo rfl X ((uh Hv).below hX));rw [uh HFv rfl] at H3;have H4:=Z9 (fun (X:World)=>Calls.bool_of (Calls.same_below (VC (ZC m (k:Int)) 0 (Zo m.rm be) X)) (uh Hfi));have Hmy2:=Z9 (uh Hmy rfl);obtain ⟨wa,hwa⟩:=ZJ (ZC m (k:Int));obtain ⟨fo,hfo⟩:=ZJ (Zo m.rm be);have HWb:=Z9 (fun (X:World) (hX:Smy X (.slice a0 m.rm.length p0) (.slice a1 m.gd.length p1) (.slice (some ⟨sb,off,none⟩) m.sm.length p2) (.slice a3 m.dk.length p3) (.slice a4 m.pc.length p4) m)=>uh Hwa rfl X hX);rw [hwa] at H2 H4 HWb;rw [hfo] at H3 H4;have HWa:=Z9 hwa;clear hwa hfo Hwa Hfo HFv Hmy;cases fi;rotate_left
  ·have hm0:PE m k=none:=by unfold PE;rw [uh HM2];rfl
   have Hm0:=Z9 hm0;clear hm0;go_wp2_with fail;refine wq ?_
   repeat (go_big_quiet_step (first | exact ZZ (uh H1 _) | exact ZZ (uh H2 _ (Z1 _ _ _)) | exact ZZ (uh H3 _ (Z1 _ _ _)) | exact ZZ (uh H4 _)))
   refine wqn fun W9 hb=> ?_;replace Hv:=Z9 ((uh Hv).below hb);replace kb:=bl kb hb;replace BB:=bt BB hb;clear hb;go_wp2_with fail;go_roundw
   case rel=>exact ⟨k+1,by omega,by go_num,by rw [uh HN none (uh Hm0)];rfl,uh kb,uh Hv,uh BB⟩
   case measure=>exact ms
  have HMA:Hid (PE m k=Vg m k m.dk.length):=Z9 (by unfold PE;rw [uh HM2];rfl);go_wp2_with fail;refine wq ?_
  repeat (go_big_quiet_step (first | exact ZZ (uh H1 _) | exact ZZ (uh H2 _ (Z1 _ _ _)) | exact ZZ (uh H3 _ (Z1 _ _ _)) | exact ZZ (uh H4 _)))
  refine wqn fun W9 hb=> ?_;replace Hv:=Z9 ((uh Hv).below hb);replace kb:=bl kb hb;replace BB:=bt BB hb;clear hb c0 c1 c2 c3 c4 c5 s0 s1 s2 s3 s4 s5 s6 s7 s8 s9 s10 y0 y1 y2 y3 y4 y5 H1 H2 H3 H4 ks;go_wp2_with fail
  go_loopw [7] (fun i wr=> ∃ j:Nat,j<=m.dk.length/\i= .int .i64 j/\Vg m k j=none/\Blk wr w.heap.size 32 #[.slice a0 m.rm.length p0,.slice a1 m.gd.length p1,.slice (some ⟨sb,off,none⟩) m.sm.length p2,.slice a3 m.dk.length p3,.slice a4 m.pc.length p4,.int .i64 m.now]/\Smy wr (.slice a0 m.rm.length p0) (.slice a1 m.gd.length p1) (.slice (some ⟨sb,off,none⟩) m.sm.length p2) (.slice a3 m.dk.length p3) (.slice a4 m.pc.length p4) m/\Below w.heap.size w wr) (fun i _=>m.dk.length-(intOf i).toNat)
  case atStart=>exact ⟨0,ZA _,rfl,rfl,uh kb,uh Hv,uh BB⟩
  case round=>
   obtain ⟨j,hj,rfl,hno2,hkb,hv,hb0⟩:=hrel;have Hno2:=Z9 hno2;obtain ⟨WQ,rfl⟩:∃ x,x=wr:=⟨wr,rfl⟩
   clear hno2 kb Hv BB;have kb:=Z9 hkb;have Hv:=Z9 hv;have BB:=Z9 hb0;clear hkb hv hb0;obtain ⟨c0,c1,c2,c3,c4,c5⟩:=(uh kb).c6;by_cases hlj:j<m.dk.length;rotate_left
   ·have hlj1:¬ ((j:Int)<(m.dk.length:Int)):=by omega
    obtain rfl:j=m.dk.length:=by omega
    go_wp2_with fail;go_roundw
    case rel=>exact ⟨k+1,by omega,by go_num,by rw [uh HN none (by rw [uh HMA];exact uh Hno2)];rfl,uh kb,uh Hv,uh BB⟩
    case measure=>exact ms
   have hlj1:(j:Int)<(m.dk.length:Int):=by omega
   have HS:Hid (∀ q,LW m k j=q->Vg m k (j+1)=if q then some j else none):=Z9 (fun q e=>by unfold Vg;rw [uh Hno2,e]);obtain ⟨qi,hqi⟩:=ZJ (VJ m j);obtain ⟨qm,hqm⟩:=ZJ (Zk m (k:Int) j);obtain ⟨qf,hqf⟩:=ZJ (WW wa 0 (Zo m.rm (j:Int)));have HB2:Hid (LW m k j=(qi && (qm && qf))):=Z9 (by unfold LW;rw [hqi,hqm,uh HWa,hqf]);have hfov:=TQ ((uh HSa).bench hlj);have H1:=Z9 (fun (X:World) (hX:Below WQ.heap.size WQ X)=>Calls.bool_of (Ri ((uh Hv).below hX) hlj (by omega)) hqi);have H2:=Z9 (fun (X:World) (hX:Below WQ.heap.size WQ X)=>Calls.bool_of (TY ((uh Hv).below hX) hlt hlj (by omega) (uh Hmy2).1 (uh Hmy2).2) hqm);have H3:=Z9 (fun (X:World) (hX:Below WQ.heap.size WQ X)=>uh HWb X ((uh Hv).below hX));have H4:=Z9 (fun (X:World) (hX:Below WQ.heap.size WQ X)=>VL (j:Int) ((uh Hv).below hX).rm ((uh HSa).bench hlj));rw [<-hfov] at H4;have H5:=Z9 (fun (X:World)=>Calls.bool_of (Calls.same_below (VC wa 0 (Zo m.rm (j:Int)) X)) hqf);clear hqi hqm hqf hfov;generalize Zo m.rm (j:Int)=fj at *;have y0:=ZX c0;have y1:=ZX c1;have y2:=ZX c2;have y3:=ZX c3;have y4:=ZX c4;have y5:=ZX c5;cases qi
   ·go_wp2_with fail
    refine wq ?_
    repeat (go_big_quiet_step (first | exact ZZ (uh H1 _ (Z1 _ _ _)) | exact ZZ (uh H2 _ (Z1 _ _ _)) | exact ZZ (uh H3 _ (Z1 _ _ _)) | exact ZZ (uh H4 _ (Z1 _ _ _)) | exact ZZ (uh H5 _)))
    refine wqn fun W9 hb=> ?_;replace Hv:=Z9 ((uh Hv).below hb);replace kb:=bl kb hb;replace BB:=bt BB hb;clear hb;go_wp2_with fail;go_roundw
    case rel=>exact ⟨j+1,by omega,by go_num,by rw [uh HS _ (uh HB2)];rfl,uh kb,uh Hv,uh BB⟩
    case measure=>exact ms
   cases qm
   ·go_wp2_with fail
    refine wq ?_
    repeat (go_big_quiet_step (first | exact ZZ (uh H1 _ (Z1 _ _ _)) | exact ZZ (uh H2 _ (Z1 _ _ _)) | exact ZZ (uh H3 _ (Z1 _ _ _)) | exact ZZ (uh H4 _ (Z1 _ _ _)) | exact ZZ (uh H5 _)))
    refine wqn fun W9 hb=> ?_;replace Hv:=Z9 ((uh Hv).below hb);replace kb:=bl kb hb;replace BB:=bt BB hb;clear hb;go_wp2_with fail;go_roundw
    case rel=>exact ⟨j+1,by omega,by go_num,by rw [uh HS _ (uh HB2)];rfl,uh kb,uh Hv,uh BB⟩
    case measure=>exact ms
   cases qf
   ·go_wp2_with fail
    refine wq ?_
    repeat (go_big_quiet_step (first | exact ZZ (uh H1 _ (Z1 _ _ _)) | exact ZZ (uh H2 _ (Z1 _ _ _)) | exact ZZ (uh H3 _ (Z1 _ _ _)) | exact ZZ (uh H4 _ (Z1 _ _ _)) | exact ZZ (uh H5 _)))
    refine wqn fun W9 hb=> ?_;replace Hv:=Z9 ((uh Hv).below hb);replace kb:=bl kb hb;replace BB:=bt BB hb;clear hb;go_wp2_with fail;go_roundw
    case rel=>exact ⟨j+1,by omega,by go_num,by rw [uh HS _ (uh HB2)];rfl,uh kb,uh Hv,uh BB⟩
    case measure=>exact ms
   go_wp2_with fail;refine wq ?_
   repeat (go_big_quiet_step (first | exact ZZ (uh H1 _ (Z1 _ _ _)) | exact ZZ (uh H2 _ (Z1 _ _ _)) | exact ZZ (uh H3 _ (Z1 _ _ _)) | exact ZZ (uh H4 _ (Z1 _ _ _)) | exact ZZ (uh H5 _)))
   refine wqn fun W9 hb=> ?_;replace Hv:=Z9 ((uh Hv).below hb);replace kb:=bl kb hb;replace BB:=bt BB hb;clear hb
   have HR:Hid (tv= .tuple #[.int .i64 (k:Int),.int .i64 (j:Int),.bool true]):=Z9 (by
    rw [uh HW,AE (k:=k+1) (w:=k) (b:=j) (by rw [uh HN (some j) (by rw [uh HMA];exact BN (k:=j+1) (by rw [uh HS _ (uh HB2)];rfl) (by omega))];rfl) (by omega)]
    rfl)
   obtain rfl:=uh HR;go_wp2_with fail;refine Zz (v:= .tuple #[.int .i64 (k:Int),.int .i64 (j:Int),.bool true]) (by simp [results,results314,go_sem]) rfl ⟨rfl,uh BB⟩
set_option linter.unusedSimpArgs false
set_option maxRecDepth 100000
theorem Fc {b:Nat} {e:Z4} {t:List Z4} (h:atV m.sm b m.sm.length=e::t):WZ m b={ m with sm:=ZE (m.sm.set e.2.toNat (stS (Z8 m.sm e.2.toNat) 3)) t,dk:=m.dk.set b ((Z8 m.dk b).1,e.2,Zw (Z8 m.dk b).2.2 e.1) }:=by
 rw [Nd h,Bl h]
theorem DS {n₀:Nat}  {qs:List (ZY × Value)} {b:Nat} (hf:FullSmy n₀ w v0 v1 v2 v3 v4 m qs) (hL:Loose m) (hb:b<m.dk.length) :
  Calls prog 113 #[.agg #[v0,v1,v2,v3,v4,.int .i64 m.now],.int .i64 (b:Int)] w fun e w'=>e= .returned (.tuple #[])/\FullSmy n₀ w' v0 v1 v2 v3 v4 (WZ m b) qs/\Two v2.ownBlock v3.ownBlock w w':=by
 have h:=hf.smy;obtain ⟨a0,p0,a1,p1,a2,p2,a3,p3,a4,p4,rfl,rfl,rfl,rfl,rfl,_,_,_,_,_,_,_,_,_,_⟩:=h.five;have hl12:=YH hL;have heig:=hL.sane.eight;obtain ⟨g3,hga,hg3,hg3w,_,_⟩:=RecAt.view Zt (by omega) hf.dk rfl (by omega);cases hga;have L2:Hid (∀ i,(Value.slice a2 m.sm.length p2).ownBlock=some i->i<w.heap.size):=Z9 (fun i e=>(RecAt.lt hf.sm e).2);have HQ:=Z9 (FB hL (b:Int) m.sm.length (Z0 _));have HN:Hid (atV m.sm (b:Int) m.sm.length=[]->WZ m b={ m with dk:=m.dk.set b ((Z8 m.dk b).1,-1,(Z8 m.dk b).2.2) }):=Z9 (fun h=>Kv h);have HC:Hid (∀ e t,atV m.sm (b:Int) m.sm.length=e::t->WZ m b={ m with sm:=ZE (m.sm.set e.2.toNat (stS (Z8 m.sm e.2.toNat) 3)) t,dk:=m.dk.set b ((Z8 m.dk b).1,e.2,Zw (Z8 m.dk b).2.2 e.1) }):=Z9 (fun e t h=>Fc h)
 have Hm:Hid (∀ x ∈ atV m.sm (b:Int) m.sm.length,∃ j:Nat,j<m.sm.length/\x.2=(j:Int)):=Z9 (fun x hx=>by
  obtain ⟨j,hj,_,_,rfl⟩:=(XQ m.sm (b:Int) x m.sm.length).1 hx
  exact ⟨j,hj,rfl⟩)
 have Hql:=Z9 (R7 m.sm (b:Int) m.sm.length);have HF:=Z9 hf;have HL:=Z9 hL;have hb1:(b:Int)<(m.dk.length:Int):=by omega
 clear h hf hL hg3;go_enter func113,ntmps113;go_upto_region 1 with fail;have hba:Below w.heap.size w (w.alloc (.cells (S6 a0 p0 a1 p1 a2 p2 (some ⟨g3,0,none⟩) p3 a4 p4 m) 32)):=ba _ _;have kb:Hid (Blk (w.alloc (.cells (S6 a0 p0 a1 p1 a2 p2 (some ⟨g3,0,none⟩) p3 a4 p4 m) 32)) w.heap.size 32 (S6 a0 p0 a1 p1 a2 p2 (some ⟨g3,0,none⟩) p3 a4 p4 m)):=Z9 (Blk.new _ _ _);replace HF:=Z9 ((uh HF).below hba);have Tw:Hid (Two (Value.slice a2 m.sm.length p2).ownBlock (some g3) w (w.alloc (.cells (S6 a0 p0 a1 p1 a2 p2 (some ⟨g3,0,none⟩) p3 a4 p4 m) 32))):=Z9 (Two.of_below hba);have hgW:g3<(w.alloc (.cells (S6 a0 p0 a1 p1 a2 p2 (some ⟨g3,0,none⟩) p3 a4 p4 m) 32)).heap.size:=Y0 hg3w hba.size;have hRW:w.heap.size<(w.alloc (.cells (S6 a0 p0 a1 p1 a2 p2 (some ⟨g3,0,none⟩) p3 a4 p4 m) 32)).heap.size:=(uh kb).lt;clear hba;generalize w.alloc (.cells (S6 a0 p0 a1 p1 a2 p2 (some ⟨g3,0,none⟩) p3 a4 p4 m) 32)=W at *;have H2:Hid ((Value.slice a2 m.sm.length p2).ownBlock ≠ some w.heap.size):=Z9 (fun e=>by have:=uh L2 _ e;omega);have H3:Hid (some g3 ≠ some w.heap.size):=Z9 (fun e=>by cases e;omega);have Low2:Hid (∀ i,(Value.slice a2 m.sm.length p2).ownBlock=some i->i<W.heap.size):=Z9 (fun i e=>by have:=uh L2 i e;omega);obtain ⟨c0,c1,c2,c3,c4,c5⟩:=(uh kb).c6;go_wp2_with fail;refine (G8 (b:Int) (uh HF).smy (uh HL)).mono ?_;rintro e w1 ⟨v',rfl,he,hb⟩;clear c0 c1 c2 c3 c4 c5;generalize atV m.sm (b:Int) m.sm.length=q at *;obtain ⟨qa,qc,rfl⟩:=EntsAt.shape he;have HE:=Z9 he;replace HF:=Z9 ((uh HF).below hb);replace kb:=bl kb hb;replace Tw:=Z9 ((uh Tw).trans (Two.of_below hb));have hgw1:g3<w1.heap.size:=Y0 hgW hb.size;have hw1:=hb.size;clear he hb;go_wp2_with fail;refine ck (NN (uh HE).pc) fun w2 hb=> ?_;replace HE:=Z9 ((uh HE).later hb);replace HF:=Z9 ((uh HF).below hb);replace kb:=bl kb hb;replace Tw:=Z9 ((uh Tw).trans (Two.of_below hb));have hgw2:g3<w2.heap.size:=Y0 hgw1 hb.size;have hw2:W.heap.size<=w2.heap.size:=Xv hw1 hb.size;clear hb hw1 hgw1;obtain ⟨⟨op,wh,mk⟩,hrk⟩:=ZJ (Z8 m.dk b);rw [hrk] at HN HC;simp only at HN HC;have Hrk:=Z9 hrk;clear hrk;have Hset:Hid (∀ d,Z8 (m.dk.set b d) b=d):=Z9 (fun d=>by rw [ZD hb,if_pos rfl]);cases q with
 | nil=>
  have hfv:Se []=((0,0),false):=QF rfl;rw [hfv];clear HC hfv;go_upto_region 4 with fail;have hba:Below w2.heap.size w2 (w2.alloc (.cells #[.int .i64 0,.int .i64 0] 78)):=ba _ _;replace HF:=Z9 ((uh HF).below hba);replace kb:=bl kb hba;replace Tw:=Z9 ((uh Tw).trans (Two.of_below hba));clear hba;generalize w2.alloc (.cells #[.int .i64 0,.int .i64 0] 78)=X at *;obtain ⟨_,hga,_,_,hc3,hz3⟩:=RecAt.view Zt (by omega) (uh HF).dk rfl (by omega);cases hga;have d1:=hc3 b hb 1 _ rfl;rw [uh Hrk] at d1;have f1:=hz3 (b*3+1);have c3:=(uh kb).cell (i:=3) (v:= .slice (some ⟨g3,0,none⟩) m.dk.length p3) rfl;have hput:=(uh HF).putD rfl (j:=b) (i:=1) hb (by omega) (.int .i64 (-1)) (op,-1,mk) (by rw [uh Hrk];rfl);have HP:=Z9 hput;clear hput hc3 hz3;go_wp2_with fail;refine Zz (results_none rfl _ _ _) rfl ?_;exact ⟨rfl,by rw [uh HN (by first | rfl | trivial)];exact uh HP,(uh Tw).trans (Two.of_set X (.inr rfl) _ _)⟩
 | cons e t=>
  have hfv:Se (e::t)=(e,true):=LU (uh HQ) (by simp);obtain ⟨i0,hi0,hie⟩:=uh Hm e (by simp);obtain ⟨hd0,ei⟩:=e;simp only at hie;subst hie;rw [hfv];have hcons:=uh HC (hd0,(i0:Int)) t rfl;simp only [show ((i0:Int)).toNat=i0 by simp] at hcons;have Hcons:=Z9 hcons;have hi1:(i0:Int)<(m.sm.length:Int):=by omega
  have htl:t.length<=12:=by have:=uh Hql;simp at this;omega
  have Hmt:Hid (∀ x ∈ t,∃ j:Nat,j<m.sm.length/\x.2=(j:Int)):=Z9 (fun x hx=>uh Hm x (List.mem_cons_of_mem _ hx));clear HN HC hfv hcons Hm HQ Hql;obtain ⟨n1,hn1⟩:∃ n,n=((hd0,(i0:Int))::t).length:=⟨_,rfl⟩
  rw [<-hn1] at HE;rw [<-hn1];clear hn1;dsimp only;go_upto_region 5 with fail;have hba:Below w2.heap.size w2 (w2.alloc (.cells #[.int .i64 hd0,.int .i64 (i0:Int)] 78)):=ba _ _;have ke:Hid (Blk (w2.alloc (.cells #[.int .i64 hd0,.int .i64 (i0:Int)] 78)) w2.heap.size 78 #[.int .i64 hd0,.int .i64 (i0:Int)]):=Z9 (Blk.new _ _ _);replace HE:=Z9 ((uh HE).later hba);replace HF:=Z9 ((uh HF).below hba);replace kb:=bl kb hba;replace Tw:=Z9 ((uh Tw).trans (Two.of_below hba));have hgX:w2.heap.size<(w2.alloc (.cells #[.int .i64 hd0,.int .i64 (i0:Int)] 78)).heap.size:=(uh ke).lt;clear hba;generalize w2.alloc (.cells #[.int .i64 hd0,.int .i64 (i0:Int)] 78)=X at *;obtain ⟨g2,hga,_,_,hc2,hz2⟩:=RecAt.view ZT (by omega) (uh HF).sm rfl (by omega);cases hga;have hg2W:=uh Low2 g2 rfl;have hn23:g2 ≠ g3:=fun e=>(uh HF).a23 g2 rfl (by rw [e];rfl);have s0:=hc2 i0 hi0 0 _ rfl;have f0:=hz2 (i0*11);have hput:=(uh HF).putS rfl (j:=i0) (i:=0) hi0 (by omega) (.int .i64 3) (stS (Z8 m.sm i0) 3) rfl;simp only [Nat.add_zero] at s0 hput;have HF1:=Z9 hput;have c2:=(uh kb).cell (i:=2) (v:= .slice (some ⟨g2,0,none⟩) m.sm.length p2) rfl;have e1:=(uh ke).cell (i:=1) (v:= .int .i64 (i0:Int)) rfl;clear hput hc2 hz2;have ht:Two (some g2) (some g3) X (X.setCell ⟨g2,i0*11,none⟩ (.int .i64 3)):=Two.of_set X (.inl rfl) _ _;have h2R:(some g2:Option Nat) ≠ some w.heap.size:=uh H2;have h3R:(some g3:Option Nat) ≠ some w.heap.size:=uh H3;have h2E:(some g2:Option Nat) ≠ some w2.heap.size:=fun e=>by cases e;omega
  have h3E:(some g3:Option Nat) ≠ some w2.heap.size:=fun e=>by cases e;omega
  replace kb:=Z9 ((uh kb).two ht h2R h3R);replace ke:=Z9 ((uh ke).two ht h2E h3E);replace HE:=Z9 (Two.ents (uh HE) ht (fun i e=>by cases e;omega) (fun i e=>by cases e;omega));have Tw1:Hid (Two (some g2) (some g3) w (X.setCell ⟨g2,i0*11,none⟩ (.int .i64 3))):=Z9 ((uh Tw).trans ht);clear ht Tw HF;go_upto_region 6 with fail;clear s0 f0 c2 e1;generalize X.setCell ⟨g2,i0*11,none⟩ (.int .i64 3)=X1 at *;obtain ⟨ss,hss⟩:=ZJ (m.sm.set i0 (stS (Z8 m.sm i0) 3));have hsl:ss.length=m.sm.length:=by rw [<-hss];simp
  rw [hss] at Hcons HF1;clear hss;obtain ⟨_,hga,_,_,hc3,hz3⟩:=RecAt.view Zt (by omega) (uh HF1).dk rfl (by show 0<m.dk.length;omega);cases hga;have d1:=hc3 b hb 1 _ rfl;have hrk2:Z8 ({ m with sm:=ss } : Z6).dk b=(op,wh,mk):=uh Hrk;rw [hrk2] at d1;have f1:=hz3 (b*3+1);have c3:=(uh kb).cell (i:=3) (v:= .slice (some ⟨g3,0,none⟩) m.dk.length p3) rfl;have e1:=(uh ke).cell (i:=1) (v:= .int .i64 (i0:Int)) rfl;have hput:=(uh HF1).putD rfl (j:=b) (i:=1) hb (by omega) (.int .i64 (i0:Int)) (op,(i0:Int),mk) (by rw [hrk2];rfl);have HF2:=Z9 hput;clear hput hc3 hz3 hrk2;have ht:Two (some g2) (some g3) X1 (X1.setCell ⟨g3,b*3+1,none⟩ (.int .i64 (i0:Int))):=Two.of_set X1 (.inr rfl) _ _;replace kb:=Z9 ((uh kb).two ht h2R h3R);replace ke:=Z9 ((uh ke).two ht h2E h3E);replace HE:=Z9 (Two.ents (uh HE) ht (fun i e=>by cases e;omega) (fun i e=>by cases e;omega));have Tw2:Hid (Two (some g2) (some g3) w (X1.setCell ⟨g3,b*3+1,none⟩ (.int .i64 (i0:Int)))):=Z9 ((uh Tw1).trans ht);clear ht Tw1 HF1;go_upto_region 7 with fail;clear d1 f1 c3 e1;generalize X1.setCell ⟨g3,b*3+1,none⟩ (.int .i64 (i0:Int))=X2 at *;have hD1:(m.dk.set b (op,(i0:Int),mk)).length=m.dk.length:=by simp
  obtain ⟨_,hga,_,_,hc3,hz3⟩:=RecAt.view Zt (by omega) (uh HF2).dk hD1.symm (by show 0<(m.dk.set b _).length;omega);cases hga;have hrk2:Z8 ({ m with sm:=ss,dk:=m.dk.set b (op,(i0:Int),mk) } : Z6).dk b=(op,(i0:Int),mk):=uh Hset _;have d2:=hc3 b (by show b<(m.dk.set b _).length;omega) 2 _ rfl;rw [hrk2] at d2;simp only at d2;have f2:=hz3 (b*3+2);have c3:=(uh kb).cell (i:=3) (v:= .slice (some ⟨g3,0,none⟩) m.dk.length p3) rfl;have e0:=(uh ke).cell (i:=0) (v:= .int .i64 hd0) rfl;have hput:=(uh HF2).putD hD1.symm (j:=b) (i:=2) (by show b<(m.dk.set b _).length;omega) (by omega) (.int .i64 (Zw mk hd0)) (op,(i0:Int),(Zw mk hd0)) (by rw [hrk2];rfl);simp only [List.set_set] at hput;clear hc3 hz3 hrk2;refine ZI (S:=fun w'=>w'.cell? ⟨w.heap.size,3,none⟩=some (.slice (some ⟨g3,0,none⟩) m.dk.length p3)/\w'.cell? ⟨g3,b*3+2,none⟩=some (.int .i64 mk)/\w'.cell? ⟨w2.heap.size,0,none⟩=some (.int .i64 hd0)/\w'.frozen? ⟨g3,b*3+2,none⟩=false) (by kernel_rfl) (Wz _ _) (by kernel_rfl) ⟨c3,d2,e0,f2⟩ (fun hHeld=> ?_);simp only [WA,WB,YL,YF,Nat.zero_add,Nat.reduceAdd];have hbd:Below X2.heap.size X2 X2.drew:=(Z3 _ _).drew
  iterate 11 refine tz ?_
  refine rd 11 rfl (fun K hK=> ?_);go_simp;refine (Md mk hd0 _).mono ?_;rintro e9 w9 ⟨rfl,hb9'⟩;have hb9:Below X2.heap.size X2 w9:=hbd.trans hb9';clear hb9' hbd;replace kb:=Z9 ((uh kb).below hb9 (uh kb).lt);replace ke:=Z9 ((uh ke).below hb9 (uh ke).lt);replace HE:=Z9 ((uh HE).later hb9);replace Tw2:=Z9 ((uh Tw2).trans (Two.of_below hb9));have HF3:Hid (FullSmy n₀ w9 (.slice a0 m.rm.length p0) (.slice a1 m.gd.length p1) (.slice (some ⟨g2,0,none⟩) m.sm.length p2) (.slice (some ⟨g3,0,none⟩) m.dk.length p3) (.slice a4 m.pc.length p4) { m with sm:=ss,dk:=m.dk.set b (op,(i0:Int),mk) } qs):=Z9 ((uh HF2).below hb9);clear hput;obtain ⟨_,hga,_,_,hc3,hz3⟩:=RecAt.view Zt (by omega) (uh HF3).dk hD1.symm (by show 0<(m.dk.set b _).length;omega);cases hga;have hrk2:Z8 ({ m with sm:=ss,dk:=m.dk.set b (op,(i0:Int),mk) } : Z6).dk b=(op,(i0:Int),mk):=uh Hset _;have d3:=hc3 b (by show b<(m.dk.set b _).length;omega) 2 _ rfl;rw [hrk2] at d3;simp only at d3;have f3:=hz3 (b*3+2);have hput:=(uh HF3).putD hD1.symm (j:=b) (i:=2) (by show b<(m.dk.set b _).length;omega) (by omega) (.int .i64 (Zw mk hd0)) (op,(i0:Int),(Zw mk hd0)) (by rw [hrk2];rfl);simp only [List.set_set] at hput;have HF4:=Z9 hput;clear hput hc3 hz3 hrk2;refine hK.out _ _ ⟨(uh kb).cell (i:=3) rfl,d3,(uh ke).cell (i:=0) rfl,f3⟩ (fun hHeld=> ?_);clear hK K c3 e0 d2 f2 hb9
  (try simp only [Act.put,sA,sZ,sS])
  refine tp 12 ?_;refine tp 13 ?_;refine wpAnyH_done (by kernel_rfl) ?_ _;refine ZK rfl rfl ?_;go_simp;clear hHeld d3 f3;have ht:Two (some g2) (some g3) w9 (w9.setCell ⟨g3,b*3+2,none⟩ (.int .i64 (Zw mk hd0))):=Two.of_set w9 (.inr rfl) _ _;replace kb:=Z9 ((uh kb).two ht h2R h3R);replace HE:=Z9 (Two.ents (uh HE) ht (fun i e=>by cases e;omega) (fun i e=>by cases e;omega));have Tw4:Hid (Two (some g2) (some g3) w (w9.setCell ⟨g3,b*3+2,none⟩ (.int .i64 (Zw mk hd0)))):=Z9 ((uh Tw2).trans ht);clear ht Tw2 HF3 HF2 ke;generalize w9.setCell ⟨g3,b*3+2,none⟩ (.int .i64 (Zw mk hd0))=X4 at *;obtain ⟨ds,hds⟩:=ZJ (m.dk.set b (op,(i0:Int),(Zw mk hd0)));rw [hds] at Hcons HF4;clear hds hD1;have h2X:g2<X4.heap.size:=by have h9:=(uh HF4).sm;exact (RecAt.lt h9 rfl).2
  have h3X:g3<X4.heap.size:=by have h9:=(uh HF4).dk;exact (RecAt.lt h9 rfl).2
  go_wp2_with fail;refine (Li (uh HE).pc (by omega)).mono ?_;rintro e w5 ⟨v5,rfl,he5,hb5⟩;obtain ⟨ya,yc,rfl⟩:=EntsAt.shape he5;have HE5:=Z9 he5;have hX4:w.heap.size<X4.heap.size:=(uh kb).lt;replace kb:=Z9 ((uh kb).below hb5 (uh kb).lt);replace HF4:=Z9 ((uh HF4).below hb5);replace Tw4:=Z9 ((uh Tw4).trans (Two.of_below hb5));clear he5 hb5 HE;go_wp2_with fail
  go_loopw [54] (fun i wi=> ∃ j:Nat,j<=t.length/\i= .int .i64 j/\FullSmy n₀ wi (.slice a0 m.rm.length p0) (.slice a1 m.gd.length p1) (.slice (some ⟨g2,0,none⟩) m.sm.length p2) (.slice (some ⟨g3,0,none⟩) m.dk.length p3) (.slice a4 m.pc.length p4) { m with sm:=ZE ss (t.take j),dk:=ds } qs/\Two (some g2) (some g3) w5 wi) (fun i _=>t.length-(intOf i).toNat)
  case atStart=>exact ⟨0,ZA _,rfl,by simpa [ZE] using uh HF4,Two.refl _ _ _⟩
  case round=>
   obtain ⟨j,hj,rfl,hf3,htw3⟩:=hrel;have HF5:=Z9 hf3;have Tw5:=Z9 htw3;have K5:=Z9 ((uh kb).two htw3 h2R h3R);have HE6:=Z9 (Two.ents (uh HE5) htw3 (fun i e=>by cases e;exact h2X) (fun i e=>by cases e;exact h3X));have hzr:=htw3.size;clear hf3 htw3;by_cases hjl:j<t.length
   ·obtain ⟨_,_,hqe,_,_,hr⟩:=EntsAt.pc (uh HE6)
    cases hqe
    rcases hr with e0 | ⟨eb,eo,rfl,hbw,hcl⟩
    ·rw [e0] at hjl;simp at hjl
    obtain ⟨d0,d1⟩:=hcl j hjl;obtain ⟨i2,hi2,hie⟩:=uh Hmt _ (WR hjl);rw [hie] at d1;have Htk:Hid (ZE ss (t.take (j+1))=(ZE ss (t.take j)).set i2 (stS (Z8 (ZE ss (t.take j)) i2) 2)):=Z9 (by rw [It hjl,P0,hie];simp);obtain ⟨hh,hhh⟩:=ZJ ((Z7 t j).1);rw [hhh] at d0;have hjl1:(j:Int)<(t.length:Int):=by omega
    clear hcl hie hhh;go_upto_region 11 with fail;clear d0 d1;obtain ⟨Y,hY,hba,ke⟩:=Zc wr 78 #[.int .i64 hh,.int .i64 (i2:Int)];replace K5:=bl K5 hba;replace HF5:=Z9 ((uh HF5).below hba);replace Tw5:=Z9 ((uh Tw5).trans (Two.of_below hba));clear hba;rw [hY];clear hY;have hwl:(ZE ss (t.take j)).length=m.sm.length:=by rw [XC,hsl]
    obtain ⟨_,hga,_,_,hc2,hz2⟩:=RecAt.view ZT (by omega) (uh HF5).sm hwl.symm (by show 0<(ZE ss (t.take j)).length;omega);cases hga;have s0:=hc2 i2 (by show i2<(ZE ss (t.take j)).length;omega) 0 _ rfl;have f0:=hz2 (i2*11);have hput:=(uh HF5).putS hwl.symm (j:=i2) (i:=0) (by show i2<(ZE ss (t.take j)).length;omega) (by omega) (.int .i64 2) (stS (Z8 (ZE ss (t.take j)) i2) 2) rfl;simp only [Nat.add_zero] at s0 hput;have HF6:=Z9 hput;have c2:=(uh K5).cell (i:=2) (v:= .slice (some ⟨g2,0,none⟩) m.sm.length p2) rfl;have e1:=(uh ke).cell (i:=1) (v:= .int .i64 (i2:Int)) rfl;have hi3:(i2:Int)<(m.sm.length:Int):=by omega
    clear hput hc2 hz2 hwl;go_wp2_with fail;go_roundw
    case rel=>exact ⟨j+1,by omega,by go_num,by rw [uh Htk];exact uh HF6,(uh Tw5).trans (Two.of_set _ (.inl rfl) _ _)⟩
    case measure=>exact ms
   ·obtain rfl:j=t.length:=by omega
    rw [List.take_length] at HF5;go_wp2_with fail
    go_end0
    exact ⟨rfl,by rw [uh Hcons];exact uh HF5,(uh Tw4).trans (uh Tw5)⟩
theorem Mg (w:World) (v0 v1 v2 v3 v4:Value) (m:Z6) (h:Smy w v0 v1 v2 v3 v4 m) :
  Calls prog 55 #[.agg #[v0,v1,v2,v3,v4,.int .i64 m.now]] w fun e w'=> ∃ u0 u1 u2 u3 u4 rs,e= .returned (.agg #[u0,u1,u2,u3,u4,.int .i64 (Xr m).now])/\FullSmy w.heap.size w' u0 u1 u2 u3 u4 (Xr m) rs/\Below w.heap.size w w':=by
 obtain ⟨M,hM⟩:=ZJ (Xr m);rw [hM];have HM:=Z9 hM;clear hM;have Hv0:=Z9 h;obtain ⟨a0,p0,a1,p1,a2,p2,a3,p3,a4,p4,rfl,rfl,rfl,rfl,rfl,_,_,_,_,_,_,_,_,_,_⟩:=h.five;clear h;obtain ⟨ok,hok⟩:=ZJ (YA m);have Hok:=Z9 hok;have Hok2:Hid (VK m=ok):=Z9 (by rw [Qd];exact hok);clear hok;go_enter func55,ntmps55;go_wp2_with fail;obtain ⟨W,hW,kb,kr,BB⟩:=VP w 32 (S6 a0 p0 a1 p1 a2 p2 a3 p3 a4 p4 m) 32 E6;have Hv:=Z9 ((uh Hv0).below (uh BB));rw [hW];clear hW;refine (QV (uh Hv)).mono ?_;rw [uh Hok2];rintro e w1 ⟨rfl,hb⟩;replace Hv:=Z9 ((uh Hv).below hb);replace kb:=bl kb hb;replace kr:=bl kr hb;replace BB:=bt BB hb;clear hb;cases ok
 ·
  obtain rfl:M=W7:=by rw [<-uh HM];unfold Xr;rw [uh Hok];rfl
  obtain ⟨o0,o1,o2,o3,o4,o5⟩:=(uh kr).c6;obtain ⟨f0,f1,f2,f3,f4,f5⟩:=(uh kr).f6;go_wp2_with fail;refine Zz (v:= .agg E6) (by simp [results,results55,go_sem, *]) rfl ⟨_,_,_,_,_,[],rfl,Um _ _,?_⟩
  iterate 6 (refine Yv ?_ (by show _<=w.heap.size+1;omega) _)
  exact uh BB
 obtain rfl:M=ZH m:=by rw [<-uh HM];unfold Xr;rw [uh Hok];rfl
 have hlo:=Ro (uh Hok);have HLo:=Z9 hlo;have HFew:=Z9 (Sd hlo);clear hlo;obtain ⟨c0,c1,c2,c3,c4,c5⟩:=(uh kb).c6;go_wp2_with fail;clear c0 c1 c2 c3 c4 c5;have hWs:w.heap.size+2<=w1.heap.size:=by have:=(uh kr).lt;omega
 refine (OP (uh Hv) (uh HFew)).mono ?_;rintro e w2 ⟨y0,y1,y2,y3,y4,oq,rfl,ho,hb⟩;have k9:=ho.smy;obtain ⟨b0,q0,b1,q1,b2,q2,b3,q3,b4,q4,rfl,rfl,rfl,rfl,rfl,_,_,_,_,_,_,_,_,_,_⟩:=k9.five;replace Hv:=Z9 ((uh Hv).below hb);replace kb:=bl kb hb;replace kr:=bl kr hb;replace BB:=bt BB hb;have HO:=Z9 (ho.mono hWs);have LO:Hid (∀ k,V7 (.slice b0 m.rm.length q0) (.slice b1 m.gd.length q1) (.slice b2 m.sm.length q2) (.slice b3 m.dk.length q3) (.slice b4 m.pc.length q4) oq k->w.heap.size+2<=k/\k<w2.heap.size):=Z9 (fun k e=>(uh HO).own e);have hsz9:=hb.size;clear ho hb k9;go_upto_region 4 with fail;obtain ⟨W2,hW2,hb,ko⟩:=Zc w2 32 (S6 b0 q0 b1 q1 b2 q2 b3 q3 b4 q4 m);replace Hv:=Z9 ((uh Hv).below hb);replace kb:=bl kb hb;replace kr:=bl kr hb;replace BB:=bt BB hb;replace HO:=Z9 ((uh HO).below hb);have hob:w.heap.size+2<=w2.heap.size:=Xv hWs hsz9;clear hb hsz9 hWs;rw [hW2];clear hW2;generalize w2.heap.size=ob at *;have x3:=(uh ko).cell (i:=3) (v:= .slice b3 m.dk.length q3) rfl;go_wp2_with fail;clear x3
 go_loopw [4,14] (fun u i wr=> ∃ k:Nat,k<=m.dk.length/\i= .int .i64 k/\FullSmy (w.heap.size+2) wr (.slice b0 m.rm.length q0) (.slice b1 m.gd.length q1) (.slice b2 m.sm.length q2) (.slice b3 m.dk.length q3) (.slice b4 m.pc.length q4) (YU m k) oq/\Two (Value.slice b2 m.sm.length q2).ownBlock (Value.slice b3 m.dk.length q3).ownBlock W2 wr) (fun _ i _=>m.dk.length-(intOf i).toNat)
 case atStart=>exact ⟨0,ZA _,rfl,uh HO,Two.refl _ _ _⟩
 case round=>
  obtain ⟨k,hk,rfl,hf1,htw⟩:=hrel;have H2:(Value.slice b2 m.sm.length q2).ownBlock ≠ some ob:=fun e=>by have:=(uh LO _ (.inr (.inr (.inr (.inl e))))).2;omega
  have H3:(Value.slice b3 m.dk.length q3).ownBlock ≠ some ob:=fun e=>by have:=(uh LO _ (.inr (.inr (.inr (.inr (.inl e)))))).2;omega
  have ko1:=Z9 ((uh ko).two htw H2 H3);have HF1:=Z9 hf1;have Tw:=Z9 htw;clear hf1 htw H2 H3;have hnow:(YU m k).now=m.now:=(Zv m k).2.2.2.1;have hdl:(YU m k).dk.length=m.dk.length:=(Zv m k).2.2.2.2.2;by_cases hlt:k<m.dk.length
  ·have hlt1:(k:Int)<(m.dk.length:Int):=by omega
   have hc:=DS (b:=k) (uh HF1) (Ix (uh HLo) k hk) (by omega);rw [hnow] at hc;have Hc:=Z9 hc;clear hc hnow hdl;obtain ⟨x0,x1,x2,x3,x4,x5⟩:=(uh ko1).c6;go_wp2_with fail;clear x0 x1 x2 x3 x4 x5;refine (uh Hc).mono ?_;rintro e w5 ⟨rfl,hf5,ht5⟩;have HF5:=Z9 hf5;have T5:=Z9 ((uh Tw).trans ht5);clear hf5 ht5;go_wp2_with fail;go_roundw
   case rel=>exact ⟨k+1,by omega,by go_num,uh HF5,uh T5⟩
   case measure=>exact ms
  ·
   obtain rfl:k=m.dk.length:=by omega
   replace kr:=Z9 ((uh kr).two (uh Tw) (fun e=>by have:=(uh LO _ (.inr (.inr (.inr (.inl e))))).1;omega) (fun e=>by have:=(uh LO _ (.inr (.inr (.inr (.inr (.inl e)))))).1;omega));replace BB:=Z9 ((uh BB).trans ((uh Tw).below (uh BB).size (fun k e=>by have:=(uh LO k (.inr (.inr (.inr (.inl e))))).1;omega) (fun k e=>by have:=(uh LO k (.inr (.inr (.inr (.inr (.inl e)))))).1;omega)));obtain ⟨x0,x1,x2,x3,x4,x5⟩:=(uh ko1).c6;obtain ⟨o0,o1,o2,o3,o4,o5⟩:=(uh kr).c6;obtain ⟨f0,f1,f2,f3,f4,f5⟩:=(uh kr).f6;have Hnow:Hid ((ZH m).now=m.now):=Z9 hnow;clear hnow hdl;go_wp2_with fail;refine Zz (v:= .agg (S6 b0 q0 b1 q1 b2 q2 b3 q3 b4 q4 m)) (by simp [results,results55,go_sem, *]) rfl ⟨_,_,_,_,_,oq,by rw [uh Hnow],?_,?_⟩
   ·iterate 6 (refine FullSmy.set_off ?_ (fun k e=>by have:=(uh LO k e).1;omega) _ _)
    exact (uh HF1).mono (by omega)
   ·iterate 6 (refine Yv ?_ (by show _<=w.heap.size+1;omega) _)
    exact uh BB
end Go.Proofs.YtgdpaigcmoifbaaGreat
