/- Part 27 of what the proof rests on. No condition but those that a theorem names. -/
import Derived.Test.YtmdgokjeobnnaaaGreatDoorXt14
import Derived.Test.YtmdgokjeobnnaaaGreatDoorXt21
import Derived.Test.YtmdgokjeobnnaaaGreatDoorXt23
namespace Go.Proofs.YtmdgokjeobnnaaaGreatDoor
open Go.ChangeShapes Go.WideShapes Go.ChangeAt Go.RowKit Go.Sort Go.Proofs.Tryz
set_option linter.unusedVariables false
set_option maxRecDepth 100000
set_option maxHeartbeats 8000000 in
theorem Q4 {w:World} {v0 v1 v2 v3 v4:Value} {m:Z7} (h:Smy w v0 v1 v2 v3 v4 m) :
  cB 145 #[.agg #[v0,v1,v2,v3,v4,.int .i64 m.now]] w (KC (V8 m)):=by
 have Hv0:=Z9 (h.alloc (.cells #[v0,v1,v2,v3,v4,.int .i64 m.now] 40));obtain ⟨a0,p0,a1,p1,a2,p2,a3,p3,a4,p4,rfl,rfl,rfl,rfl,rfl,_,_,_,_,_,_,_,_,_,_⟩:=h.five;clear h;obtain ⟨BB0,kb0⟩:=Xr w 40 (S6 a0 p0 a1 p1 a2 p2 a3 p3 a4 p4 m);obtain ⟨tv,htv⟩:=ZE (KC (V8 m));rw [htv];obtain ⟨ok,hok⟩:=ZE (ZJ m);have Hok:=Z9 hok;have HT:=Z9 htv;clear hok htv;cases ok
 ·obtain rfl:tv= .tuple #[.int .i64 0,.int .i64 0,.bool false]:=by rw [<-uh HT];unfold V8;rw [uh Hok];rfl
  go_enter func145,ntmps145;go_wp2_with fail
  go_loopw [5] (fun i wr=>i= .int .i64 0/\Blk wr w.heap.size 40 (S6 a0 p0 a1 p1 a2 p2 a3 p3 a4 p4 m)/\Smy wr (.slice a0 m.rm.length p0) (.slice a1 m.gd.length p1) (.slice a2 m.sm.length p2) (.slice a3 m.dk.length p3) (.slice a4 m.pc.length p4) m/\Below w.heap.size w wr) (fun _ _=>1)
  case atStart=>exact ⟨rfl,uh kb0,uh Hv0,uh BB0⟩
  case round=>
   obtain ⟨rfl,hkb,hv,hb0⟩:=hrel;have kb:=Z9 hkb;have Hv:=Z9 hv;have BB:=Z9 hb0;clear hkb hv hb0 kb0 Hv0 BB0;obtain ⟨c0,c1,c2,c3,c4,c5⟩:=(uh kb).c6;by_cases hlt:0<m.sm.length
   ·have hlt1:(0:Int)<(m.sm.length:Int):=by omega
    go_wp2_with fail;refine ck (Tv (uh Hok) (uh Hv)) fun w1 hb=> ?_;replace BB:=bt BB hb;clear hb;go_wp2_with fail;refine Zz (v:= .tuple #[.int .i64 0,.int .i64 0,.bool false]) (by simp [results,results145,go_sem]) rfl ⟨rfl,uh BB⟩
   ·have hlt1:¬ ((0:Int)<(m.sm.length:Int)):=by omega
    go_wp2_with fail;refine Zz (v:= .tuple #[.int .i64 0,.int .i64 0,.bool false]) (by simp [results,results145,go_sem]) rfl ⟨rfl,uh BB⟩
 have hlo:=ZI (uh Hok);have HLo:=Z9 hlo;have HSa:=Z9 hlo.sane;have h12:=YF hlo;have h8:=WY hlo;clear hlo;have HW:Hid (tv=KC (U8 m m.sm.length)):=Z9 (by rw [<-uh HT];unfold V8;rw [uh Hok];rfl);clear HT;go_enter func145,ntmps145;go_wp2_with fail
 go_loopw [5] (fun i wr=> ∃ k:Nat,k<=m.sm.length/\i= .int .i64 k/\U8 m k=none/\Blk wr w.heap.size 40 (S6 a0 p0 a1 p1 a2 p2 a3 p3 a4 p4 m)/\Smy wr (.slice a0 m.rm.length p0) (.slice a1 m.gd.length p1) (.slice a2 m.sm.length p2) (.slice a3 m.dk.length p3) (.slice a4 m.pc.length p4) m/\Below w.heap.size w wr) (fun i _=>m.sm.length-(intOf i).toNat)
 case atStart=>exact ⟨0,Zi _,rfl,rfl,uh kb0,uh Hv0,uh BB0⟩
 case round=>
  obtain ⟨k,hk,rfl,hno,hkb,hv,hb0⟩:=hrel;have Hno:=Z9 hno;clear hno;have kb:=Z9 hkb;have Hv:=Z9 hv;have BB:=Z9 hb0;clear hkb hv hb0;clear kb0 Hv0 BB0;obtain ⟨c0,c1,c2,c3,c4,c5⟩:=(uh kb).c6;by_cases hlt:k<m.sm.length;rotate_left
  ·have hlt1:¬ ((k:Int)<(m.sm.length:Int)):=by omega
   obtain rfl:k=m.sm.length:=by omega
   obtain rfl:tv= .tuple #[.int .i64 0,.int .i64 0,.bool false]:=by rw [uh HW,uh Hno];rfl
   go_wp2_with fail;refine Zz (v:= .tuple #[.int .i64 0,.int .i64 0,.bool false]) (by simp [results,results145,go_sem]) rfl ⟨rfl,uh BB⟩
  have hlt1:(k:Int)<(m.sm.length:Int):=by omega
  go_wp2_with fail;refine ck (Tv (uh Hok) (uh Hv)) fun w1 hb=> ?_;replace Hv:=Z9 ((uh Hv).below hb);replace kb:=bl kb hb;replace BB:=bt BB hb;clear hb c0 c1 c2 c3 c4 c5;have HN:Hid (∀ w9,Tb m k=w9->U8 m (k+1)=w9.map fun x=>(k,x)):=Z9 (fun w9 e=>by unfold U8;rw [uh Hno,e]);have HMB:Hid (TH m k=(ZP (Z8 m.sm k) && !Wb (Yn m (k:Int)) 0 (YP m.rm (Z8 m.sm k).2.1))):=Z9 rfl;obtain ⟨_,_,hse,_,_,r2⟩:=(uh Hv).sm;cases hse
  rcases r2 with e0 | ⟨sb,off,rfl,hbw,hcl⟩
  ·rw [e0] at hlt;simp at hlt
  obtain ⟨d0,d1,d2,d3,d4,d5,d6,d7,d8,d9,d10⟩:=YM hcl hlt;clear hcl;obtain ⟨ps,hps⟩:=ZE (ZP (Z8 m.sm k));obtain ⟨fi,hfi⟩:=ZE (Wb (Yn m (k:Int)) 0 (YP m.rm (Z8 m.sm k).2.1));have HM2:Hid (TH m k=(ps && !fi)):=Z9 (by rw [uh HMB,hps,hfi]);have HP0:=Z9 hps
  have HA1:Hid (ps=true->0<=(Z8 m.sm k).2.1/\(Z8 m.sm k).2.1<m.dk.length/\ -1<=(Z8 m.sm k).2.2.2.2.1/\(Z8 m.sm k).2.2.2.2.1<m.gd.length/\0<=(Z8 m.sm k).2.2.2.1/\(Z8 m.sm k).2.2.2.1<=255):=Z9 (fun e=>by
   have hp:=(uh HP0).trans e;have h1:=(uh HLo).at hlt hp;have h2:=(uh HLo).limits hlt (Lj hp);have h3:=h2.1;have h4:=h2.2.1;have a0:=h1.1;have a1:=h1.2.1;generalize Z8 m.sm k=s at *;obtain ⟨st,be,rk,my,gu,lo',hi',hd,ca,ut,wk⟩:=s;have h5:=Zj h3
   exact ⟨a0,a1,h5.2.2.2.2.1.1,h4,by show 0<=my;omega,h5.2.2.2.1.2⟩)
  have HG:=Z9 (uh HSa).guilded.gd;have Hwa:=Z9 (fun (e:ps=true) (X:World) (hX:Smy X (.slice a0 m.rm.length p0) (.slice a1 m.gd.length p1) (.slice (some ⟨sb,off,none⟩) m.sm.length p2) (.slice a3 m.dk.length p3) (.slice a4 m.pc.length p4) m)=>Ua hX (uh HG) hlt (uh HA1 e).2.2.1 (uh HA1 e).2.2.2.1)
  have Hfo:=Z9 (fun (e:ps=true) (X:World) (hX:Smy X (.slice a0 m.rm.length p0) (.slice a1 m.gd.length p1) (.slice (some ⟨sb,off,none⟩) m.sm.length p2) (.slice a3 m.dk.length p3) (.slice a4 m.pc.length p4) m)=>Wi (Z8 m.sm k).2.1 hX.rm (by
   have h9:=uh HA1 e;obtain ⟨j9,e9⟩:∃ j:Nat,(Z8 m.sm k).2.1=(j:Int):=⟨(Z8 m.sm k).2.1.toNat,by omega⟩
   rw [e9]
   exact (uh HSa).bench (by omega)))
  have HFv:Hid (ps=true->V4 (ZO m.rm (WS m.rm (Z8 m.sm k).2.1)).2=YP m.rm (Z8 m.sm k).2.1):=Z9 (fun e=>(T3 (by
   have h9:=uh HA1 e;obtain ⟨j9,e9⟩:∃ j:Nat,(Z8 m.sm k).2.1=(j:Int):=⟨(Z8 m.sm k).2.1.toNat,by omega⟩
   rw [e9]
   exact (uh HSa).bench (by omega))).symm)
  have Hmy:=Z9 (fun (e:ps=true)=>(uh HA1 e).2.2.2.2);obtain ⟨⟨st,be,rk,my,gu,lo,hi,hd,ca,ut,wk⟩,hrk⟩:=ZE (Z8 m.sm k);rw [hrk] at d0 d1 d2 d3 d4 d5 d6 d7 d8 d9 d10 hps hfi Hfo HFv;simp only at d0 d1 d2 d3 d4 d5 d6 d7 d8 d9 d10 hfi Hfo HFv;have Hps:=Z9 hps;have Hfi:=Z9 hfi;have Hrk:=Z9 hrk;clear hps hfi hrk HMB HP0;have hsbw:sb<w1.heap.size:=hbw;obtain ⟨c0,c1,c2,c3,c4,c5⟩:=(uh kb).c6;go_upto_region 5 with fail;clear d0 d1 d2 d3 d4 d5 d6 d7 d8 d9 d10 c0 c1 c2 c3 c4 c5;obtain ⟨WQ,hWQ,hba,ks⟩:=YW w1 79 (I11 st be rk my gu lo hi hd ca ut wk);replace Hv:=Z9 ((uh Hv).below hba);replace kb:=bl kb hba;replace BB:=bt BB hba;clear hba hsbw hbw;rw [hWQ];clear hWQ;generalize w1.heap.size=sx at *;obtain ⟨c0,c1,c2,c3,c4,c5⟩:=(uh kb).c6;have y0:=ZX c0;have y1:=ZX c1;have y2:=ZX c2;have y3:=ZX c3;have y4:=ZX c4;have y5:=ZX c5;have s0:=ZX ((uh ks).cell (i:=0) (v:= .int .i64 st) rfl);have s1:=ZX ((uh ks).cell (i:=1) (v:= .int .i64 be) rfl);have s2:=ZX ((uh ks).cell (i:=2) (v:= .int .i64 rk) rfl);have s3:=ZX ((uh ks).cell (i:=3) (v:= .int .i64 my) rfl);have s4:=ZX ((uh ks).cell (i:=4) (v:= .int .i64 gu) rfl);have s5:=ZX ((uh ks).cell (i:=5) (v:= .int .i64 lo) rfl);have s6:=ZX ((uh ks).cell (i:=6) (v:= .int .i64 hi) rfl);have s7:=ZX ((uh ks).cell (i:=7) (v:= .int .i64 hd) rfl);have s8:=ZX ((uh ks).cell (i:=8) (v:= .int .i64 ca) rfl);have s9:=ZX ((uh ks).cell (i:=9) (v:= .int .i64 ut) rfl);have s10:=ZX ((uh ks).cell (i:=10) (v:= .int .i64 wk) rfl);have H1:=Z9 (fun (X:World)=>YQ (uh Hps) X);cases ps
  ·have hm0:Tb m k=none:=by unfold Tb;rw [uh HM2];rfl
   have Hm0:=Z9 hm0;clear hm0;go_wp2_with fail;refine wq ?_
   repeat (go_big_quiet_step (first | exact ZW (uh H1 _)))
   refine wqn fun W9 hb=> ?_;replace Hv:=Z9 ((uh Hv).below hb);replace kb:=bl kb hb;replace BB:=bt BB hb;clear hb;go_wp2_with fail;go_roundw
   case rel=>exact ⟨k+1,by omega,by go_num,by rw [uh HN none (uh Hm0)];rfl,uh kb,uh Hv,uh BB⟩
   case measure=>exact ms
  have H2:=Z9 (fun (X:World) (hX:Below WQ.heap.size WQ X)=>uh Hwa rfl X ((uh Hv).below hX));have H3:=Z9 (fun (X:World) (hX:Below WQ.heap.size WQ X)=>uh Hfo rfl X ((uh Hv).below hX));rw [uh HFv rfl] at H3;have H4:=Z9 (fun (X:World)=>Calls.bool_of (Calls.same_below (VZ (Yn m (k:Int)) 0 (YP m.rm be) X)) (uh Hfi));have Hmy2:=Z9 (uh Hmy rfl);obtain ⟨wa,hwa⟩:=ZE (Yn m (k:Int));obtain ⟨fo,hfo⟩:=ZE (YP m.rm be);have HWb:=Z9 (fun (X:World) (hX:Smy X (.slice a0 m.rm.length p0) (.slice a1 m.gd.length p1) (.slice (some ⟨sb,off,none⟩) m.sm.length p2) (.slice a3 m.dk.length p3) (.slice a4 m.pc.length p4) m)=>uh Hwa rfl X hX);rw [hwa] at H2 H4 HWb;rw [hfo] at H3 H4;have HWa:=Z9 hwa;clear hwa hfo Hwa Hfo HFv Hmy;cases fi;rotate_left
  ·have hm0:Tb m k=none:=by unfold Tb;rw [uh HM2];rfl
   have Hm0:=Z9 hm0;clear hm0;go_wp2_with fail;refine wq ?_
   repeat (go_big_quiet_step (first | exact ZW (uh H1 _) | exact ZW (uh H2 _ (Z0 _ _ _)) | exact ZW (uh H3 _ (Z0 _ _ _)) | exact ZW (uh H4 _)))
   refine wqn fun W9 hb=> ?_;replace Hv:=Z9 ((uh Hv).below hb);replace kb:=bl kb hb;replace BB:=bt BB hb;clear hb;go_wp2_with fail;go_roundw
   case rel=>exact ⟨k+1,by omega,by go_num,by rw [uh HN none (uh Hm0)];rfl,uh kb,uh Hv,uh BB⟩
   case measure=>exact ms
  have HMA:Hid (Tb m k=Wu m k m.dk.length):=Z9 (by unfold Tb;rw [uh HM2];rfl);go_wp2_with fail;refine wq ?_
  repeat (go_big_quiet_step (first | exact ZW (uh H1 _) | exact ZW (uh H2 _ (Z0 _ _ _)) | exact ZW (uh H3 _ (Z0 _ _ _)) | exact ZW (uh H4 _)))
  refine wqn fun W9 hb=> ?_;replace Hv:=Z9 ((uh Hv).below hb);replace kb:=bl kb hb;replace BB:=bt BB hb;clear hb c0 c1 c2 c3 c4 c5 s0 s1 s2 s3 s4 s5 s6 s7 s8 s9 s10 y0 y1 y2 y3 y4 y5 H1 H2 H3 H4 ks;go_wp2_with fail
  go_loopw [7] (fun i wr=> ∃ j:Nat,j<=m.dk.length/\i= .int .i64 j/\Wu m k j=none/\Blk wr w.heap.size 40 #[.slice a0 m.rm.length p0,.slice a1 m.gd.length p1,.slice (some ⟨sb,off,none⟩) m.sm.length p2,.slice a3 m.dk.length p3,.slice a4 m.pc.length p4,.int .i64 m.now]/\Smy wr (.slice a0 m.rm.length p0) (.slice a1 m.gd.length p1) (.slice (some ⟨sb,off,none⟩) m.sm.length p2) (.slice a3 m.dk.length p3) (.slice a4 m.pc.length p4) m/\Below w.heap.size w wr) (fun i _=>m.dk.length-(intOf i).toNat)
  case atStart=>exact ⟨0,Zi _,rfl,rfl,uh kb,uh Hv,uh BB⟩
  case round=>
   obtain ⟨j,hj,rfl,hno2,hkb,hv,hb0⟩:=hrel;have Hno2:=Z9 hno2;obtain ⟨WQ,rfl⟩:∃ x,x=wr:=⟨wr,rfl⟩
   clear hno2 kb Hv BB;have kb:=Z9 hkb;have Hv:=Z9 hv;have BB:=Z9 hb0;clear hkb hv hb0;obtain ⟨c0,c1,c2,c3,c4,c5⟩:=(uh kb).c6;by_cases hlj:j<m.dk.length;rotate_left
   ·have hlj1:¬ ((j:Int)<(m.dk.length:Int)):=by omega
    obtain rfl:j=m.dk.length:=by omega
    go_wp2_with fail;go_roundw
    case rel=>exact ⟨k+1,by omega,by go_num,by rw [uh HN none (by rw [uh HMA];exact uh Hno2)];rfl,uh kb,uh Hv,uh BB⟩
    case measure=>exact ms
   have hlj1:(j:Int)<(m.dk.length:Int):=by omega
   have HS:Hid (∀ q,Qi m k j=q->Wu m k (j+1)=if q then some j else none):=Z9 (fun q e=>by unfold Wu;rw [uh Hno2,e]);obtain ⟨qi,hqi⟩:=ZE (WO m j);obtain ⟨qm,hqm⟩:=ZE (Yi m (k:Int) j);obtain ⟨qf,hqf⟩:=ZE (Wb wa 0 (YP m.rm (j:Int)));have HB2:Hid (Qi m k j=(qi && (qm && qf))):=Z9 (by unfold Qi;rw [hqi,hqm,uh HWa,hqf]);have hfov:=T3 ((uh HSa).bench hlj);have H1:=Z9 (fun (X:World) (hX:Below WQ.heap.size WQ X)=>Calls.bool_of (RV ((uh Hv).below hX) hlj (by omega)) hqi);have H2:=Z9 (fun (X:World) (hX:Below WQ.heap.size WQ X)=>Calls.bool_of (UM ((uh Hv).below hX) hlt hlj (by omega) (uh Hmy2).1 (uh Hmy2).2) hqm);have H3:=Z9 (fun (X:World) (hX:Below WQ.heap.size WQ X)=>uh HWb X ((uh Hv).below hX));have H4:=Z9 (fun (X:World) (hX:Below WQ.heap.size WQ X)=>Wi (j:Int) ((uh Hv).below hX).rm ((uh HSa).bench hlj));rw [<-hfov] at H4;have H5:=Z9 (fun (X:World)=>Calls.bool_of (Calls.same_below (VZ wa 0 (YP m.rm (j:Int)) X)) hqf);clear hqi hqm hqf hfov;generalize YP m.rm (j:Int)=fj at *;have y0:=ZX c0;have y1:=ZX c1;have y2:=ZX c2;have y3:=ZX c3;have y4:=ZX c4;have y5:=ZX c5;cases qi
   ·go_wp2_with fail
    refine wq ?_
    repeat (go_big_quiet_step (first | exact ZW (uh H1 _ (Z0 _ _ _)) | exact ZW (uh H2 _ (Z0 _ _ _)) | exact ZW (uh H3 _ (Z0 _ _ _)) | exact ZW (uh H4 _ (Z0 _ _ _)) | exact ZW (uh H5 _)))
    refine wqn fun W9 hb=> ?_;replace Hv:=Z9 ((uh Hv).below hb);replace kb:=bl kb hb;replace BB:=bt BB hb;clear hb;go_wp2_with fail;go_roundw
    case rel=>exact ⟨j+1,by omega,by go_num,by rw [uh HS _ (uh HB2)];rfl,uh kb,uh Hv,uh BB⟩
    case measure=>exact ms
   cases qm
   ·go_wp2_with fail
    refine wq ?_
    repeat (go_big_quiet_step (first | exact ZW (uh H1 _ (Z0 _ _ _)) | exact ZW (uh H2 _ (Z0 _ _ _)) | exact ZW (uh H3 _ (Z0 _ _ _)) | exact ZW (uh H4 _ (Z0 _ _ _)) | exact ZW (uh H5 _)))
    refine wqn fun W9 hb=> ?_;replace Hv:=Z9 ((uh Hv).below hb);replace kb:=bl kb hb;replace BB:=bt BB hb;clear hb;go_wp2_with fail;go_roundw
    case rel=>exact ⟨j+1,by omega,by go_num,by rw [uh HS _ (uh HB2)];rfl,uh kb,uh Hv,uh BB⟩
    case measure=>exact ms
   cases qf
   ·go_wp2_with fail
    refine wq ?_
    repeat (go_big_quiet_step (first | exact ZW (uh H1 _ (Z0 _ _ _)) | exact ZW (uh H2 _ (Z0 _ _ _)) | exact ZW (uh H3 _ (Z0 _ _ _)) | exact ZW (uh H4 _ (Z0 _ _ _)) | exact ZW (uh H5 _)))
    refine wqn fun W9 hb=> ?_;replace Hv:=Z9 ((uh Hv).below hb);replace kb:=bl kb hb;replace BB:=bt BB hb;clear hb;go_wp2_with fail;go_roundw
    case rel=>exact ⟨j+1,by omega,by go_num,by rw [uh HS _ (uh HB2)];rfl,uh kb,uh Hv,uh BB⟩
    case measure=>exact ms
   go_wp2_with fail;refine wq ?_
   repeat (go_big_quiet_step (first | exact ZW (uh H1 _ (Z0 _ _ _)) | exact ZW (uh H2 _ (Z0 _ _ _)) | exact ZW (uh H3 _ (Z0 _ _ _)) | exact ZW (uh H4 _ (Z0 _ _ _)) | exact ZW (uh H5 _)))
   refine wqn fun W9 hb=> ?_;replace Hv:=Z9 ((uh Hv).below hb);replace kb:=bl kb hb;replace BB:=bt BB hb;clear hb
   have HR:Hid (tv= .tuple #[.int .i64 (k:Int),.int .i64 (j:Int),.bool true]):=Z9 (by
    rw [uh HW,IN (k:=k+1) (w:=k) (b:=j) (by rw [uh HN (some j) (by rw [uh HMA];exact JG (k:=j+1) (by rw [uh HS _ (uh HB2)];rfl) (by omega))];rfl) (by omega)]
    rfl)
   obtain rfl:=uh HR;go_wp2_with fail;refine Zz (v:= .tuple #[.int .i64 (k:Int),.int .i64 (j:Int),.bool true]) (by simp [results,results145,go_sem]) rfl ⟨rfl,uh BB⟩
end Go.Proofs.YtmdgokjeobnnaaaGreatDoor
