/- Part 12 of what the proof rests on. No condition but those that a theorem names. -/
import Derived.Test.YtmdgokjeobnnaaaGreatDoorXt07
set_option maxHeartbeats 8000000
set_option maxRecDepth 100000
namespace Go.Proofs.YtmdgokjeobnnaaaGreatDoor
open Go.ChangeShapes Go.WideShapes Go.ChangeAt Go.RowKit Go.Sort Go.Proofs.Tryz
set_option linter.unusedVariables false
variable {w w' w0 w1 w2 w3 w₀ wr W W' X A B C : World} {v v0 v1 v2 v3 v4 u u0 u1 u2 u3 u4 : Value} {m : Z7}
theorem XS  {rs:List Z5} {q:Bool} (hq:YB rs=q) (h:IsRooms w v rs):cB 60 #[.agg #[v]] w (.bool q):=by
 have:=V0 h;rw [hq] at this;exact this
theorem X9  {ps:List Zy} {q:Bool} (hq:YD ps=q) (h:WD w v ps):cB 61 #[v] w (.bool q):=by
 have:=SA h;rw [hq] at this;exact this
theorem TQ  {rs:List Z5} {n:Int} (hn:ZV rs=n) (h:IsRooms w v rs) (ha:GL rs):cB 62 #[.agg #[v]] w (.int .i64 n):=by
 have:=Ug h ha;rw [hn] at this;exact this
theorem IH {x lo hi:Int} {q:Bool} (hq:inB x lo hi=q) (w:World):cB 27 #[.int .i64 x,.int .i64 lo,.int .i64 hi] w (.bool q):=by
 have:=Z4 x lo hi w;rw [hq] at this;exact this.mono fun e w' ⟨h1,h2⟩=>⟨h1,by rw [h2];exact Z2 _ _⟩
theorem P0 {st be rk my gu lo hi hd ca ut wk:Int} {q:Bool} (hq:Zs (st,be,rk,my,gu,lo,hi,hd,ca,ut,wk)=q) (w:World):cB 63 #[.agg (I11 st be rk my gu lo hi hd ca ut wk)] w (.bool q):=by
 have:=ZA st be rk my gu lo hi hd ca ut wk w;rw [hq] at this;exact this
theorem YQ {st be rk my gu lo hi hd ca ut wk:Int} {q:Bool} (hq:ZP (st,be,rk,my,gu,lo,hi,hd,ca,ut,wk)=q) (w:World):cB 43 #[.agg (I11 st be rk my gu lo hi hd ca ut wk)] w (.bool q):=by
 have:=Qr st be rk my gu lo hi hd ca ut wk w;rw [hq] at this;exact this
theorem S9 {s i:Int} {q:Bool} (hq:VI s i=q) (h0:0<=s) (h1:s<=255) (h2:0<=i) (h3:i<=7) (w:World):cB 64 #[.int .i64 s,.int .i64 i] w (.bool q):=by
 have:=Pm s i w h0 h1 h2 h3;rw [hq] at this;exact this.mono fun e w' ⟨h1,h2⟩=>⟨h1,by rw [h2];exact Z2 _ _⟩
theorem V9 {h k:Int} {q:Bool} (hq:Xo h k=q) (w:World):cB 65 #[.int .i64 h,.int .i64 k] w (.bool q):=by
 have:=QZ h k w;rw [hq] at this;exact this.mono fun e w' ⟨h1,h2⟩=>⟨h1,by rw [h2];exact Z2 _ _⟩
theorem UL  (h:Smy w v0 v1 v2 v3 v4 m) :
  cB 42 #[.agg #[v0,v1,v2,v3,v4,.int .i64 m.now]] w (.bool (Yw m)):=by
 have Hv:=Z9 (h.alloc (.cells #[v0,v1,v2,v3,v4,.int .i64 m.now] 40));obtain ⟨h0,h1,h2,h3,h4⟩:=h;obtain ⟨a0,p0,rfl,hc0,hm0,r0⟩:=h0;obtain ⟨a1,p1,rfl,hc1,hm1,_⟩:=h1;obtain ⟨a2,p2,rfl,hc2,hm2,r2⟩:=h2;obtain ⟨a3,p3,rfl,hc3,hm3,r3⟩:=h3;obtain ⟨a4,p4,rfl,hc4,hm4,r4⟩:=h4;have R0:=Z9 r0;have R2:=Z9 r2;have R3:=Z9 r3;have R4:=Z9 r4;clear r0 r2 r3 r4;go_enter func42,ntmps42;go_wp2_with fail;obtain ⟨W,hW,BB,kb⟩:=NO w 40 (S6 a0 p0 a1 p1 a2 p2 a3 p3 a4 p4 m);rw [hW]
 (try rw [hW] at Hv);clear hW
 have c0:=ZX ((uh kb).cell (i:=0) (v:= .slice a0 m.rm.length p0) rfl);have c1:=ZX ((uh kb).cell (i:=1) (v:= .slice a1 m.gd.length p1) rfl);have c2:=ZX ((uh kb).cell (i:=2) (v:= .slice a2 m.sm.length p2) rfl);have c3:=ZX ((uh kb).cell (i:=3) (v:= .slice a3 m.dk.length p3) rfl);have c4:=ZX ((uh kb).cell (i:=4) (v:= .slice a4 m.pc.length p4) rfl);have c5:=ZX ((uh kb).cell (i:=5) (v:= .int .i64 m.now) rfl);cases h0:YB m.rm
 ·have Q0:=Z9 h0
  clear h0;refine wq ?_
  repeat (go_big_quiet_step (first | exact ZW (XS (uh Q0) ((uh Hv).below (Z0 _ _ _)).rm)))
  refine wqn fun W1 hb=> ?_;clear c0 c1 c2 c3 c4 c5;go_wp2_with fail;go_ret;exact ⟨ZU (Xa (by unfold YI;rw [uh Q0];rfl)).symm,(uh BB).trans (hb.mono (uh BB).size)⟩
 have Q0:=Z9 h0;have QA:=Z9 (O7 h0);clear h0;cases h1:YD m.gd
 ·have Q1:=Z9 h1
  clear h1;refine wq ?_
  repeat (go_big_quiet_step (first | exact ZW (XS (uh Q0) ((uh Hv).below (Z0 _ _ _)).rm) | exact ZW (X9 (uh Q1) ((uh Hv).below (Z0 _ _ _)).gd)))
  refine wqn fun W1 hb=> ?_;clear c0 c1 c2 c3 c4 c5;go_wp2_with fail;go_ret;exact ⟨ZU (Xa (by unfold YI;rw [uh Q0,uh Q1];rfl)).symm,(uh BB).trans (hb.mono (uh BB).size)⟩
 have Q1:=Z9 h1;clear h1;by_cases h2:12<m.sm.length
 ·have h2i:(12:Int)<(m.sm.length:Int):=by omega
  have h2d:decide ((12:Int)<(m.sm.length:Int))=true:=Wa h2i;refine wq ?_
  repeat (go_big_quiet_step (first | exact ZW (XS (uh Q0) ((uh Hv).below (Z0 _ _ _)).rm) | exact ZW (X9 (uh Q1) ((uh Hv).below (Z0 _ _ _)).gd)))
  refine wqn fun W1 hb=> ?_;clear c0 c1 c2 c3 c4 c5;go_wp2_with fail;go_ret;exact ⟨ZU (Xa (by unfold YI;rw [uh Q0,uh Q1];simp;intro h9;omega)).symm,(uh BB).trans (hb.mono (uh BB).size)⟩
 have h2i:¬ (12:Int)<(m.sm.length:Int):=by omega
 have h2d:decide ((12:Int)<(m.sm.length:Int))=false:=Ya h2i;obtain ⟨n,Q3⟩:=WG (ZV m.rm);by_cases h3:(m.dk.length:Int)=n;rotate_left
 ·have h3b:((m.dk.length:Int) !=n)=true:=by simpa using h3
  refine wq ?_
  repeat (go_big_quiet_step (first | exact ZW (XS (uh Q0) ((uh Hv).below (Z0 _ _ _)).rm) | exact ZW (X9 (uh Q1) ((uh Hv).below (Z0 _ _ _)).gd) | exact ZW (TQ (uh Q3) ((uh Hv).below (Z0 _ _ _)).rm (uh QA))))
  refine wqn fun W1 hb=> ?_;clear c0 c1 c2 c3 c4 c5;go_wp2_with fail;go_ret;exact ⟨ZU (Xa (by unfold YI;rw [uh Q0,uh Q1,uh Q3];simp [h3])).symm,(uh BB).trans (hb.mono (uh BB).size)⟩
 have h3b:((m.dk.length:Int) !=n)=false:=by simpa using h3
 by_cases h4:m.pc.length=m.rm.length;rotate_left
 ·have h4b:((m.pc.length:Int) !=(m.rm.length:Int))=true:=by simp;omega
  refine wq ?_
  repeat (go_big_quiet_step (first | exact ZW (XS (uh Q0) ((uh Hv).below (Z0 _ _ _)).rm) | exact ZW (X9 (uh Q1) ((uh Hv).below (Z0 _ _ _)).gd) | exact ZW (TQ (uh Q3) ((uh Hv).below (Z0 _ _ _)).rm (uh QA))))
  refine wqn fun W1 hb=> ?_;clear c0 c1 c2 c3 c4 c5;go_wp2_with fail;go_ret;exact ⟨ZU (Xa (by unfold YI;rw [uh Q0,uh Q1];simp [h4])).symm,(uh BB).trans (hb.mono (uh BB).size)⟩
 have h4b:((m.pc.length:Int) !=(m.rm.length:Int))=false:=by simp;omega
 cases h5:inB m.now 0 1000000
 ·have Q5:=Z9 h5
  clear h5;refine wq ?_
  repeat (go_big_quiet_step (first | exact ZW (XS (uh Q0) ((uh Hv).below (Z0 _ _ _)).rm) | exact ZW (X9 (uh Q1) ((uh Hv).below (Z0 _ _ _)).gd) | exact ZW (TQ (uh Q3) ((uh Hv).below (Z0 _ _ _)).rm (uh QA)) | exact ZW (IH (uh Q5) _)))
  refine wqn fun W1 hb=> ?_;clear c0 c1 c2 c3 c4 c5;go_wp2_with fail;go_ret;exact ⟨ZU (Xa (by unfold YI;rw [uh Q0,uh Q1,uh Q3,uh Q5];simp)).symm,(uh BB).trans (hb.mono (uh BB).size)⟩
 have Q5:=Z9 h5;clear h5;have QH:Hid (YI m=true):=Z9 (by unfold YI;rw [uh Q0,uh Q1,uh Q3,uh Q5];simp [h3,h4];omega);refine wq ?_
 repeat (go_big_quiet_step (first | exact ZW (XS (uh Q0) ((uh Hv).below (Z0 _ _ _)).rm) | exact ZW (X9 (uh Q1) ((uh Hv).below (Z0 _ _ _)).gd) | exact ZW (TQ (uh Q3) ((uh Hv).below (Z0 _ _ _)).rm (uh QA)) | exact ZW (IH (uh Q5) _)))
 refine wqn fun W1 hb=> ?_;clear c0 c1 c2 c3 c4 c5;replace kb:=bl kb hb;replace Hv:=Z9 ((uh Hv).below hb);replace BB:=bt BB hb;clear hb;have H3:=Z9 h3;have H4:=Z9 h4;clear Hv Q0 Q1 Q3 Q5 QA h2d h3b h4b h3 h4;have c3:=(uh kb).cell (i:=3) (v:= .slice a3 m.dk.length p3) rfl;go_wp2_with fail;clear c3
 go_loopw [3,4] (fun o i wr=> ∃ k:Nat,k<=m.dk.length/\o= .bool (Us m k)/\i= .int .i64 k/\Vz m k=true/\Blk wr w.heap.size 40 (S6 a0 p0 a1 p1 a2 p2 a3 p3 a4 p4 m)/\Below w.heap.size w wr) (fun _ i _=>m.dk.length-(intOf i).toNat)
 case atStart=>exact ⟨0,Zi _,rfl,rfl,rfl,uh kb,uh BB⟩
 case round=>
  obtain ⟨k,hk,rfl,rfl,hup,kb1,hb1⟩:=hrel;clear kb BB;have kb:=Z9 kb1;have BB:=Z9 hb1;have Hup:=Z9 hup;clear kb1 hb1 hup;obtain ⟨ob,hob⟩:=ZE (Us m k);rw [hob];have Hob:=Z9 hob;clear hob;have c3:=(uh kb).cell (i:=3) (v:= .slice a3 m.dk.length p3) rfl;by_cases hlt:k<m.dk.length
  ·rcases uh R3 with e0 | ⟨b,off,rfl,hbw,hcl⟩
   ·rw [e0] at hlt;simp at hlt
   obtain ⟨d0,d1,d2⟩:=Yv hcl hlt;rw [<-(uh BB).cell (p:=⟨b,off+k*3,none⟩) hbw] at d0;rw [<-(uh BB).cell (p:=⟨b,off+k*3+2,none⟩) hbw] at d2;clear d1 hcl;have HU:=Z9 (show Vz m (k+1)=(Vz m k && SW (Z8 m.dk k)) from Ox k);have HO:=Z9 (show Us m (k+1)=(Us m k || (Z8 m.dk k).1) from Gh k);have HL:=Z9 (NF (m:=m) hlt);generalize Z8 m.dk k=dd at *;obtain ⟨op,who,mk⟩:=dd;simp only at d0 d2;cases hmk:inB mk (-900000000000) 900000000000
   ·cases ob
    all_goals
     go_wp2_with (go_at_call 27;refine (Z4 _ _ _ _).mono ?_;rintro e w' ⟨rfl,h9⟩;subst w')
     go_ret;exact ⟨ZU (uh HL hmk).symm,uh BB⟩
   ·cases ob
    all_goals
     go_wp2_with (go_at_call 27;refine (Z4 _ _ _ _).mono ?_;rintro e w' ⟨rfl,h9⟩;subst w')
     go_roundw
     case rel=>exact ⟨k+1,by omega,by rw [uh HO,uh Hob];simp,by go_num,by rw [uh HU,uh Hup];exact hmk,uh kb,uh BB⟩
     case measure=>exact ms
  ·obtain rfl:k=m.dk.length:=by omega
   have QD:=Hup;clear Hup;have c4:=(uh kb).cell (i:=4) (v:= .slice a4 m.pc.length p4) rfl;go_wp2_with fail;clear c3 c4
   go_loopw [5] (fun i wr=> ∃ k:Nat,k<=m.pc.length/\i= .int .i64 k/\VA m k=true/\Blk wr w.heap.size 40 (S6 a0 p0 a1 p1 a2 p2 a3 p3 a4 p4 m)/\Below w.heap.size w wr) (fun i _=>m.pc.length-(intOf i).toNat)
   case atStart=>exact ⟨0,Zi _,rfl,rfl,uh kb,uh BB⟩
   case round=>
    obtain ⟨k,hk,rfl,hup,kb1,hb1⟩:=hrel;clear kb BB;have kb:=Z9 kb1;have BB:=Z9 hb1;have Hup:=Z9 hup;clear kb1 hb1 hup;have c0:=(uh kb).cell (i:=0) (v:= .slice a0 m.rm.length p0) rfl;have c4:=(uh kb).cell (i:=4) (v:= .slice a4 m.pc.length p4) rfl;by_cases hlt:k<m.pc.length
    ·have hlr:k<m.rm.length:=by have:=uh H4;omega
     rcases uh R4 with e0 | ⟨b,off,rfl,hbw,hcl⟩
     ·rw [e0] at hlt;simp at hlt
     rcases uh R0 with e0 | ⟨b',off',rfl,hbw',hcl'⟩
     ·rw [e0] at hlr;simp at hlr
     have d0:=IS hcl hlt;obtain ⟨_,pv,d1,hip⟩:=hcl' k hlr;rw [<-(uh BB).cell (p:=⟨b,off+k,none⟩) hbw] at d0;rw [<-(uh BB).cell (p:=⟨b',off'+k*2+1,none⟩) hbw'] at d1;obtain ⟨pa,pcap,rfl,hpc,hpm,_⟩:=hip;clear hcl hcl';have HU:=Z9 (show VA m (k+1)=(VA m k && Wr m k) from Ox k);have HL:=Z9 (NG (m:=m) hlt);have HP:=Z9 (show Wr m k=inB (Z8 m.pc k) 0 (((ZO m.rm k).2.length:Int)-1) from rfl);generalize Z8 m.pc k=z at *;generalize (ZO m.rm k).2.length=nl at *;have hwr:IntKind.i64.wrap ((nl:Int)-1)=(nl:Int)-1:=by rw [IntKind.wrap_i64];omega
     cases hz:inB z 0 ((nl:Int)-1)
     ·go_wp2_with fail
      go_quiet (exact YG (Z4 _ _ _ _));go_wp2_with fail;go_ret;exact ⟨ZU (uh HL (by rw [uh HP];exact hz)).symm,YL (uh BB) _⟩
     ·go_wp2_with fail
      go_quiet (exact YG (Z4 _ _ _ _));go_wp2_with fail;go_roundw
      case rel=>exact ⟨k+1,by omega,by go_num,by rw [uh HU,uh Hup,uh HP,hz];rfl,(uh kb).drewN _,YL (uh BB) _⟩
      case measure=>exact ms
    ·obtain rfl:k=m.pc.length:=by omega
     have QP:=Hup;clear Hup;have c2:=(uh kb).cell (i:=2) (v:= .slice a2 m.sm.length p2) rfl;go_wp2_with fail;clear c0 c2 c4
     go_loopw [6] (fun i wr=> ∃ k:Nat,k<=m.sm.length/\i= .int .i64 k/\Wl m k=true/\Blk wr w.heap.size 40 (S6 a0 p0 a1 p1 a2 p2 a3 p3 a4 p4 m)/\Below w.heap.size w wr) (fun i _=>m.sm.length-(intOf i).toNat)
     case atStart=>exact ⟨0,Zi _,rfl,rfl,uh kb,uh BB⟩
     case round=>
      obtain ⟨k,hk,rfl,hup,kb1,hb1⟩:=hrel;clear kb BB;have kb:=Z9 kb1;have BB:=Z9 hb1;have Hup:=Z9 hup;clear kb1 hb1 hup;have c1:=(uh kb).cell (i:=1) (v:= .slice a1 m.gd.length p1) rfl;have c2:=(uh kb).cell (i:=2) (v:= .slice a2 m.sm.length p2) rfl;have c3:=(uh kb).cell (i:=3) (v:= .slice a3 m.dk.length p3) rfl;by_cases hlt:k<m.sm.length
      ·rcases uh R2 with e0 | ⟨b,off,rfl,hbw,hcl⟩
       ·rw [e0] at hlt;simp at hlt
       obtain ⟨d0,d1,d2,d3,d4,d5,d6,d7,d8,d9,d10⟩:=YM hcl hlt;rw [<-(uh BB).cell (p:=⟨b,off+k*11,none⟩) hbw] at d0;rw [<-(uh BB).cell (p:=⟨b,off+k*11+1,none⟩) hbw] at d1;rw [<-(uh BB).cell (p:=⟨b,off+k*11+2,none⟩) hbw] at d2;rw [<-(uh BB).cell (p:=⟨b,off+k*11+3,none⟩) hbw] at d3;rw [<-(uh BB).cell (p:=⟨b,off+k*11+4,none⟩) hbw] at d4;rw [<-(uh BB).cell (p:=⟨b,off+k*11+5,none⟩) hbw] at d5;rw [<-(uh BB).cell (p:=⟨b,off+k*11+6,none⟩) hbw] at d6;rw [<-(uh BB).cell (p:=⟨b,off+k*11+7,none⟩) hbw] at d7;rw [<-(uh BB).cell (p:=⟨b,off+k*11+8,none⟩) hbw] at d8;rw [<-(uh BB).cell (p:=⟨b,off+k*11+9,none⟩) hbw] at d9;rw [<-(uh BB).cell (p:=⟨b,off+k*11+10,none⟩) hbw] at d10;clear hcl;have HU:=Z9 (show Wl m (k+1)=(Wl m k && (Yh m (Z8 m.sm k) && Yb m (Z8 m.sm k))) from Ox k);have HL:=Z9 (OT (m:=m) hlt);generalize Z8 m.sm k=ss at *;obtain ⟨st,be,rk,my,gu,lo,hi,hd,ca,ut,wk⟩:=ss;simp only at d0 d1 d2 d3 d4 d5 d6 d7 d8 d9 d10;have hl0:w.heap.size<wr.heap.size:=(uh kb).lt;go_wp2_with fail;clear c1 c2 c3 d0 d1 d2 d3 d4 d5 d6 d7 d8 d9 d10;obtain ⟨qs,Hqs⟩:=WG (Zs (st,be,rk,my,gu,lo,hi,hd,ca,ut,wk));refine ck (P0 (uh Hqs) _) fun w1 hb=> ?_;have ks:Hid (Blk w1 wr.heap.size 79 (I11 st be rk my gu lo hi hd ca ut wk)):=Z9 ((Blk.new wr _ _).below hb (by simp));replace kb:=Z9 (((uh kb).alloc (.cells (I11 st be rk my gu lo hi hd ca ut wk) 79)).below hb (by simp;omega));replace BB:=Z9 ((((uh BB).alloc (uh BB).size (.cells (I11 st be rk my gu lo hi hd ca ut wk) 79))).trans (hb.mono (by simp;have:=(uh BB).size;omega)));clear hb hl0;generalize wr.heap.size=sb at *;have c1:=(uh kb).cell (i:=1) (v:= .slice a1 m.gd.length p1) rfl;have c3:=(uh kb).cell (i:=3) (v:= .slice a3 m.dk.length p3) rfl;have d0:=(uh ks).cell (i:=0) (v:= .int .i64 st) rfl;have d1:=(uh ks).cell (i:=1) (v:= .int .i64 be) rfl;have d4:=(uh ks).cell (i:=4) (v:= .int .i64 gu) rfl;cases qs
       ·go_wp2_with fail
        go_ret;exact ⟨ZU (uh HL (by unfold Yh;rw [uh Hqs];rfl)).symm,uh BB⟩
       ·by_cases hst:st=0
        ·subst hst
         have hne:((0:Int) !=0)=false:=rfl;go_wp2_with fail;have Hps:Hid (ZP (0,be,rk,my,gu,lo,hi,hd,ca,ut,wk)=false):=Z9 rfl;have e0:=ZX ((uh ks).cell (i:=0) (v:= .int .i64 0) rfl);have e1:=ZX ((uh ks).cell (i:=1) (v:= .int .i64 be) rfl);have e2:=ZX ((uh ks).cell (i:=2) (v:= .int .i64 rk) rfl);have e3:=ZX ((uh ks).cell (i:=3) (v:= .int .i64 my) rfl);have e4:=ZX ((uh ks).cell (i:=4) (v:= .int .i64 gu) rfl);have e5:=ZX ((uh ks).cell (i:=5) (v:= .int .i64 lo) rfl);have e6:=ZX ((uh ks).cell (i:=6) (v:= .int .i64 hi) rfl);have e7:=ZX ((uh ks).cell (i:=7) (v:= .int .i64 hd) rfl);have e8:=ZX ((uh ks).cell (i:=8) (v:= .int .i64 ca) rfl);have e9:=ZX ((uh ks).cell (i:=9) (v:= .int .i64 ut) rfl);have e10:=ZX ((uh ks).cell (i:=10) (v:= .int .i64 wk) rfl);refine wq ?_
         repeat (go_big_quiet_step (first | exact ZW (YQ (uh Hps) _)))
         refine wqn fun W1 hb=> ?_;replace kb:=bl kb hb;replace BB:=bt BB hb;clear hb;go_wp2_with fail;go_roundw
         case rel=>exact ⟨k+1,by omega,by go_num,by rw [uh HU,uh Hup];unfold Yh Yb;rw [uh Hqs,uh Hps];rfl,uh kb,uh BB⟩
         case measure=>exact ms
        have hne:(st !=0)=true:=by simpa using hst
        by_cases hgu:(m.gd.length:Int)<=gu
        ·go_wp2_with fail
         go_ret;exact ⟨ZU (uh HL (by unfold Yh;rw [uh Hqs];simp [hst];intro h9;omega)).symm,uh BB⟩
        by_cases hbe:(m.dk.length:Int)<=be
        ·go_wp2_with fail
         go_ret;exact ⟨ZU (uh HL (by unfold Yh;rw [uh Hqs];simp [hst];intro h9;omega)).symm,uh BB⟩
        go_wp2_with fail;have Hh:Hid (Yh m (st,be,rk,my,gu,lo,hi,hd,ca,ut,wk)=true):=Z9 (by unfold Yh;rw [uh Hqs];simp;omega);obtain ⟨ps,Hps⟩:=WG (ZP (st,be,rk,my,gu,lo,hi,hd,ca,ut,wk));have e0:=ZX ((uh ks).cell (i:=0) (v:= .int .i64 st) rfl);have e1:=ZX ((uh ks).cell (i:=1) (v:= .int .i64 be) rfl);have e2:=ZX ((uh ks).cell (i:=2) (v:= .int .i64 rk) rfl);have e3:=ZX ((uh ks).cell (i:=3) (v:= .int .i64 my) rfl);have e4:=ZX ((uh ks).cell (i:=4) (v:= .int .i64 gu) rfl);have e5:=ZX ((uh ks).cell (i:=5) (v:= .int .i64 lo) rfl);have e6:=ZX ((uh ks).cell (i:=6) (v:= .int .i64 hi) rfl);have e7:=ZX ((uh ks).cell (i:=7) (v:= .int .i64 hd) rfl);have e8:=ZX ((uh ks).cell (i:=8) (v:= .int .i64 ca) rfl);have e9:=ZX ((uh ks).cell (i:=9) (v:= .int .i64 ut) rfl);have e10:=ZX ((uh ks).cell (i:=10) (v:= .int .i64 wk) rfl);have e11:=ZX ((uh kb).cell (i:=3) (v:= .slice a3 m.dk.length p3) rfl);cases ps
        ·refine wq ?_
         repeat (go_big_quiet_step (first | exact ZW (YQ (uh Hps) _)))
         refine wqn fun W1 hb=> ?_;replace kb:=bl kb hb;replace BB:=bt BB hb;clear hb;go_wp2_with fail;go_roundw
         case rel=>exact ⟨k+1,by omega,by go_num,by rw [uh HU,uh Hup];rw [uh Hh];unfold Yb;rw [uh Hps];rfl,uh kb,uh BB⟩
         case measure=>exact ms
        obtain ⟨b0,b1,b2,m0,m1,_⟩:=Nr (uh Hh) (uh Hps);simp only at b0 b1 b2 m0 m1;obtain ⟨j,rfl⟩:∃ j:Nat,be=j:=⟨be.toNat,by omega⟩
        have hj:j<m.dk.length:=by omega
        rcases uh R3 with e9 | ⟨b',off',rfl,hbw',hcl'⟩
        ·rw [e9] at hj;simp at hj
        obtain ⟨t0,_,t2⟩:=Yv hcl' hj;rw [<-(uh BB).cell (p:=⟨b',off'+j*3,none⟩) hbw'] at t0;rw [<-(uh BB).cell (p:=⟨b',off'+j*3+2,none⟩) hbw'] at t2;clear hcl';have HS:=Z9 (show Yb m (st,(j:Int),rk,my,gu,lo,hi,hd,ca,ut,wk)=(!ZP (st,(j:Int),rk,my,gu,lo,hi,hd,ca,ut,wk) || ((Z8 m.dk j).1 && (VI my j && Xo hd (Z8 m.dk j).2.2))) from rfl);generalize Z8 m.dk j=dd at *;obtain ⟨op,who,mk⟩:=dd;simp only at t0 t2;have t0:=ZX t0;have t2:=ZX t2;obtain ⟨qb,hqb⟩:=ZE (VI my j);have Hbit:=Z9 hqb;obtain ⟨qd,Hbd⟩:=WG (Xo hd mk);clear hqb;have HS2:=uh HS;simp only [uh Hps,uh Hbit,uh Hbd] at HS2;have HS3:=Z9 HS2;clear HS HS2;cases op
        ·refine wq ?_
         repeat (go_big_quiet_step (first | exact ZW (YQ (uh Hps) _) | exact ZW (S9 (uh Hbit) (by omega) (by omega) (by omega) (by omega) _) | exact ZW (V9 (uh Hbd) _)))
         refine wqn fun W1 hb=> ?_;replace kb:=bl kb hb;replace BB:=bt BB hb;clear hb;go_wp2_with fail;go_ret;exact ⟨ZU (uh HL (by rw [uh HS3];simp)).symm,uh BB⟩
        cases qb
        ·refine wq ?_
         repeat (go_big_quiet_step (first | exact ZW (YQ (uh Hps) _) | exact ZW (S9 (uh Hbit) (by omega) (by omega) (by omega) (by omega) _) | exact ZW (V9 (uh Hbd) _)))
         refine wqn fun W1 hb=> ?_;replace kb:=bl kb hb;replace BB:=bt BB hb;clear hb;go_wp2_with fail;go_ret;exact ⟨ZU (uh HL (by rw [uh HS3];simp)).symm,uh BB⟩
        cases qd
        ·refine wq ?_
         repeat (go_big_quiet_step (first | exact ZW (YQ (uh Hps) _) | exact ZW (S9 (uh Hbit) (by omega) (by omega) (by omega) (by omega) _) | exact ZW (V9 (uh Hbd) _)))
         refine wqn fun W1 hb=> ?_;replace kb:=bl kb hb;replace BB:=bt BB hb;clear hb;go_wp2_with fail;go_ret;exact ⟨ZU (uh HL (by rw [uh HS3];simp)).symm,uh BB⟩
        refine wq ?_
        repeat (go_big_quiet_step (first | exact ZW (YQ (uh Hps) _) | exact ZW (S9 (uh Hbit) (by omega) (by omega) (by omega) (by omega) _) | exact ZW (V9 (uh Hbd) _)))
        refine wqn fun W1 hb=> ?_;replace kb:=bl kb hb;replace BB:=bt BB hb;clear hb;go_wp2_with fail;go_roundw
        case rel=>exact ⟨k+1,by omega,by go_num,by rw [uh HU,uh Hup];rw [uh Hh,uh HS3];rfl,uh kb,uh BB⟩
        case measure=>exact ms
      ·obtain rfl:k=m.sm.length:=by omega
       go_wp2_with fail;go_ret;exact ⟨ZU (by rw [LY (uh QH) (uh QD) (uh QP) (uh Hup)];exact (uh Hob).symm),uh BB⟩
end Go.Proofs.YtmdgokjeobnnaaaGreatDoor
