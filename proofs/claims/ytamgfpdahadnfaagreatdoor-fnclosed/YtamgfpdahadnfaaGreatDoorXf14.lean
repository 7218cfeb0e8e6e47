/- Part 14 of what the proof rests on. No condition but those that a theorem names. -/
import Derived.Test.YtamgfpdahadnfaaGreatDoorXf10
import Derived.Test.YtamgfpdahadnfaaGreatDoorXf11
set_option maxHeartbeats 8000000
set_option maxRecDepth 100000
namespace Go.Proofs.YtamgfpdahadnfaaGreatDoor
open Go.ChangeShapes Go.WideShapes Go.ChangeAt Go.RowKit Go.Sort
set_option linter.unusedVariables false
variable {w w' w0 w1 w2 w3 w₀ wr W W' X A B C : World} {v v0 v1 v2 v3 v4 u u0 u1 u2 u3 u4 : Value} {m : Z6}
def ZR (s:Z3):Bool:=s.1 ==2 || s.1 ==3
def WE (had YJ:Int):Bool:=inB had (-1000000000000) 1000000000000 && (inB YJ (-1000000000000) 1000000000000 && inB (had-YJ) (-20000) 63000)
def VB (d:XW):Bool:=inB d.2.2 (-900000000000) 900000000000
def Wm (m:Z6) (j:Nat):Bool:=inB (Z8 m.pc j) 0 (((ZN m.rm j).2.length:Int)-1)
def Yb (m:Z6) (s:Z3):Bool:=Zs s && (s.1 ==0 || (decide (s.2.2.2.2.1<m.gd.length) && decide (s.2.1<m.dk.length)))
def XQ (m:Z6) (s:Z3):Bool:= !ZR s || ((Z8 m.dk s.2.1.toNat).1 && (V0 s.2.2.2.1 s.2.1 && WE s.2.2.2.2.2.2.2.1 (Z8 m.dk s.2.1.toNat).2.2))
def YG (m:Z6):Bool:=Y0 m.rm && (Zg m.gd && (decide (m.sm.length<=12) && (decide ((m.dk.length:Int)=ZW m.rm) && (decide (m.pc.length=m.rm.length) && inB m.now 0 1000000))))
def Vi (m:Z6) (k:Nat):Bool:=(List.range k).all fun j=>VB (Z8 m.dk j)
def TI (m:Z6) (k:Nat):Bool:=(List.range k).any fun j=>(Z8 m.dk j).1
def VK (m:Z6) (k:Nat):Bool:=(List.range k).all fun j=>Wm m j
def VL (m:Z6) (k:Nat):Bool:=(List.range k).all fun j=>Yb m (Z8 m.sm j) && XQ m (Z8 m.sm j)
def Yy (m:Z6):Bool:=YG m && (Vi m m.dk.length && (VK m m.pc.length && (VL m m.sm.length && TI m m.dk.length)))
theorem Tz {p:Nat->Bool} (k:Nat):(List.range (k+1)).all p=((List.range k).all p && p k):=by rw [List.range_succ,List.all_append];simp
theorem zy {p:Nat->Bool} (k:Nat):(List.range (k+1)).any p=((List.range k).any p || p k):=by rw [List.range_succ,List.any_append];simp
theorem P2 {p:Nat->Bool} {k n:Nat} (hk:k<n) (h:p k=false):(List.range n).all p=false:=by
 rw [List.all_eq_false];exact ⟨k,List.mem_range.2 hk,by simp [h]⟩
theorem IS {p:Nat->Bool} {k n:Nat} (h:(List.range n).all p=true) (hk:k<n):p k=true:=List.all_eq_true.1 h k (List.mem_range.2 hk)
theorem VV (h:YG m=false):Yy m=false:=by unfold Yy;rw [h];rfl
theorem GC {k:Nat} (hk:k<m.dk.length) (h:VB (Z8 m.dk k)=false):Yy m=false:=by
 unfold Yy Vi;rw [P2 hk h];simp
theorem GD {k:Nat} (hk:k<m.pc.length) (h:Wm m k=false):Yy m=false:=by
 unfold Yy VK;rw [P2 (p:=fun j=>Wm m j) hk h];simp
theorem Jk {k:Nat} (hk:k<m.sm.length) (h:(Yb m (Z8 m.sm k) && XQ m (Z8 m.sm k))=false):Yy m=false:=by
 unfold Yy VL;rw [P2 (p:=fun j=>Yb m (Z8 m.sm j) && XQ m (Z8 m.sm j)) hk h];simp
theorem EA (h1:YG m=true) (h2:Vi m m.dk.length=true) (h3:VK m m.pc.length=true) (h4:VL m m.sm.length=true):Yy m=TI m m.dk.length:=by
 unfold Yy;rw [h1,h2,h3,h4];rfl
theorem Gn {s:Z3} (h:Yb m s=true) (hp:ZR s=true):0<=s.2.1/\s.2.1<m.dk.length/\s.2.1<=7/\1<=s.2.2.2.1/\s.2.2.2.1<=255/\s.2.2.2.2.1<m.gd.length:=by
 obtain ⟨st,be,rk,my,gu,lo,hi,hd,ca,ut,wk⟩:=s
 have hst:st ≠ 0:=by
  intro e;subst e;cases hp
 unfold Yb at h;simp only [ZL,Bool.or_eq_true,YZ] at h;obtain ⟨h1,h2⟩:=h
 rcases h2 with h2 | ⟨h2,h3⟩
 ·exact absurd (by simpa using h2) hst
 ·have hs:Zs (st,be,rk,my,gu,lo,hi,hd,ca,ut,wk)=YY (st,be,rk,my,gu,lo,hi,hd,ca,ut,wk):=by unfold Zs;rw [Rk hst,Bool.false_or]
  rw [hs] at h1;obtain ⟨_,⟨b0,b1⟩,_,⟨m0,m1⟩,_⟩:=Zj h1;exact ⟨b0,h3,b1,m0,m1,h2⟩
def Xq (ss:List Z3) (b:Int):Nat->Option (Int × Bool)
 | 0=>some (-1,false)
 | k+1=>match Xq ss b k with
  | none=>none
  | some (wk,wt)=>if (Z8 ss k).2.1=b/\ZR (Z8 ss k)=true then (if (Z8 ss k).1=2 then some (wk,true) else if 0<=wk then none else some ((k:Int),wt)) else some (wk,wt)
def XZ (m:Z6) (b:Nat):Bool:=match Xq m.sm b m.sm.length with
 | none=>false
 | some (wk,wt)=>(Z8 m.dk b).2.1 ==wk && !(wt && decide (wk<0))
def ZF (m:Z6):Bool:=Yy m && (List.range m.dk.length).all (XZ m)
theorem Mp (st be rk my gu lo hi hd ca ut wk:Int) (w:World):Calls Tryz.prog 55 #[.agg (I11 st be rk my gu lo hi hd ca ut wk)] w fun e w'=>
  e= .returned (.bool (ZR (st,be,rk,my,gu,lo,hi,hd,ca,ut,wk)))/\Below w.heap.size w w':=by
 unfold ZR;simp only;cases h2:(st ==2)
 all_goals
  go_enter Tryz.func55,Tryz.ntmps55;go_wp2_with fail;go_ret;exact ⟨by first | rfl | (simp),(ba _ _)⟩
theorem MW (h m:Int) (w:World):Calls Tryz.prog 117 #[.int .i64 h,.int .i64 m] w fun e w'=>e= .returned (.bool (WE h m))/\w'=w:=by
 unfold WE;cases h1:inB h (-1000000000000) 1000000000000
 ·go_enter Tryz.func117,Tryz.ntmps117
  go_wp2_with (first | (go_at_call 103;refine (WX _ _).mono ?_;rintro e w' ⟨rfl,rfl⟩) | (go_at_call 59;refine (ZU _ _ _ _).mono ?_;rintro e w' ⟨rfl,rfl⟩))
  go_ret;exact ⟨rfl,rfl⟩
 cases h2:inB m (-1000000000000) 1000000000000
 ·go_enter Tryz.func117,Tryz.ntmps117
  go_wp2_with (first | (go_at_call 103;refine (WX _ _).mono ?_;rintro e w' ⟨rfl,rfl⟩) | (go_at_call 59;refine (ZU _ _ _ _).mono ?_;rintro e w' ⟨rfl,rfl⟩))
  go_ret;exact ⟨rfl,rfl⟩
 obtain ⟨a0,a1⟩:=ZJ h1;obtain ⟨b0,b1⟩:=ZJ h2;go_enter Tryz.func117,Tryz.ntmps117;go_wp2_with (first | (go_at_call 103;refine (WX _ _).mono ?_;rintro e w' ⟨rfl,rfl⟩) | (go_at_call 59;refine (ZU _ _ _ _).mono ?_;rintro e w' ⟨rfl,rfl⟩))
 go_ret;exact ⟨rfl,rfl⟩
theorem WU  {rs:List ZZ} {q:Bool} (hq:Y0 rs=q) (h:IsRooms w v rs):Calls Tryz.prog 114 #[.agg #[v]] w fun e w'=>e= .returned (.bool q)/\Below w.heap.size w w':=by
 have:=Uq h;rw [hq] at this;exact this
theorem Xh  {ps:List Zt} {q:Bool} (hq:Zg ps=q) (h:Xz w v ps):Calls Tryz.prog 115 #[v] w fun e w'=>e= .returned (.bool q)/\Below w.heap.size w w':=by
 have:=O5 h;rw [hq] at this;exact this
theorem QV  {rs:List ZZ} {n:Int} (hn:ZW rs=n) (h:IsRooms w v rs) (ha:Adds rs):Calls Tryz.prog 116 #[.agg #[v]] w fun e w'=>e= .returned (.int .i64 n)/\Below w.heap.size w w':=by
 have:=RA h ha;rw [hn] at this;exact this
theorem Ak {x lo hi:Int} {q:Bool} (hq:inB x lo hi=q) (w:World):Calls Tryz.prog 59 #[.int .i64 x,.int .i64 lo,.int .i64 hi] w fun e w'=>e= .returned (.bool q)/\Below w.heap.size w w':=by
 have:=ZU x lo hi w;rw [hq] at this;exact this.mono fun e w' ⟨h1,h2⟩=>⟨h1,by rw [h2];exact Z1 _ _⟩
theorem Lo {st be rk my gu lo hi hd ca ut wk:Int} {q:Bool} (hq:Zs (st,be,rk,my,gu,lo,hi,hd,ca,ut,wk)=q) (w:World):Calls Tryz.prog 48 #[.agg (I11 st be rk my gu lo hi hd ca ut wk)] w fun e w'=>e= .returned (.bool q)/\Below w.heap.size w w':=by
 have:=Zm st be rk my gu lo hi hd ca ut wk w;rw [hq] at this;exact this
theorem Yt {st be rk my gu lo hi hd ca ut wk:Int} {q:Bool} (hq:ZR (st,be,rk,my,gu,lo,hi,hd,ca,ut,wk)=q) (w:World):Calls Tryz.prog 55 #[.agg (I11 st be rk my gu lo hi hd ca ut wk)] w fun e w'=>e= .returned (.bool q)/\Below w.heap.size w w':=by
 have:=Mp st be rk my gu lo hi hd ca ut wk w;rw [hq] at this;exact this
theorem Pv {s i:Int} {q:Bool} (hq:V0 s i=q) (h0:0<=s) (h1:s<=255) (h2:0<=i) (h3:i<=7) (w:World):Calls Tryz.prog 60 #[.int .i64 s,.int .i64 i] w fun e w'=>e= .returned (.bool q)/\Below w.heap.size w w':=by
 have:=J4 s i w h0 h1 h2 h3;rw [hq] at this;exact this.mono fun e w' ⟨h1,h2⟩=>⟨h1,by rw [h2];exact Z1 _ _⟩
theorem UJ {h k:Int} {q:Bool} (hq:WE h k=q) (w:World):Calls Tryz.prog 117 #[.int .i64 h,.int .i64 k] w fun e w'=>e= .returned (.bool q)/\Below w.heap.size w w':=by
 have:=MW h k w;rw [hq] at this;exact this.mono fun e w' ⟨h1,h2⟩=>⟨h1,by rw [h2];exact Z1 _ _⟩
theorem Sr  (h:Smy w v0 v1 v2 v3 v4 m) :
  Calls Tryz.prog 54 #[.agg #[v0,v1,v2,v3,v4,.int .i64 m.now]] w fun e w'=>e= .returned (.bool (Yy m))/\Below w.heap.size w w':=by
 have Hv:=Z9 (h.alloc (.cells #[v0,v1,v2,v3,v4,.int .i64 m.now] 32));obtain ⟨h0,h1,h2,h3,h4⟩:=h;obtain ⟨a0,p0,rfl,hc0,hm0,r0⟩:=h0;obtain ⟨a1,p1,rfl,hc1,hm1,_⟩:=h1;obtain ⟨a2,p2,rfl,hc2,hm2,r2⟩:=h2;obtain ⟨a3,p3,rfl,hc3,hm3,r3⟩:=h3;obtain ⟨a4,p4,rfl,hc4,hm4,r4⟩:=h4;have R0:=Z9 r0;have R2:=Z9 r2;have R3:=Z9 r3;have R4:=Z9 r4;clear r0 r2 r3 r4;go_enter Tryz.func54,Tryz.ntmps54;go_wp2_with fail;obtain ⟨W,hW,BB,kb⟩:=GN w 32 (S6 a0 p0 a1 p1 a2 p2 a3 p3 a4 p4 m);rw [hW]
 (try rw [hW] at Hv);clear hW
 have c0:=ZY ((uh kb).cell (i:=0) (v:= .slice a0 m.rm.length p0) rfl);have c1:=ZY ((uh kb).cell (i:=1) (v:= .slice a1 m.gd.length p1) rfl);have c2:=ZY ((uh kb).cell (i:=2) (v:= .slice a2 m.sm.length p2) rfl);have c3:=ZY ((uh kb).cell (i:=3) (v:= .slice a3 m.dk.length p3) rfl);have c4:=ZY ((uh kb).cell (i:=4) (v:= .slice a4 m.pc.length p4) rfl);have c5:=ZY ((uh kb).cell (i:=5) (v:= .int .i64 m.now) rfl);cases h0:Y0 m.rm
 ·have Q0:=Z9 h0
  clear h0;refine wq ?_
  repeat (go_big_quiet_step (first | exact ZX (WU (uh Q0) ((uh Hv).below (Z0 _ _ _)).rm)))
  refine wqn fun W1 hb=> ?_;clear c0 c1 c2 c3 c4 c5;go_wp2_with fail;go_ret;exact ⟨Z5 (VV (by unfold YG;rw [uh Q0];rfl)).symm,(uh BB).trans (hb.mono (uh BB).size)⟩
 have Q0:=Z9 h0;have QA:=Z9 (SV h0);clear h0;cases h1:Zg m.gd
 ·have Q1:=Z9 h1
  clear h1;refine wq ?_
  repeat (go_big_quiet_step (first | exact ZX (WU (uh Q0) ((uh Hv).below (Z0 _ _ _)).rm) | exact ZX (Xh (uh Q1) ((uh Hv).below (Z0 _ _ _)).gd)))
  refine wqn fun W1 hb=> ?_;clear c0 c1 c2 c3 c4 c5;go_wp2_with fail;go_ret;exact ⟨Z5 (VV (by unfold YG;rw [uh Q0,uh Q1];rfl)).symm,(uh BB).trans (hb.mono (uh BB).size)⟩
 have Q1:=Z9 h1;clear h1;by_cases h2:12<m.sm.length
 ·have h2i:(12:Int)<(m.sm.length:Int):=by omega
  have h2d:decide ((12:Int)<(m.sm.length:Int))=true:=VN h2i;refine wq ?_
  repeat (go_big_quiet_step (first | exact ZX (WU (uh Q0) ((uh Hv).below (Z0 _ _ _)).rm) | exact ZX (Xh (uh Q1) ((uh Hv).below (Z0 _ _ _)).gd)))
  refine wqn fun W1 hb=> ?_;clear c0 c1 c2 c3 c4 c5;go_wp2_with fail;go_ret;exact ⟨Z5 (VV (by unfold YG;rw [uh Q0,uh Q1];simp;intro h9;omega)).symm,(uh BB).trans (hb.mono (uh BB).size)⟩
 have h2i:¬ (12:Int)<(m.sm.length:Int):=by omega
 have h2d:decide ((12:Int)<(m.sm.length:Int))=false:=Xn h2i;obtain ⟨n,hn⟩:∃ n,ZW m.rm=n:=⟨_,rfl⟩
 have Q3:=Z9 hn;clear hn;by_cases h3:(m.dk.length:Int)=n;rotate_left
 ·have h3b:((m.dk.length:Int) !=n)=true:=by simpa using h3
  refine wq ?_
  repeat (go_big_quiet_step (first | exact ZX (WU (uh Q0) ((uh Hv).below (Z0 _ _ _)).rm) | exact ZX (Xh (uh Q1) ((uh Hv).below (Z0 _ _ _)).gd) | exact ZX (QV (uh Q3) ((uh Hv).below (Z0 _ _ _)).rm (uh QA))))
  refine wqn fun W1 hb=> ?_;clear c0 c1 c2 c3 c4 c5;go_wp2_with fail;go_ret;exact ⟨Z5 (VV (by unfold YG;rw [uh Q0,uh Q1,uh Q3];simp [h3])).symm,(uh BB).trans (hb.mono (uh BB).size)⟩
 have h3b:((m.dk.length:Int) !=n)=false:=by simpa using h3
 by_cases h4:m.pc.length=m.rm.length;rotate_left
 ·have h4b:((m.pc.length:Int) !=(m.rm.length:Int))=true:=by simp;omega
  refine wq ?_
  repeat (go_big_quiet_step (first | exact ZX (WU (uh Q0) ((uh Hv).below (Z0 _ _ _)).rm) | exact ZX (Xh (uh Q1) ((uh Hv).below (Z0 _ _ _)).gd) | exact ZX (QV (uh Q3) ((uh Hv).below (Z0 _ _ _)).rm (uh QA))))
  refine wqn fun W1 hb=> ?_;clear c0 c1 c2 c3 c4 c5;go_wp2_with fail;go_ret;exact ⟨Z5 (VV (by unfold YG;rw [uh Q0,uh Q1];simp [h4])).symm,(uh BB).trans (hb.mono (uh BB).size)⟩
 have h4b:((m.pc.length:Int) !=(m.rm.length:Int))=false:=by simp;omega
 cases h5:inB m.now 0 1000000
 ·have Q5:=Z9 h5
  clear h5;refine wq ?_
  repeat (go_big_quiet_step (first | exact ZX (WU (uh Q0) ((uh Hv).below (Z0 _ _ _)).rm) | exact ZX (Xh (uh Q1) ((uh Hv).below (Z0 _ _ _)).gd) | exact ZX (QV (uh Q3) ((uh Hv).below (Z0 _ _ _)).rm (uh QA)) | exact ZX (Ak (uh Q5) _)))
  refine wqn fun W1 hb=> ?_;clear c0 c1 c2 c3 c4 c5;go_wp2_with fail;go_ret;exact ⟨Z5 (VV (by unfold YG;rw [uh Q0,uh Q1,uh Q3,uh Q5];simp)).symm,(uh BB).trans (hb.mono (uh BB).size)⟩
 have Q5:=Z9 h5;clear h5;have QH:Hid (YG m=true):=Z9 (by unfold YG;rw [uh Q0,uh Q1,uh Q3,uh Q5];simp [h3,h4];omega);refine wq ?_
 repeat (go_big_quiet_step (first | exact ZX (WU (uh Q0) ((uh Hv).below (Z0 _ _ _)).rm) | exact ZX (Xh (uh Q1) ((uh Hv).below (Z0 _ _ _)).gd) | exact ZX (QV (uh Q3) ((uh Hv).below (Z0 _ _ _)).rm (uh QA)) | exact ZX (Ak (uh Q5) _)))
 refine wqn fun W1 hb=> ?_;clear c0 c1 c2 c3 c4 c5;replace kb:=bl kb hb;replace Hv:=Z9 ((uh Hv).below hb);replace BB:=bt BB hb;clear hb;have H3:=Z9 h3;have H4:=Z9 h4;clear Hv Q0 Q1 Q3 Q5 QA h2d h3b h4b h3 h4;have c3:=(uh kb).cell (i:=3) (v:= .slice a3 m.dk.length p3) rfl;go_wp2_with fail;clear c3
 go_loopw [3,4] (fun o i wr=> ∃ k:Nat,k<=m.dk.length/\o= .bool (TI m k)/\i= .int .i64 k/\Vi m k=true/\Blk wr w.heap.size 32 (S6 a0 p0 a1 p1 a2 p2 a3 p3 a4 p4 m)/\Below w.heap.size w wr) (fun _ i _=>m.dk.length-(intOf i).toNat)
 case atStart=>exact ⟨0,Zz _,rfl,rfl,rfl,uh kb,uh BB⟩
 case round=>
  obtain ⟨k,hk,rfl,rfl,hup,kb1,hb1⟩:=hrel;clear kb BB;have kb:=Z9 kb1;have BB:=Z9 hb1;have Hup:=Z9 hup;clear kb1 hb1 hup;obtain ⟨ob,hob⟩:∃ b,TI m k=b:=⟨_,rfl⟩
  rw [hob];have Hob:=Z9 hob;clear hob;have c3:=(uh kb).cell (i:=3) (v:= .slice a3 m.dk.length p3) rfl;by_cases hlt:k<m.dk.length
  ·rcases uh R3 with e0 | ⟨b,off,rfl,hbw,hcl⟩
   ·rw [e0] at hlt;simp at hlt
   obtain ⟨d0,d1,d2⟩:=Y2 hcl hlt;rw [<-(uh BB).cell (p:=⟨b,off+k*3,none⟩) hbw] at d0;rw [<-(uh BB).cell (p:=⟨b,off+k*3+2,none⟩) hbw] at d2;clear d1 hcl;have HU:=Z9 (show Vi m (k+1)=(Vi m k && VB (Z8 m.dk k)) from Tz k);have HO:=Z9 (show TI m (k+1)=(TI m k || (Z8 m.dk k).1) from zy k);have HL:=Z9 (GC (m:=m) hlt);generalize Z8 m.dk k=dd at *;obtain ⟨op,who,mk⟩:=dd;simp only at d0 d2;cases hmk:inB mk (-900000000000) 900000000000
   ·cases ob
    all_goals
     go_wp2_with (go_at_call 59;refine (ZU _ _ _ _).mono ?_;rintro e w' ⟨rfl,h9⟩;subst w')
     go_ret;exact ⟨Z5 (uh HL hmk).symm,uh BB⟩
   ·cases ob
    all_goals
     go_wp2_with (go_at_call 59;refine (ZU _ _ _ _).mono ?_;rintro e w' ⟨rfl,h9⟩;subst w')
     go_roundw
     case rel=>exact ⟨k+1,by omega,by rw [uh HO,uh Hob];simp,by go_num,by rw [uh HU,uh Hup];exact hmk,uh kb,uh BB⟩
     case measure=>exact ms
  ·obtain rfl:k=m.dk.length:=by omega
   have QD:=Hup;clear Hup;have c4:=(uh kb).cell (i:=4) (v:= .slice a4 m.pc.length p4) rfl;go_wp2_with fail;clear c3 c4
   go_loopw [5] (fun i wr=> ∃ k:Nat,k<=m.pc.length/\i= .int .i64 k/\VK m k=true/\Blk wr w.heap.size 32 (S6 a0 p0 a1 p1 a2 p2 a3 p3 a4 p4 m)/\Below w.heap.size w wr) (fun i _=>m.pc.length-(intOf i).toNat)
   case atStart=>exact ⟨0,Zz _,rfl,rfl,uh kb,uh BB⟩
   case round=>
    obtain ⟨k,hk,rfl,hup,kb1,hb1⟩:=hrel;clear kb BB;have kb:=Z9 kb1;have BB:=Z9 hb1;have Hup:=Z9 hup;clear kb1 hb1 hup;have c0:=(uh kb).cell (i:=0) (v:= .slice a0 m.rm.length p0) rfl;have c4:=(uh kb).cell (i:=4) (v:= .slice a4 m.pc.length p4) rfl;by_cases hlt:k<m.pc.length
    ·have hlr:k<m.rm.length:=by have:=uh H4;omega
     rcases uh R4 with e0 | ⟨b,off,rfl,hbw,hcl⟩
     ·rw [e0] at hlt;simp at hlt
     rcases uh R0 with e0 | ⟨b',off',rfl,hbw',hcl'⟩
     ·rw [e0] at hlr;simp at hlr
     have d0:=My hcl hlt;obtain ⟨_,pv,d1,hip⟩:=hcl' k hlr;rw [<-(uh BB).cell (p:=⟨b,off+k,none⟩) hbw] at d0;rw [<-(uh BB).cell (p:=⟨b',off'+k*2+1,none⟩) hbw'] at d1;obtain ⟨pa,pcap,rfl,hpc,hpm,_⟩:=hip;clear hcl hcl';have HU:=Z9 (show VK m (k+1)=(VK m k && Wm m k) from Tz k);have HL:=Z9 (GD (m:=m) hlt);have HP:=Z9 (show Wm m k=inB (Z8 m.pc k) 0 (((ZN m.rm k).2.length:Int)-1) from rfl);generalize Z8 m.pc k=z at *;generalize (ZN m.rm k).2.length=nl at *;have hwr:IntKind.i64.wrap ((nl:Int)-1)=(nl:Int)-1:=by rw [IntKind.wrap_i64];omega
     cases hz:inB z 0 ((nl:Int)-1)
     ·go_wp2_with fail
      go_quiet (exact Yf (ZU _ _ _ _));go_wp2_with fail;go_ret;exact ⟨Z5 (uh HL (by rw [uh HP];exact hz)).symm,Yl (uh BB) _⟩
     ·go_wp2_with fail
      go_quiet (exact Yf (ZU _ _ _ _));go_wp2_with fail;go_roundw
      case rel=>exact ⟨k+1,by omega,by go_num,by rw [uh HU,uh Hup,uh HP,hz];rfl,(uh kb).drewN _,Yl (uh BB) _⟩
      case measure=>exact ms
    ·obtain rfl:k=m.pc.length:=by omega
     have QP:=Hup;clear Hup;have c2:=(uh kb).cell (i:=2) (v:= .slice a2 m.sm.length p2) rfl;go_wp2_with fail;clear c0 c2 c4
     go_loopw [6] (fun i wr=> ∃ k:Nat,k<=m.sm.length/\i= .int .i64 k/\VL m k=true/\Blk wr w.heap.size 32 (S6 a0 p0 a1 p1 a2 p2 a3 p3 a4 p4 m)/\Below w.heap.size w wr) (fun i _=>m.sm.length-(intOf i).toNat)
     case atStart=>exact ⟨0,Zz _,rfl,rfl,uh kb,uh BB⟩
     case round=>
      obtain ⟨k,hk,rfl,hup,kb1,hb1⟩:=hrel;clear kb BB;have kb:=Z9 kb1;have BB:=Z9 hb1;have Hup:=Z9 hup;clear kb1 hb1 hup;have c1:=(uh kb).cell (i:=1) (v:= .slice a1 m.gd.length p1) rfl;have c2:=(uh kb).cell (i:=2) (v:= .slice a2 m.sm.length p2) rfl;have c3:=(uh kb).cell (i:=3) (v:= .slice a3 m.dk.length p3) rfl;by_cases hlt:k<m.sm.length
      ·rcases uh R2 with e0 | ⟨b,off,rfl,hbw,hcl⟩
       ·rw [e0] at hlt;simp at hlt
       obtain ⟨d0,d1,d2,d3,d4,d5,d6,d7,d8,d9,d10⟩:=Zx hcl hlt;rw [<-(uh BB).cell (p:=⟨b,off+k*11,none⟩) hbw] at d0;rw [<-(uh BB).cell (p:=⟨b,off+k*11+1,none⟩) hbw] at d1;rw [<-(uh BB).cell (p:=⟨b,off+k*11+2,none⟩) hbw] at d2;rw [<-(uh BB).cell (p:=⟨b,off+k*11+3,none⟩) hbw] at d3;rw [<-(uh BB).cell (p:=⟨b,off+k*11+4,none⟩) hbw] at d4;rw [<-(uh BB).cell (p:=⟨b,off+k*11+5,none⟩) hbw] at d5;rw [<-(uh BB).cell (p:=⟨b,off+k*11+6,none⟩) hbw] at d6;rw [<-(uh BB).cell (p:=⟨b,off+k*11+7,none⟩) hbw] at d7;rw [<-(uh BB).cell (p:=⟨b,off+k*11+8,none⟩) hbw] at d8;rw [<-(uh BB).cell (p:=⟨b,off+k*11+9,none⟩) hbw] at d9;rw [<-(uh BB).cell (p:=⟨b,off+k*11+10,none⟩) hbw] at d10;clear hcl;have HU:=Z9 (show VL m (k+1)=(VL m k && (Yb m (Z8 m.sm k) && XQ m (Z8 m.sm k))) from Tz k);have HL:=Z9 (Jk (m:=m) hlt);generalize Z8 m.sm k=ss at *;obtain ⟨st,be,rk,my,gu,lo,hi,hd,ca,ut,wk⟩:=ss;simp only at d0 d1 d2 d3 d4 d5 d6 d7 d8 d9 d10;have hl0:w.heap.size<wr.heap.size:=(uh kb).lt;go_wp2_with fail;clear c1 c2 c3 d0 d1 d2 d3 d4 d5 d6 d7 d8 d9 d10;obtain ⟨qs,hqs⟩:∃ q,Zs (st,be,rk,my,gu,lo,hi,hd,ca,ut,wk)=q:=⟨_,rfl⟩
       have Hqs:=Z9 hqs;clear hqs;refine ck (Lo (uh Hqs) _) fun w1 hb=> ?_;have ks:Hid (Blk w1 wr.heap.size 40 (I11 st be rk my gu lo hi hd ca ut wk)):=Z9 ((Blk.new wr _ _).below hb (by simp));replace kb:=Z9 (((uh kb).alloc (.cells (I11 st be rk my gu lo hi hd ca ut wk) 40)).below hb (by simp;omega));replace BB:=Z9 ((((uh BB).alloc (uh BB).size (.cells (I11 st be rk my gu lo hi hd ca ut wk) 40))).trans (hb.mono (by simp;have:=(uh BB).size;omega)));clear hb hl0;generalize wr.heap.size=sb at *;have c1:=(uh kb).cell (i:=1) (v:= .slice a1 m.gd.length p1) rfl;have c3:=(uh kb).cell (i:=3) (v:= .slice a3 m.dk.length p3) rfl;have d0:=(uh ks).cell (i:=0) (v:= .int .i64 st) rfl;have d1:=(uh ks).cell (i:=1) (v:= .int .i64 be) rfl;have d4:=(uh ks).cell (i:=4) (v:= .int .i64 gu) rfl;cases qs
       ·go_wp2_with fail
        go_ret;exact ⟨Z5 (uh HL (by unfold Yb;rw [uh Hqs];rfl)).symm,uh BB⟩
       ·by_cases hst:st=0
        ·subst hst
         have hne:((0:Int) !=0)=false:=rfl;go_wp2_with fail;have Hps:Hid (ZR (0,be,rk,my,gu,lo,hi,hd,ca,ut,wk)=false):=Z9 rfl;have e0:=ZY ((uh ks).cell (i:=0) (v:= .int .i64 0) rfl);have e1:=ZY ((uh ks).cell (i:=1) (v:= .int .i64 be) rfl);have e2:=ZY ((uh ks).cell (i:=2) (v:= .int .i64 rk) rfl);have e3:=ZY ((uh ks).cell (i:=3) (v:= .int .i64 my) rfl);have e4:=ZY ((uh ks).cell (i:=4) (v:= .int .i64 gu) rfl);have e5:=ZY ((uh ks).cell (i:=5) (v:= .int .i64 lo) rfl);have e6:=ZY ((uh ks).cell (i:=6) (v:= .int .i64 hi) rfl);have e7:=ZY ((uh ks).cell (i:=7) (v:= .int .i64 hd) rfl);have e8:=ZY ((uh ks).cell (i:=8) (v:= .int .i64 ca) rfl);have e9:=ZY ((uh ks).cell (i:=9) (v:= .int .i64 ut) rfl);have e10:=ZY ((uh ks).cell (i:=10) (v:= .int .i64 wk) rfl);refine wq ?_
         repeat (go_big_quiet_step (first | exact ZX (Yt (uh Hps) _)))
         refine wqn fun W1 hb=> ?_;replace kb:=bl kb hb;replace BB:=bt BB hb;clear hb;go_wp2_with fail;go_roundw
         case rel=>exact ⟨k+1,by omega,by go_num,by rw [uh HU,uh Hup];unfold Yb XQ;rw [uh Hqs,uh Hps];rfl,uh kb,uh BB⟩
         case measure=>exact ms
        have hne:(st !=0)=true:=by simpa using hst
        by_cases hgu:(m.gd.length:Int)<=gu
        ·go_wp2_with fail
         go_ret;exact ⟨Z5 (uh HL (by unfold Yb;rw [uh Hqs];simp [hst];intro h9;omega)).symm,uh BB⟩
        by_cases hbe:(m.dk.length:Int)<=be
        ·go_wp2_with fail
         go_ret;exact ⟨Z5 (uh HL (by unfold Yb;rw [uh Hqs];simp [hst];intro h9;omega)).symm,uh BB⟩
        go_wp2_with fail;have Hh:Hid (Yb m (st,be,rk,my,gu,lo,hi,hd,ca,ut,wk)=true):=Z9 (by unfold Yb;rw [uh Hqs];simp;omega);obtain ⟨ps,hps⟩:∃ q,ZR (st,be,rk,my,gu,lo,hi,hd,ca,ut,wk)=q:=⟨_,rfl⟩
        have Hps:=Z9 hps;clear hps;have e0:=ZY ((uh ks).cell (i:=0) (v:= .int .i64 st) rfl);have e1:=ZY ((uh ks).cell (i:=1) (v:= .int .i64 be) rfl);have e2:=ZY ((uh ks).cell (i:=2) (v:= .int .i64 rk) rfl);have e3:=ZY ((uh ks).cell (i:=3) (v:= .int .i64 my) rfl);have e4:=ZY ((uh ks).cell (i:=4) (v:= .int .i64 gu) rfl);have e5:=ZY ((uh ks).cell (i:=5) (v:= .int .i64 lo) rfl);have e6:=ZY ((uh ks).cell (i:=6) (v:= .int .i64 hi) rfl);have e7:=ZY ((uh ks).cell (i:=7) (v:= .int .i64 hd) rfl);have e8:=ZY ((uh ks).cell (i:=8) (v:= .int .i64 ca) rfl);have e9:=ZY ((uh ks).cell (i:=9) (v:= .int .i64 ut) rfl);have e10:=ZY ((uh ks).cell (i:=10) (v:= .int .i64 wk) rfl);have e11:=ZY ((uh kb).cell (i:=3) (v:= .slice a3 m.dk.length p3) rfl);cases ps
        ·refine wq ?_
         repeat (go_big_quiet_step (first | exact ZX (Yt (uh Hps) _)))
         refine wqn fun W1 hb=> ?_;replace kb:=bl kb hb;replace BB:=bt BB hb;clear hb;go_wp2_with fail;go_roundw
         case rel=>exact ⟨k+1,by omega,by go_num,by rw [uh HU,uh Hup];rw [uh Hh];unfold XQ;rw [uh Hps];rfl,uh kb,uh BB⟩
         case measure=>exact ms
        obtain ⟨b0,b1,b2,m0,m1,_⟩:=Gn (uh Hh) (uh Hps);simp only at b0 b1 b2 m0 m1;obtain ⟨j,rfl⟩:∃ j:Nat,be=j:=⟨be.toNat,by omega⟩
        have hj:j<m.dk.length:=by omega
        rcases uh R3 with e9 | ⟨b',off',rfl,hbw',hcl'⟩
        ·rw [e9] at hj;simp at hj
        obtain ⟨t0,_,t2⟩:=Y2 hcl' hj;rw [<-(uh BB).cell (p:=⟨b',off'+j*3,none⟩) hbw'] at t0;rw [<-(uh BB).cell (p:=⟨b',off'+j*3+2,none⟩) hbw'] at t2;clear hcl';have HS:=Z9 (show XQ m (st,(j:Int),rk,my,gu,lo,hi,hd,ca,ut,wk)=(!ZR (st,(j:Int),rk,my,gu,lo,hi,hd,ca,ut,wk) || ((Z8 m.dk j).1 && (V0 my j && WE hd (Z8 m.dk j).2.2))) from rfl);generalize Z8 m.dk j=dd at *;obtain ⟨op,who,mk⟩:=dd;simp only at t0 t2;have t0:=ZY t0;have t2:=ZY t2;obtain ⟨qb,hqb⟩:∃ q,V0 my j=q:=⟨_,rfl⟩
        have Hbit:=Z9 hqb;obtain ⟨qd,hqd⟩:∃ q,WE hd mk=q:=⟨_,rfl⟩
        have Hbd:=Z9 hqd;clear hqb hqd;have HS2:=uh HS;simp only [uh Hps,uh Hbit,uh Hbd] at HS2;have HS3:=Z9 HS2;clear HS HS2;cases op
        ·refine wq ?_
         repeat (go_big_quiet_step (first | exact ZX (Yt (uh Hps) _) | exact ZX (Pv (uh Hbit) (by omega) (by omega) (by omega) (by omega) _) | exact ZX (UJ (uh Hbd) _)))
         refine wqn fun W1 hb=> ?_;replace kb:=bl kb hb;replace BB:=bt BB hb;clear hb;go_wp2_with fail;go_ret;exact ⟨Z5 (uh HL (by rw [uh HS3];simp)).symm,uh BB⟩
        cases qb
        ·refine wq ?_
         repeat (go_big_quiet_step (first | exact ZX (Yt (uh Hps) _) | exact ZX (Pv (uh Hbit) (by omega) (by omega) (by omega) (by omega) _) | exact ZX (UJ (uh Hbd) _)))
         refine wqn fun W1 hb=> ?_;replace kb:=bl kb hb;replace BB:=bt BB hb;clear hb;go_wp2_with fail;go_ret;exact ⟨Z5 (uh HL (by rw [uh HS3];simp)).symm,uh BB⟩
        cases qd
        ·refine wq ?_
         repeat (go_big_quiet_step (first | exact ZX (Yt (uh Hps) _) | exact ZX (Pv (uh Hbit) (by omega) (by omega) (by omega) (by omega) _) | exact ZX (UJ (uh Hbd) _)))
         refine wqn fun W1 hb=> ?_;replace kb:=bl kb hb;replace BB:=bt BB hb;clear hb;go_wp2_with fail;go_ret;exact ⟨Z5 (uh HL (by rw [uh HS3];simp)).symm,uh BB⟩
        refine wq ?_
        repeat (go_big_quiet_step (first | exact ZX (Yt (uh Hps) _) | exact ZX (Pv (uh Hbit) (by omega) (by omega) (by omega) (by omega) _) | exact ZX (UJ (uh Hbd) _)))
        refine wqn fun W1 hb=> ?_;replace kb:=bl kb hb;replace BB:=bt BB hb;clear hb;go_wp2_with fail;go_roundw
        case rel=>exact ⟨k+1,by omega,by go_num,by rw [uh HU,uh Hup];rw [uh Hh,uh HS3];rfl,uh kb,uh BB⟩
        case measure=>exact ms
      ·obtain rfl:k=m.sm.length:=by omega
       go_wp2_with fail;go_ret;exact ⟨Z5 (by rw [EA (uh QH) (uh QD) (uh QP) (uh Hup)];exact (uh Hob).symm),uh BB⟩
def atV (ss:List Z3) (b:Int):Nat->List Z4
 | 0=>[]
 | k+1=>if (Z8 ss k).2.1=b/\ZR (Z8 ss k)=true then Va (atV ss b k) ((Z8 ss k).2.2.2.2.2.2.2.1,(k:Int)) else atV ss b k
theorem TK (ss:List Z3) (b:Int):∀ k,(atV ss b k).length<=k
 | 0=>Z2 _
 | k+1=>by
  have:=TK ss b k;unfold atV
  split
  ·rw [AG];omega
  ·omega
theorem TB {ss:List Z3} {b:Int} {k:Nat} (h:¬ ((Z8 ss k).2.1=b/\ZR (Z8 ss k)=true)):atV ss b (k+1)=atV ss b k:=by rw [atV,if_neg h]
theorem UC {ss:List Z3} {b:Int} {k:Nat} (h1:(Z8 ss k).2.1=b) (h2:ZR (Z8 ss k)=true):atV ss b (k+1)=Va (atV ss b k) ((Z8 ss k).2.2.2.2.2.2.2.1,(k:Int)):=by rw [atV,if_pos ⟨h1,h2⟩]
def YP (m:Z6) (b:Int):Bool:=inB b 0 ((m.dk.length:Int)-1)
def SN (m:Z6) (b:Int):List Z4:=if ZF m && YP m b then atV m.sm b m.sm.length else []
theorem A2 (h:ZF m=true):m.sm.length<=12:=by
 unfold ZF Yy YG at h;simp only [ZL,YZ] at h;exact h.1.1.2.2.1
def Yn (s:Z3):Int:=s.2.2.2.2.2.2.2.1
theorem AH {ps:List Z4} {x e:Z4} : e ∈ Va ps x ↔ e ∈ ps\/e=x:=by
 rw [(QY ps x).mem_iff];simp
theorem Yi (ss:List Z3) (b:Int) (e:Z4):∀ k,e ∈ atV ss b k ↔ ∃ i:Nat,i<k/\(Z8 ss i).2.1=b/\ZR (Z8 ss i)=true/\e=(Yn (Z8 ss i),(i:Int))
 | 0=>by simp [atV]
 | k+1=>by
  have ih:=Yi ss b e k;by_cases h:(Z8 ss k).2.1=b/\ZR (Z8 ss k)=true
  ·rw [UC h.1 h.2,AH,ih]
   constructor
   ·rintro (⟨i,hi,h1,h2,h3⟩ | h3)
    ·exact ⟨i,by omega,h1,h2,h3⟩
    ·exact ⟨k,by omega,h.1,h.2,h3⟩
   ·rintro ⟨i,hi,h1,h2,h3⟩
    by_cases hik:i=k
    ·subst hik;exact .inr h3
    ·exact .inl ⟨i,by omega,h1,h2,h3⟩
  ·rw [TB h,ih]
   constructor
   ·rintro ⟨i,hi,h1,h2,h3⟩
    exact ⟨i,by omega,h1,h2,h3⟩
   ·rintro ⟨i,hi,h1,h2,h3⟩
    by_cases hik:i=k
    ·subst hik;exact absurd ⟨h1,h2⟩ h
    ·exact ⟨i,by omega,h1,h2,h3⟩
theorem Nn (ss:List Z3) (b:Int):∀ k,Ris (atV ss b k)
 | 0=>List.Pairwise.nil
 | k+1=>by
  by_cases h:(Z8 ss k).2.1=b/\ZR (Z8 ss k)=true
  ·rw [UC h.1 h.2];exact G6 (Nn ss b k) _
  ·rw [TB h];exact Nn ss b k
theorem SW (ss:List Z3) (b:Int):∀ k,(atV ss b k).Pairwise fun x y=>x.2 ≠ y.2
 | 0=>List.Pairwise.nil
 | k+1=>by
  by_cases h:(Z8 ss k).2.1=b/\ZR (Z8 ss k)=true
  ·rw [UC h.1 h.2]
   refine (QY (atV ss b k) _).symm.pairwise ?_ (fun h=>Ne.symm h);rw [List.pairwise_append];refine ⟨SW ss b k,by simp,fun x hx y hy=> ?_⟩;obtain rfl:y=_:=by simpa using hy
   obtain ⟨i,hi,_,_,rfl⟩:=(Yi ss b x k).1 hx;show (i:Int) ≠ (k:Int);omega
  ·rw [TB h];exact SW ss b k
def Alike (ss ss':List Z3) (k:Nat):Prop:= ∀ i,i<k->(Z8 ss' i).2.1=(Z8 ss i).2.1/\ZR (Z8 ss' i)=ZR (Z8 ss i)/\Yn (Z8 ss' i)=Yn (Z8 ss i)
theorem QM {ss ss':List Z3} (b:Int):∀ k,Alike ss ss' k->atV ss' b k=atV ss b k
 | 0,_=>rfl
 | k+1,h=>by
  have ih:=QM b k (fun i hi=>h i (by omega));obtain ⟨h1,h2,h3⟩:=h k (by omega);unfold atV;rw [h1,h2,ih,show (Z8 ss' k).2.2.2.2.2.2.2.1=(Z8 ss k).2.2.2.2.2.2.2.1 from h3]
def WS (ss:List Z3) (b:Int):Int:=match atV ss b ss.length with
 | []=> -1
 | h::_=>h.2
theorem Sh {ss:List Z3} {b:Int} {e:Z4} {t:List Z4} (h:atV ss b ss.length=e::t):WS ss b=e.2/\ ∃ i:Nat,i<ss.length/\(Z8 ss i).2.1=b/\ZR (Z8 ss i)=true/\e=(Yn (Z8 ss i),(i:Int)):=by
 refine ⟨by unfold WS;rw [h],?_⟩;exact (Yi ss b e ss.length).1 (by rw [h];simp)
theorem N6 {ss:List Z3} {b:Int} {e:Z4} {t:List Z4} (h:atV ss b ss.length=e::t) {i:Nat} (hi:i<ss.length) (h1:(Z8 ss i).2.1=b) (h2:ZR (Z8 ss i)=true):e.1<=Yn (Z8 ss i):=by
 have hm:(Yn (Z8 ss i),(i:Int)) ∈ atV ss b ss.length:=(Yi ss b _ ss.length).2 ⟨i,hi,h1,h2,rfl⟩;have hr:=Nn ss b ss.length;rw [h] at hm hr
 rcases List.mem_cons.1 hm with he | ht
 ·rw [<-he];exact Int.le_refl _
 ·have:=(List.pairwise_cons.1 hr).1 _ ht
  rw [J6] at this;simp only at this;omega
def stS (s:Z3) (st:Int):Z3:=(st,s.2)
def ZB (ss:List Z3) (q:List Z4):List Z3:=q.foldl (fun ss e=>ss.set e.2.toNat (stS (Z8 ss e.2.toNat) 2)) ss
theorem PW (ss:List Z3) (q:List Z4) (e:Z4):ZB ss (q++[e])=(ZB ss q).set e.2.toNat (stS (Z8 (ZB ss q) e.2.toNat) 2):=by
  unfold ZB;rw [List.foldl_append];rfl
theorem Xs (q:List Z4):∀ ss:List Z3,(ZB ss q).length=ss.length:=by
  induction q with
  | nil=>intro ss;rfl
  | cons e q ih=>intro ss;show (ZB (ss.set e.2.toNat (stS (Z8 ss e.2.toNat) 2)) q).length=_;rw [ih,V5]
theorem Qn (q:List Z4):∀ (ss:List Z3) (i:Nat),(∀ e ∈ q,0<=e.2/\e.2<ss.length)->((∃ e ∈ q,e.2=(i:Int))->Z8 (ZB ss q) i=stS (Z8 ss i) 2)/\((∀ e ∈ q,e.2 ≠ (i:Int))->Z8 (ZB ss q) i=Z8 ss i):=by
  induction q with
  | nil=>
    intro ss i h;exact ⟨fun ⟨e,he,_⟩=>(List.not_mem_nil he).elim,fun _=>rfl⟩
  | cons e q ih=>
    intro ss i h;obtain ⟨e0,e1⟩:=h e (by simp);have hs:=ZI (x:=stS (Z8 ss e.2.toNat) 2) (show e.2.toNat<ss.length by omega) i;obtain ⟨i1,i2⟩:=ih (ss.set e.2.toNat (stS (Z8 ss e.2.toNat) 2)) i (fun x hx=>by rw [V5];exact h x (List.mem_cons_of_mem _ hx));show ((∃ x ∈ e::q,x.2=(i:Int))->Z8 (ZB (ss.set e.2.toNat (stS (Z8 ss e.2.toNat) 2)) q) i=_)/\((∀ x ∈ e::q,x.2 ≠ (i:Int))->Z8 (ZB (ss.set e.2.toNat (stS (Z8 ss e.2.toNat) 2)) q) i=_)
    constructor
    · rintro ⟨x,hx,hxi⟩
      by_cases hq:∃ y ∈ q,y.2=(i:Int)
      · rw [i1 hq,hs]
        split
        · rename_i he;rw [he];rfl
        · rfl
      · rw [i2 (fun y hy e=>hq ⟨y,hy,e⟩),hs]
        rcases List.mem_cons.1 hx with rfl | hx
        · rw [if_pos (by omega)]
          rw [show x.2.toNat=i by omega]
        · exact absurd ⟨x,hx,hxi⟩ hq
    · intro hn
      rw [i2 (fun y hy=>hn y (List.mem_cons_of_mem _ hy)),hs,if_neg];have:=hn e (by simp);omega
def WI (ss:List Z3) (b:Int) (d:XW):XW:=match atV ss b ss.length with
  | []=>(d.1,-1,d.2.2)
  | e::_=>(d.1,e.2,Zv d.2.2 e.1)
def WY (m:Z6) (b:Nat):Z6:=match atV m.sm b m.sm.length with
  | []=>{ m with dk:=m.dk.set b ((Z8 m.dk b).1,-1,(Z8 m.dk b).2.2) }
  | e::t=>{ m with sm:=(ZB m.sm (e::t)).set e.2.toNat (stS (Z8 (ZB m.sm (e::t)) e.2.toNat) 3),dk:=m.dk.set b ((Z8 m.dk b).1,e.2,Zv (Z8 m.dk b).2.2 e.1) }
def Zf (m:Z6):Nat->Z6
  | 0=>m
  | k+1=>WY (Zf m k) k
def ZP (m:Z6):Z6:=Zf m m.dk.length
theorem Fk (m:Z6) (b:Nat):(WY m b).rm=m.rm/\(WY m b).gd=m.gd/\(WY m b).pc=m.pc/\(WY m b).now=m.now/\(WY m b).sm.length=m.sm.length/\(WY m b).dk.length=m.dk.length:=by
  unfold WY
  split
  · simp
  · simp [Xs]
theorem ZG (m:Z6):∀ k,(Zf m k).rm=m.rm/\(Zf m k).gd=m.gd/\(Zf m k).pc=m.pc/\(Zf m k).now=m.now/\(Zf m k).sm.length=m.sm.length/\(Zf m k).dk.length=m.dk.length
  | 0=>⟨rfl,rfl,rfl,rfl,rfl,rfl⟩
  | k+1=>by
    obtain ⟨h1,h2,h3,h4,h5,h6⟩:=ZG m k;obtain ⟨g1,g2,g3,g4,g5,g6⟩:=Fk (Zf m k) k;exact ⟨g1.trans h1,g2.trans h2,g3.trans h3,g4.trans h4,g5.trans h5,g6.trans h6⟩
theorem Oq (m : Z6) (b : Nat) {i : Nat} (hi : i < m.sm.length) : Z8 (WY m b).sm i = if (Z8 m.sm i).2.1 = (b : Int) ∧ ZR (Z8 m.sm i) = true then stS (Z8 m.sm i) (if WS m.sm b = (i : Int) then 3 else 2) else Z8 m.sm i := by
  have hq := Yi m.sm (b : Int)
  have hf : WS m.sm (b : Int) = match atV m.sm (b : Int) m.sm.length with
    | [] => -1
    | h :: _ => h.2 := rfl
  unfold WY
  split
  · rename_i h0
    rw [if_neg];intro hp;have := (hq (Yn (Z8 m.sm i), (i : Int)) m.sm.length).2 ⟨i, hi, hp.1, hp.2, rfl⟩;rw [h0] at this;exact List.not_mem_nil this
  · rename_i e t h0
    rw [h0] at hf;simp only at hf
    have hin : ∀ x ∈ e :: t, 0 ≤ x.2 ∧ x.2 < m.sm.length := by
      intro x hx;rw [← h0] at hx;obtain ⟨j, hj, _, _, rfl⟩ := (hq x _).1 hx;exact ⟨by show (0 : Int) ≤ (j : Int); omega, by show (j : Int) < _; omega⟩
    obtain ⟨w1, w2⟩ := Qn (e :: t) m.sm i hin;obtain ⟨e0, e1⟩ := hin e (by simp);show Z8 ((ZB m.sm (e :: t)).set e.2.toNat _) i = _;rw [ZI (by rw [Xs]; omega)];by_cases hp : (Z8 m.sm i).2.1 = (b : Int) ∧ ZR (Z8 m.sm i) = true
    · have hmem : (Yn (Z8 m.sm i), (i : Int)) ∈ e :: t := by rw [← h0]; exact (hq _ _).2 ⟨i, hi, hp.1, hp.2, rfl⟩
      rw [if_pos hp, hf];by_cases hie : i = e.2.toNat
      · rw [if_pos hie, if_pos (by omega), ← hie, w1 ⟨_, hmem, rfl⟩]
        rfl
      · rw [if_neg hie, if_neg (by omega), w1 ⟨_, hmem, rfl⟩]
    · have hnm : ∀ x ∈ e :: t, x.2 ≠ (i : Int) := by
        intro x hx hxi;rw [← h0] at hx;obtain ⟨j, hj, j1, j2, rfl⟩ := (hq x _).1 hx
        have : j = i := by have : (j : Int) = (i : Int) := hxi
                           omega
        subst this;exact hp ⟨j1, j2⟩
      rw [if_neg hp, if_neg (by have := hnm e (by simp); omega), w2 hnm]
theorem Fi (m:Z6) {b:Nat} (hb:b<m.dk.length) (j:Nat):Z8 (WY m b).dk j=if j=b then WI m.sm b (Z8 m.dk b) else Z8 m.dk j:=by
  have hf:WI m.sm (b:Int) (Z8 m.dk b)=match atV m.sm (b:Int) m.sm.length with
    | []=>((Z8 m.dk b).1,-1,(Z8 m.dk b).2.2)
    | e::_=>((Z8 m.dk b).1,e.2,Zv (Z8 m.dk b).2.2 e.1):=rfl
  unfold WY
  split
  · rename_i h0
    rw [h0] at hf;rw [hf,<-ZI hb]
  · rename_i e t h0
    rw [h0] at hf;rw [hf,<-ZI hb]
theorem Iu (m:Z6) (b:Nat):Alike m.sm (WY m b).sm m.sm.length:=by
  intro i hi;rw [Oq m b hi]
  split
  · rename_i hp
    refine ⟨rfl,?_,rfl⟩;rw [hp.2]
    split<;>rfl
  · exact ⟨rfl,rfl,rfl⟩
theorem Alike.trans {a b c:List Z3} {k:Nat} (h:Alike a b k) (g:Alike b c k):Alike a c k:=fun i hi=>⟨(g i hi).1.trans (h i hi).1,(g i hi).2.1.trans (h i hi).2.1,(g i hi).2.2.trans (h i hi).2.2⟩
theorem WD (m:Z6):∀ k,Alike m.sm (Zf m k).sm m.sm.length
  | 0=>fun _ _=>⟨rfl,rfl,rfl⟩
  | k+1=>by
    have h:=Iu (Zf m k) k;rw [(ZG m k).2.2.2.2.1] at h;exact (WD m k).trans h
theorem Q6 (m:Z6) (k:Nat) (b:Int):atV (Zf m k).sm b (Zf m k).sm.length=atV m.sm b m.sm.length:=by
  rw [(ZG m k).2.2.2.2.1];exact QM b _ (WD m k)
theorem Iv (m:Z6) (k:Nat) (b:Int):WS (Zf m k).sm b=WS m.sm b:=by unfold WS;rw [Q6]
theorem Lp (m:Z6) (k:Nat) (b:Int) (d:XW):WI (Zf m k).sm b d=WI m.sm b d:=by unfold WI;rw [Q6]
theorem Xr (m:Z6) {i:Nat} (hi:i<m.sm.length):∀ k:Nat,Z8 (Zf m k).sm i=if (0<=(Z8 m.sm i).2.1/\(Z8 m.sm i).2.1<(k:Int))/\ZR (Z8 m.sm i)=true then stS (Z8 m.sm i) (if WS m.sm (Z8 m.sm i).2.1=(i:Int) then 3 else 2) else Z8 m.sm i
  | 0=>by rw [if_neg (by omega)];rfl
  | k+1=>by
    have ih:=Xr m hi k;have ha:=WD m k i hi;show Z8 (WY (Zf m k) k).sm i=_;rw [Oq _ _ (by rw [(ZG m k).2.2.2.2.1];exact hi),ha.1,ha.2.1,Iv];by_cases hp:ZR (Z8 m.sm i)=true
    · by_cases hb:(Z8 m.sm i).2.1=(k:Int)
      · have hc:(0<=(Z8 m.sm i).2.1/\(Z8 m.sm i).2.1<((k+1:Nat):Int))/\ZR (Z8 m.sm i)=true:=⟨by omega,hp⟩
        rw [if_pos ⟨hb,hp⟩,if_pos hc,ih,if_neg (by omega),hb]
      · rw [if_neg (fun h=>hb h.1),ih]
        by_cases hk:0<=(Z8 m.sm i).2.1/\(Z8 m.sm i).2.1<(k:Int)
        · have hc:(0<=(Z8 m.sm i).2.1/\(Z8 m.sm i).2.1<((k+1:Nat):Int))/\ZR (Z8 m.sm i)=true:=⟨by omega,hp⟩
          rw [if_pos ⟨hk,hp⟩,if_pos hc]
        · rw [if_neg (fun h=>hk h.1),if_neg (fun h=>hk (by omega))]
    · rw [if_neg (fun h=>hp h.2),ih,if_neg (fun h=>hp h.2),if_neg (fun h=>hp h.2)]
theorem V1 (m:Z6) (j:Nat):∀ k:Nat,k<=m.dk.length->Z8 (Zf m k).dk j=if j<k then WI m.sm j (Z8 m.dk j) else Z8 m.dk j
  | 0,_=>by rw [if_neg (by omega)];rfl
  | k+1,hk=>by
    have ih:=V1 m j k (by omega);show Z8 (WY (Zf m k) k).dk j=_;rw [Fi _ (by rw [(ZG m k).2.2.2.2.2];omega)];by_cases hjk:j=k
    · subst hjk
      rw [if_pos rfl,if_pos (by omega),Lp,ih,if_neg (by omega)]
    · rw [if_neg hjk,ih]
      by_cases h:j<k
      · rw [if_pos h,if_pos (by omega)]
      · rw [if_neg h,if_neg (by omega)]
structure Loose (m:Z6):Prop where
  head:YG m=true
  desk:∀ j,j<m.dk.length->VB (Z8 m.dk j)=true
  pace:∀ j,j<m.pc.length->Wm m j=true
  here:∀ i,i<m.sm.length->Yb m (Z8 m.sm i)=true
  seat:∀ i,i<m.sm.length->XQ m (Z8 m.sm i)=true
  openD:∃ j,j<m.dk.length/\(Z8 m.dk j).1=true
theorem Py (h:Yy m=true):Loose m:=by
  unfold Yy Vi VK VL TI at h;simp only [ZL] at h;obtain ⟨h1,h2,h3,h4,h5⟩:=h;have h4':=fun i hi=>IS h4 (k:=i) hi;simp only [ZL] at h4';obtain ⟨j,hj,ho⟩:=List.any_eq_true.1 h5;exact ⟨h1,fun j hj=>IS h2 hj,fun j hj=>IS h3 hj,fun i hi=>(h4' i hi).1,fun i hi=>(h4' i hi).2,j,List.mem_range.1 hj,ho⟩
theorem Loose.mk' (h:Loose m):Yy m=true:=by
  unfold Yy Vi VK VL TI;simp only [ZL];refine ⟨h.head,?_,?_,?_,?_⟩
  · exact List.all_eq_true.2 fun j hj=>h.desk j (List.mem_range.1 hj)
  · exact List.all_eq_true.2 fun j hj=>h.pace j (List.mem_range.1 hj)
  · exact List.all_eq_true.2 fun j hj=>by rw [h.here j (List.mem_range.1 hj),h.seat j (List.mem_range.1 hj)];rfl
  · obtain ⟨j,hj,ho⟩:=h.openD
    exact List.any_eq_true.2 ⟨j,List.mem_range.2 hj,ho⟩
theorem Loose.at (h:Loose m) {i:Nat} (hi:i<m.sm.length) (hp:ZR (Z8 m.sm i)=true):0<=(Z8 m.sm i).2.1/\(Z8 m.sm i).2.1<m.dk.length/\(Z8 m.dk (Z8 m.sm i).2.1.toNat).1=true/\V0 (Z8 m.sm i).2.2.2.1 (Z8 m.sm i).2.1=true/\WE (Yn (Z8 m.sm i)) (Z8 m.dk (Z8 m.sm i).2.1.toNat).2.2=true:=by
  obtain ⟨b0,b1,_⟩:=Gn (h.here i hi) hp;have hs:=h.seat i hi;unfold XQ at hs;rw [hp] at hs;simp only [Bool.not_true,Bool.false_or,ZL] at hs;exact ⟨b0,b1,hs.1,hs.2.1,hs.2.2⟩
theorem TY {had YJ:Int} (h:WE had YJ=true) : -1000000000000<=had/\had<=1000000000000/\ -1000000000000<=YJ/\YJ<=1000000000000/\ -20000<=had-YJ/\had-YJ<=63000:=by
  unfold WE at h;simp only [ZL] at h;have h1:=ZJ h.1;have h2:=ZJ h.2.1;have h3:=ZJ h.2.2;omega
theorem Nq {had YJ:Int} (h0 : -1000000000000<=had) (h1:had<=1000000000000) (h2 : -1000000000000<=YJ) (h3:YJ<=1000000000000) (h4 : -20000<=had-YJ) (h5:had-YJ<=63000):WE had YJ=true:=by
  unfold WE;rw [Zp h0 h1,Zp h2 h3,Zp h4 h5];rfl
theorem Rh {d:XW} (h:VB d=true) : -900000000000<=d.2.2/\d.2.2<=900000000000:=ZJ h
theorem CD {s:Z3} {st:Int} (h:Zs s=true) (hp:ZR s=true) (h0:1<=st) (h1:st<=3):Zs (stS s st)=true:=by
  obtain ⟨x0,be,rk,my,gu,lo,hi,hd,ca,ut,wk⟩:=s;have hx:x0 ≠ 0:=by intro e;subst e;cases hp
  unfold Zs at h ⊢;rw [Rk (x:=(x0,be,rk,my,gu,lo,hi,hd,ca,ut,wk)) hx,Bool.false_or] at h;unfold YY at h;simp only [ZL] at h;obtain ⟨g0,g⟩:=h
  have:YY (stS (x0,be,rk,my,gu,lo,hi,hd,ca,ut,wk) st)=true:=by
    unfold YY stS;simp only [ZL];exact ⟨Zp h0 h1,g⟩
  rw [this,Bool.or_true]
theorem Mb {s:Z3} {st:Int} (h:Yb m s=true) (hp:ZR s=true) (h0:1<=st) (h1:st<=3):Yb m (stS s st)=true:=by
  unfold Yb at h ⊢;simp only [ZL,Bool.or_eq_true] at h ⊢;refine ⟨CD h.1 hp h0 h1,.inr ?_⟩
  rcases h.2 with e | e
  · have:s.1=0:=by simpa using e
    unfold ZR at hp;rw [this] at hp;cases hp
  · exact e
theorem Wx {m m':Z6} (hg:m'.gd.length=m.gd.length) (hd:m'.dk.length=m.dk.length) (s:Z3):Yb m' s=Yb m s:=by unfold Yb;rw [hg,hd]
theorem Fo (h:Loose m):Loose (ZP m):=by
  obtain ⟨e1,e2,e3,e4,e5,e6⟩:=ZG m m.dk.length;have hd:=fun j=>V1 m j m.dk.length (Z2 _)
  have hopen:∀ j,(Z8 (ZP m).dk j).1=(Z8 m.dk j).1:=by
    intro j;unfold ZP;rw [hd j]
    split
    · unfold WI;split<;>rfl
    · rfl
  have hmark:∀ j,j<m.dk.length->(-900000000000<=(Z8 (ZP m).dk j).2.2/\(Z8 (ZP m).dk j).2.2<=900000000000)/\(Z8 m.dk j).2.2<=(Z8 (ZP m).dk j).2.2/\((Z8 (ZP m).dk j).2.2<=(Z8 m.dk j).2.2\/ ∀ i,i<m.sm.length->(Z8 m.sm i).2.1=(j:Int)->ZR (Z8 m.sm i)=true->(Z8 (ZP m).dk j).2.2<=Yn (Z8 m.sm i)):=by
    intro j hj;obtain ⟨k0,k1⟩:=Rh (h.desk j hj);unfold ZP;rw [hd j,if_pos hj];unfold WI
    split
    · exact ⟨⟨k0,k1⟩,Int.le_refl _,.inl (Int.le_refl _)⟩
    · rename_i e t hq
      obtain ⟨_,i,hi,hib,hip,rfl⟩:=Sh hq;obtain ⟨_,_,_,_,hband⟩:=h.at hi hip;obtain ⟨a0,a1,_⟩:=TY hband;have hm:=J8 (m:=(Z8 m.dk j).2.2) (f:=Yn (Z8 m.sm i)) (by omega) (by omega) a0 a1;show (-900000000000<=Zv _ _/\Zv _ _<=900000000000)/\_<=Zv _ _/\(Zv _ _<=_\/_)
      rw [hm];refine ⟨by omega,by omega,?_⟩;by_cases hc:Yn (Z8 m.sm i)<=(Z8 m.dk j).2.2
      · left;omega
      · right
        intro i' hi' hb' hp';have:=N6 hq hi' hb' hp';simp only at this;show min (max (Z8 m.dk j).2.2 (Yn (Z8 m.sm i))) 900000000000<=_;omega
  refine ⟨?_,?_,?_,?_,?_,?_⟩
  · have:=h.head
    unfold YG at this ⊢;unfold ZP;rw [e1,e2,e3,e4,e5,e6];exact this
  · intro j hj
    have hj':j<m.dk.length:=by unfold ZP at hj;omega
    exact Zp (hmark j hj').1.1 (hmark j hj').1.2
  · intro j hj
    have hj':j<m.pc.length:=by unfold ZP at hj;rw [e3] at hj;exact hj
    have:=h.pace j hj';unfold Wm at this ⊢;unfold ZP;rw [e1,e3];exact this
  · intro i hi
    have hi':i<m.sm.length:=by unfold ZP at hi;omega
    rw [Wx (m:=m) (by unfold ZP;rw [e2]) (by unfold ZP;rw [e6])];unfold ZP;rw [Xr m hi']
    split
    · rename_i hp
      exact Mb (h.here i hi') hp.2 (by split<;>omega) (by split<;>omega)
    · exact h.here i hi'
  · intro i hi
    have hi':i<m.sm.length:=by unfold ZP at hi;omega
    have ha:=WD m m.dk.length i hi';unfold XQ;show (!ZR (Z8 (Zf m m.dk.length).sm i) || _)=true;rw [ha.2.1];cases hp:ZR (Z8 m.sm i)
    · rfl
    · obtain ⟨b0,b1,ho,hm,hband⟩:=h.at hi' hp
      obtain ⟨a0,a1,a2,a3,a4,a5⟩:=TY hband;obtain ⟨⟨q0,q1⟩,q2,q3⟩:=hmark (Z8 m.sm i).2.1.toNat (by omega)
      have hmay:(Z8 (Zf m m.dk.length).sm i).2.2.2.1=(Z8 m.sm i).2.2.2.1:=by
        rw [Xr m hi'];split<;>rfl
      show (!true || ((Z8 (ZP m).dk (Z8 (Zf m m.dk.length).sm i).2.1.toNat).1 && (V0 (Z8 (Zf m m.dk.length).sm i).2.2.2.1 (Z8 (Zf m m.dk.length).sm i).2.1 && WE (Yn (Z8 (Zf m m.dk.length).sm i)) (Z8 (ZP m).dk (Z8 (Zf m m.dk.length).sm i).2.1.toNat).2.2)))=true;rw [ha.1,ha.2.2,hmay,hopen,ho,hm];rw [Nq a0 a1 (by omega) (by omega) ?_ (by omega)]
      · rfl
      · rcases q3 with q3 | q3
        · omega
        · have:=q3 i hi' (by omega) hp
          omega
  · obtain ⟨j,hj,ho⟩:=h.openD
    exact ⟨j,by unfold ZP;omega,by rw [hopen];exact ho⟩
theorem DE {ss : List Z3} {b f : Int} : ∀ k : Nat, (∀ i, i < k → (Z8 ss i).2.1 = b → ZR (Z8 ss i) = true → ((Z8 ss i).1 = 2 ∧ (i : Int) ≠ f) ∨ ((Z8 ss i).1 = 3 ∧ (i : Int) = f)) →
    ∃ wk wt, Xq ss b k = some (wk, wt) ∧ ((wk = -1 ∧ ∀ i, i < k → (Z8 ss i).2.1 = b → ZR (Z8 ss i) = true → (i : Int) ≠ f) ∨ (wk = f ∧ ∃ i : Nat, i < k ∧ (Z8 ss i).2.1 = b ∧ ZR (Z8 ss i) = true ∧ (i : Int) = f)) ∧ (wt = true → ∃ i, i < k ∧ (Z8 ss i).2.1 = b ∧ ZR (Z8 ss i) = true)
  | 0, _ => ⟨-1, false, rfl, .inl ⟨rfl, fun i hi => by omega⟩, fun h => by cases h⟩
  | k + 1, h => by
    obtain ⟨wk, wt, hs, hw, ht⟩ := DE k (fun i hi => h i (by omega))
    have hu : Xq ss b (k + 1) = if (Z8 ss k).2.1 = b ∧ ZR (Z8 ss k) = true then (if (Z8 ss k).1 = 2 then some (wk, true) else if 0 ≤ wk then none else some ((k : Int), wt)) else some (wk, wt) := by
      show (match Xq ss b k with
        | none => none
        | some (wk, wt) => _) = _
      rw [hs]
    rw [hu];by_cases hp : (Z8 ss k).2.1 = b ∧ ZR (Z8 ss k) = true
    · rw [if_pos hp]
      rcases h k (by omega) hp.1 hp.2 with ⟨h2, hne⟩ | ⟨h3, hkf⟩
      · rw [if_pos h2]
        refine ⟨wk, true, rfl, ?_, fun _ => ⟨k, by omega, hp.1, hp.2⟩⟩
        rcases hw with ⟨e, hn⟩ | ⟨e, i, hi, hb, hpi, hif⟩
        · refine .inl ⟨e, fun i hi hb hpi => ?_⟩
          by_cases hik : i = k
          · subst hik; exact hne
          · exact hn i (by omega) hb hpi
        · exact .inr ⟨e, i, by omega, hb, hpi, hif⟩
      · rw [if_neg (by omega)]
        have hw1 : wk = -1 := by
          rcases hw with ⟨e, _⟩ | ⟨e, i, hi, hb, hpi, hif⟩
          · exact e
          · omega
        rw [if_neg (by omega)];exact ⟨k, wt, rfl, .inr ⟨hkf, k, by omega, hp.1, hp.2, hkf⟩, fun e => by obtain ⟨i, hi, r⟩ := ht e; exact ⟨i, by omega, r⟩⟩
    · rw [if_neg hp]
      refine ⟨wk, wt, rfl, ?_, fun e => by obtain ⟨i, hi, r⟩ := ht e; exact ⟨i, by omega, r⟩⟩
      rcases hw with ⟨e, hn⟩ | ⟨e, i, hi, r⟩
      · refine .inl ⟨e, fun i hi hb hpi => ?_⟩
        by_cases hik : i = k
        · subst hik; exact absurd ⟨hb, hpi⟩ hp
        · exact hn i (by omega) hb hpi
      · exact .inr ⟨e, i, by omega, r⟩
theorem YE (h:Loose m):ZF (ZP m)=true:=by
  unfold ZF;rw [ZL];refine ⟨(Fo h).mk',?_⟩;obtain ⟨e1,e2,e3,e4,e5,e6⟩:=ZG m m.dk.length;refine List.all_eq_true.2 fun b hb=> ?_;have hb:=List.mem_range.1 hb;have hb':b<m.dk.length:=by unfold ZP at hb;omega
  have hn:(ZP m).sm.length=m.sm.length:=e5;have ha:=WD m m.dk.length
  have hstate:∀ i,i<m.sm.length->(Z8 (ZP m).sm i).2.1=(b:Int)->ZR (Z8 (ZP m).sm i)=true->((Z8 (ZP m).sm i).1=2/\(i:Int) ≠ WS m.sm b)\/((Z8 (ZP m).sm i).1=3/\(i:Int)=WS m.sm b):=by
    intro i hi hib hip;have hib':(Z8 m.sm i).2.1=(b:Int):=(ha i hi).1.symm.trans hib;have hip':ZR (Z8 m.sm i)=true:=(ha i hi).2.1.symm.trans hip;unfold ZP;rw [Xr m hi,if_pos ⟨by omega,hip'⟩,hib'];by_cases hf:WS m.sm (b:Int)=(i:Int)
    · right;rw [if_pos hf];exact ⟨rfl,hf.symm⟩
    · left;rw [if_neg hf];exact ⟨rfl,fun e=>hf e.symm⟩
  obtain ⟨wk,wt,hs,hw,ht⟩:=DE (b:=(b:Int)) (f:=WS m.sm b) (ss:=(ZP m).sm) m.sm.length hstate;unfold XZ;rw [hn,hs];simp only;have hdesk:=V1 m b m.dk.length (Z2 _);rw [if_pos hb'] at hdesk;cases hq:atV m.sm (b:Int) m.sm.length with
  | nil=>
    have hempty:∀ i,i<m.sm.length-> ¬ ((Z8 (ZP m).sm i).2.1=(b:Int)/\ZR (Z8 (ZP m).sm i)=true):=by
      rintro i hi ⟨hib,hip⟩;have:=(Yi m.sm (b:Int) (Yn (Z8 m.sm i),(i:Int)) m.sm.length).2 ⟨i,hi,(ha i hi).1.symm.trans hib,(ha i hi).2.1.symm.trans hip,rfl⟩;rw [hq] at this;exact List.not_mem_nil this
    have hwt:wt=false:=by
      cases wt
      · rfl
      · obtain ⟨i,hi,r⟩:=ht rfl
        exact absurd r (hempty i hi)
    have hwk:wk= -1:=by
      rcases hw with ⟨e,_⟩ | ⟨_,i,hi,hb,hp,_⟩
      · exact e
      · exact absurd ⟨hb,hp⟩ (hempty i hi)
    have hwho:(Z8 (ZP m).dk b).2.1= -1:=by
      unfold ZP;rw [hdesk];unfold WI;rw [hq]
    rw [hwho,hwk,hwt];rfl
  | cons e t=>
    obtain ⟨hfe,i,hi,hib,hip,rfl⟩:=Sh hq
    have hwho:(Z8 (ZP m).dk b).2.1=(i:Int):=by
      unfold ZP;rw [hdesk];unfold WI;rw [hq]
    have hwk:wk=(i:Int):=by
      rcases hw with ⟨_,hn⟩ | ⟨e,_⟩
      · exact absurd hfe.symm (hn i hi ((ha i hi).1.trans hib) ((ha i hi).2.1.trans hip))
      · exact e.trans hfe
    rw [hwho,hwk];have:decide ((i:Int)<0)=false:=Xn (by omega);rw [this];simp
def Qz (gs:List Zt) (s:Z3):Int:=min (max s.2.2.2.2.2.2.2.2.2.1 (UI (bnd gs s.2.2.2.2.1) s.2.2.2.2.2.1 s.2.2.2.2.2.2.1).1) (UI (bnd gs s.2.2.2.2.1) s.2.2.2.2.2.1 s.2.2.2.2.2.2.1).2
def Zu (m:Z6) (who:Int):Int:=Qz m.gd (Z8 m.sm who.toNat)
theorem Bo (gs:List Zt) (s:Z3):0<=Qz gs s/\Qz gs s<=1024:=by
 obtain ⟨b0,b1,b2⟩:=xM gs s.2.2.2.2.1;obtain ⟨n0,n1,n2⟩:=Dt (lo:=s.2.2.2.2.2.1) (hi:=s.2.2.2.2.2.2.1) b0 b1 b2;unfold Qz;omega
theorem PX (m:Z6) (who:Int):0<=Zu m who/\Zu m who<=1024:=Bo _ _
def Vc (m:Z6) (but:Int) (q:List Z4):Int:=q.foldl (fun n e=>if e.2=but then n else n+Zu m e.2) 0
theorem Fq (m:Z6) (but:Int) (q:List Z4) (e:Z4):Vc m but (q++[e])=if e.2=but then Vc m but q else Vc m but q+Zu m e.2:=by
 unfold Vc;rw [List.foldl_append];rfl
theorem IA (m:Z6) (but:Int):∀ (q:List Z4) (n:Int),0<=n->0<=q.foldl (fun n e=>if e.2=but then n else n+Zu m e.2) n/\q.foldl (fun n e=>if e.2=but then n else n+Zu m e.2) n<=n+1024*q.length
 | [],n,h=>⟨h,by simp⟩
 | e::q,n,h=>by
  have hw:=PX m e.2;have ih:=IA m but q (if e.2=but then n else n+Zu m e.2) (by split<;>omega);refine ⟨ih.1,Int.le_trans ih.2 ?_⟩;simp only [Y4,Int.natCast_add,Int.natCast_one]
  split<;>omega
theorem IB (m:Z6) (but:Int) (q:List Z4):0<=Vc m but q/\Vc m but q<=1024*q.length:=by
 have:=IA m but q 0 (by omega);unfold Vc;omega
def Zi (m:Z6) (b but:Int):Int:=Vc m but (atV m.sm b m.sm.length)
theorem Tu (m:Z6) (b but:Int):0<=Zi m b but/\Zi m b but<=1024*m.sm.length:=by
 have h:=IB m but (atV m.sm b m.sm.length);have hl:=TK m.sm b m.sm.length;unfold Zi;refine ⟨h.1,Int.le_trans h.2 ?_⟩;omega
def usedIn (m:Z6) (room:Int):Nat->Int × Int
 | 0=>(0,0)
 | k+1=>if (Xg m.rm k:Int)=room then ((if (Z8 m.dk k).1 then max (usedIn m room k).1 (Zi m k (-1)) else (usedIn m room k).1),(usedIn m room k).2+Zi m k (-1)) else usedIn m room k
theorem Pd (m:Z6) (room:Int) (hl:m.sm.length<=12):∀ k:Nat,(0<=(usedIn m room k).1/\(usedIn m room k).1<=12288)/\0<=(usedIn m room k).2/\(usedIn m room k).2<=12288*k
 | 0=>by simp [usedIn]
 | k+1=>by
  have ih:=Pd m room hl k;have hu:=Tu m k (-1);unfold usedIn
  split
  ·simp only
   constructor
   ·split<;>omega
   ·push_cast;omega
  ·push_cast;omega
def coalIn (m:Z6) (room:Nat):Int:=ON (ZN m.rm room) (usedIn m room m.dk.length).1 (usedIn m room m.dk.length).2
def coalTo (m:Z6):Nat->Int
 | 0=>0
 | k+1=>coalTo m k+coalIn m k
def QO (m:Z6):Int:=coalTo m m.rm.length
theorem OD (m:Z6):∀ k:Nat,-(k:Int)<=coalTo m k/\coalTo m k<=1024000000*k
 | 0=>by simp [coalTo]
 | k+1=>by
  have ih:=OD m k;have hc:=FU (ZN m.rm k) (Xf (ZN m.rm k) (usedIn m k m.dk.length).1) (usedIn m k m.dk.length).2;unfold coalTo coalIn ON
  push_cast
  omega
def UB (s:Z3) (b:Int):Z3:=(2,b,s.2.2)
def Xu (m:Z6) (who b:Int):Z6:={ m with sm:=m.sm.set who.toNat (UB (Z8 m.sm who.toNat) b) }
def Zl (m:Z6) (who b:Int):Int:=QO (Xu m who b)
def YK (m:Z6) (who:Int) (b:Nat):Bool:=(Z8 m.dk b).1 && V0 (Z8 m.sm who.toNat).2.2.2.1 b
def Rj (m:Z6) (who:Int) (b:Nat):Bool:=YK m who b && Ww (Zu m who) (Zi m b who) (Zb m.rm b)
def VE (m:Z6) (who:Int):Nat->List Int
 | 0=>[]
 | k+1=>if Rj m who k then VE m who k++[(k:Int)] else VE m who k
def YT (m:Z6) (who:Int):List Int:=VE m who m.dk.length
theorem OF (m:Z6) (who:Int):∀ k,(VE m who k).length<=k
 | 0=>Z2 _
 | k+1=>by
  have:=OF m who k;unfold VE
  split
  ·simp;omega
  ·omega
theorem OG (m:Z6) (who:Int) (x:Int):∀ k,x ∈ VE m who k ↔ ∃ b:Nat,b<k/\x=(b:Int)/\Rj m who b=true
 | 0=>by simp [VE]
 | k+1=>by
  have ih:=OG m who x k;unfold VE
  split
  ·rename_i hf
   rw [List.mem_append,ih];constructor
   ·rintro (⟨b,hb,e,h⟩ | h)
    ·exact ⟨b,by omega,e,h⟩
    ·exact ⟨k,by omega,by simpa using h,hf⟩
   ·rintro ⟨b,hb,e,h⟩
    by_cases hbk:b=k
    ·subst hbk;right;simp [e]
    ·left;exact ⟨b,by omega,e,h⟩
  ·rename_i hf
   rw [ih];constructor
   ·rintro ⟨b,hb,e,h⟩
    exact ⟨b,by omega,e,h⟩
   ·rintro ⟨b,hb,e,h⟩
    by_cases hbk:b=k
    ·subst hbk;exact absurd h hf
    ·exact ⟨b,by omega,e,h⟩
def Ve (m:Z6) (b:Nat):Bool:=(Z8 m.dk b).1 && VI (Zi m b (-1)) (Zb m.rm b)
def Xk (m:Z6):Bool:=(List.range m.dk.length).any (Ve m)
def XF (m:Z6) (who:Int) (a:Int × Int) (b:Int):Int × Int:=if Zl m who b<a.2\/(Zl m who b=a.2/\b=(Z8 m.sm who.toNat).2.1) then (b,Zl m who b) else a
def Xj (m:Z6) (who:Int) (f:List Int) (k:Nat):Int × Int:=((f.take k).drop 1).foldl (XF m who) (Z8 f 0,Zl m who (Z8 f 0))
def YN (m:Z6) (who:Int):Nat->Int × Int
 | 0=>(-1,0)
 | k+1=>if YK m who k && (decide ((YN m who k).1<0) || decide ((YN m who k).2<XE (Zi m k who) (Zb m.rm k))) then ((k:Int),XE (Zi m k who) (Zb m.rm k)) else YN m who k
def Y1 (m:Z6) (who:Int):Int:=if !Xk m && decide (0<(YT m who).length) then (Xj m who (YT m who) (YT m who).length).1 else (YN m who m.dk.length).1
theorem FK (m:Z6) (who:Int) (P:Int->Prop):∀ (f:List Int) (a:Int × Int),P a.1->(∀ x ∈ f,P x)->P (f.foldl (XF m who) a).1
 | [],a,h,_=>h
 | b::f,a,h,hf=>by
  refine FK m who P f (XF m who a b) ?_ (fun x hx=>hf x (List.mem_cons_of_mem _ hx));unfold XF
  split
  ·exact hf b (by simp)
  ·exact h
theorem Jq (m:Z6) (who:Int):∀ k:Nat,((YN m who k).1= -1/\ ∀ b,b<k->YK m who b=false)\/ ∃ b:Nat,b<k/\(YN m who k).1=(b:Int)/\YK m who b=true
 | 0=> .inl ⟨rfl,fun b hb=>by omega⟩
 | k+1=>by
  have ih:=Jq m who k;unfold YN
  split
  ·rename_i h
   simp only [ZL] at h;exact .inr ⟨k,by omega,rfl,h.1⟩
  ·rename_i h
   rcases ih with ⟨e,hn⟩ | ⟨b,hb,e,hm⟩
   ·refine .inl ⟨e,fun b hb=> ?_⟩
    by_cases hbk:b=k
    ·subst hbk
     cases hm:YK m who b
     ·rfl
     ·exfalso
      apply h;rw [hm,e];rfl
    ·exact hn b (by omega)
   ·exact .inr ⟨b,by omega,e,hm⟩
theorem VR (m:Z6) (who:Int):(Y1 m who= -1/\ ∀ b,b<m.dk.length->YK m who b=false)\/ ∃ b:Nat,b<m.dk.length/\Y1 m who=(b:Int)/\YK m who b=true:=by
 unfold Y1
 split
 ·rename_i h
  simp only [ZL,YZ] at h;right
  have hin:∀ x ∈ YT m who,∃ b:Nat,b<m.dk.length/\x=(b:Int)/\YK m who b=true:=by
   intro x hx;obtain ⟨b,hb,e,hf⟩:=(OG m who x m.dk.length).1 hx;unfold Rj at hf;simp only [ZL] at hf;exact ⟨b,hb,e,hf.1⟩
  unfold Xj;exact FK m who (fun x=> ∃ b:Nat,b<m.dk.length/\x=(b:Int)/\YK m who b=true) _ _ (hin _ (Vt h.2)) (fun x hx=>hin x (List.mem_of_mem_take (List.mem_of_mem_drop hx)))
 ·exact Jq m who m.dk.length
theorem Tn {st be rk my gu lo hi hd ca ut wk:Int} (h0:1<=st/\st<=3) (h1:0<=be/\be<=7) (h2:inB rk (-5) 5=true) (h3:1<=my/\my<=255) (h4 : -1<=gu/\gu<=5) (h5:Ya lo hi=true) (h6 : -1000000000000<=hd/\hd<=1000000000000) (h7:0<=ca/\ca<=Zh rk-1) (h8:0<=ut/\ut<=1024) (h9:0<=wk/\wk<=100000000000) :
  YY (st,be,rk,my,gu,lo,hi,hd,ca,ut,wk)=true:=by
 unfold YY;simp only [ZL];exact ⟨Zp h0.1 h0.2,Zp h1.1 h1.2,h2,Zp h3.1 h3.2,Zp h4.1 h4.2,h5,Zp h6.1 h6.2,Zp h7.1 h7.2,Zp h8.1 h8.2,Zp h9.1 h9.2⟩
theorem XP {s:Z3} : Yb m s=true ↔ s=Uv\/(YY s=true/\s.2.2.2.2.1<m.gd.length/\s.2.1<m.dk.length):=by
 unfold Yb Zs;simp only [ZL,Bool.or_eq_true,YZ];constructor
 ·rintro ⟨hg | hp,hr⟩
  ·exact .inl (U2 hg)
  ·right
   refine ⟨hp,?_⟩
   rcases hr with e | e
   ·have:s.1=0:=by simpa using e
    rw [MG this] at hp;cases hp
   ·exact e
 ·rintro (rfl | ⟨hp,hr⟩)
  ·exact ⟨.inl Ec,.inl rfl⟩
  ·exact ⟨.inr hp,.inr hr⟩
theorem Uy {s:Z3} (h:ZR s=false):XQ m s=true:=by unfold XQ;rw [h];rfl
theorem Nt {s:Z3} (h1:(Z8 m.dk s.2.1.toNat).1=true) (h2:V0 s.2.2.2.1 s.2.1=true) (h3:WE (Yn s) (Z8 m.dk s.2.1.toNat).2.2=true):XQ m s=true:=by
 unfold XQ;rw [h1,h2,show s.2.2.2.2.2.2.2.1=Yn s from rfl,h3];simp
theorem ZM (h:ZF m=true):Loose m:=by
 unfold ZF at h;simp only [ZL] at h;exact Py h.1
def setS (m:Z6) (k:Nat) (s:Z3):Z6:={ m with sm:=m.sm.set k s }
theorem Loose.setS (h:Loose m) {k:Nat} (hk:k<m.sm.length) {s:Z3} (h1:Yb m s=true) (h2:XQ m s=true):Loose (setS m k s):=by
 refine ⟨?_,h.desk,h.pace,?_,?_,h.openD⟩
 ·have:=h.head
  unfold YG at this ⊢;unfold Go.Proofs.YtamgfpdahadnfaaGreatDoor.setS;simpa using this
 ·intro i hi
  have hi':i<m.sm.length:=by unfold Go.Proofs.YtamgfpdahadnfaaGreatDoor.setS at hi;simpa using hi
  show Yb (Go.Proofs.YtamgfpdahadnfaaGreatDoor.setS m k s) (Z8 (m.sm.set k s) i)=true;rw [Wx (m:=m) (m':=Go.Proofs.YtamgfpdahadnfaaGreatDoor.setS m k s) rfl rfl,ZI hk]
  split
  ·exact h1
  ·exact h.here i hi'
 ·intro i hi
  have hi':i<m.sm.length:=by unfold Go.Proofs.YtamgfpdahadnfaaGreatDoor.setS at hi;simpa using hi
  show XQ m (Z8 (m.sm.set k s) i)=true;rw [ZI hk]
  split
  ·exact h2
  ·exact h.seat i hi'
theorem Vu {α:Type} [Inhabited α] (xs:List α) (x:α) (i:Nat):Z8 (xs++[x]) i=if i=xs.length then x else Z8 xs i:=by
 unfold Z8
 split
 ·rename_i h;subst h;simp [List.getD]
 ·rename_i h
  rcases Nat.lt_or_ge i xs.length with hi | hi
  ·simp [List.getD,List.getElem?_append_left hi]
  ·simp [List.getD,List.getElem?_append_right hi,List.getElem?_eq_none hi]
   rw [List.getElem?_eq_none (by simp;omega)];rfl
def pushS (m:Z6) (s:Z3):Z6:={ m with sm:=m.sm++[s] }
theorem Loose.pushS (h:Loose m) (hl:m.sm.length<12) {s:Z3} (h1:Yb m s=true) (h2:XQ m s=true):Loose (pushS m s):=by
 refine ⟨?_,h.desk,h.pace,?_,?_,h.openD⟩
 ·have:=h.head
  unfold YG at this ⊢;unfold Go.Proofs.YtamgfpdahadnfaaGreatDoor.pushS;simp only [ZL,YZ] at this ⊢;refine ⟨this.1,this.2.1,?_,this.2.2.2⟩;simp;omega
 ·intro i hi
  have hi':i<m.sm.length+1:=by unfold Go.Proofs.YtamgfpdahadnfaaGreatDoor.pushS at hi;simpa using hi
  show Yb (Go.Proofs.YtamgfpdahadnfaaGreatDoor.pushS m s) (Z8 (m.sm++[s]) i)=true;rw [Wx (m:=m) (m':=Go.Proofs.YtamgfpdahadnfaaGreatDoor.pushS m s) rfl rfl,Vu]
  split
  ·exact h1
  ·exact h.here i (by omega)
 ·intro i hi
  have hi':i<m.sm.length+1:=by unfold Go.Proofs.YtamgfpdahadnfaaGreatDoor.pushS at hi;simpa using hi
  show XQ m (Z8 (m.sm++[s]) i)=true;rw [Vu]
  split
  ·exact h2
  ·exact h.seat i (by omega)
def YJ (m:Z6) (b:Int):Int:=(Z8 m.dk b.toNat).2.2
def QE (s:Z3) (b had:Int):Z3:=(2,b,s.2.2.1,s.2.2.2.1,s.2.2.2.2.1,s.2.2.2.2.2.1,s.2.2.2.2.2.2.1,had,s.2.2.2.2.2.2.2.2)
def putS (m:Z6) (s:Z3) (b:Int):Z3:=(s.1,b,s.2.2.1,s.2.2.2.1,s.2.2.2.2.1,s.2.2.2.2.2.1,s.2.2.2.2.2.2.1,Zr (Yn s) (YJ m s.2.1) (YJ m b),s.2.2.2.2.2.2.2.2)
def U7 (s:Z3) (may:Int):Z3:=(s.1,s.2.1,s.2.2.1,may,s.2.2.2.2)
def Ez (s:Z3) (lo hi:Int):Z3:=(s.1,s.2.1,s.2.2.1,s.2.2.2.1,s.2.2.2.2.1,lo,hi,s.2.2.2.2.2.2.2)
def OJ (s:Z3) (g:Int):Z3:=(s.1,s.2.1,s.2.2.1,s.2.2.2.1,g,s.2.2.2.2.2)
def Yd (rank may guild:Int):Z3:=(1,0,rank,may,guild,0,1024,0,0,0,0)
theorem VQ (h:Loose m):m.dk.length<=8:=by
 have:=h.head;unfold YG at this;simp only [ZL,YZ] at this;have h8:=(Zq this.1).2.2.2;omega
theorem BQ (h:Loose m):m.gd.length<=6:=by
 have:=h.head;unfold YG at this;simp only [ZL,YZ] at this;exact (Vl this.2.1).2
theorem Loose.limits (h:Loose m) {k:Nat} (hk:k<m.sm.length) (hs:(Z8 m.sm k).1 ≠ 0):YY (Z8 m.sm k)=true/\(Z8 m.sm k).2.2.2.2.1<m.gd.length/\(Z8 m.sm k).2.1<m.dk.length:=by
 rcases XP.1 (h.here k hk) with e | e
 ·rw [e] at hs;exact absurd rfl hs
 ·exact e
theorem B7 (h:Loose m) {k:Nat} (hk:k<m.sm.length) (hp:ZR (Z8 m.sm k)=true):Loose (setS m k (stS (Z8 m.sm k) 1)):=
 h.setS hk (Mb (h.here k hk) hp (by omega) (by omega)) (Uy rfl)
theorem Em (h:Loose m) {k:Nat} (hk:k<m.sm.length):Loose (setS m k Uv):=
 h.setS hk (XP.2 (.inl rfl)) (Uy rfl)
theorem BZ (h:Loose m) {k:Nat} (hk:k<m.sm.length) {rank:Int} {s:Z3} (hr:XH (Z8 m.sm k) rank=(s,true)):Loose (setS m k s):=by
 unfold XH at hr
 split at hr
 ·rename_i hp
  split at hr
  ·rename_i hrk
   obtain ⟨rfl,_⟩:=Prod.mk.inj hr
   have hne:(Z8 m.sm k).1 ≠ 0:=by
    intro e;rw [MG e] at hp;cases hp
   obtain ⟨_,g1,b1⟩:=h.limits hk hne;refine h.setS hk (XP.2 (.inr ⟨PF hp hrk,g1,b1⟩)) ?_;have:=h.seat k hk;unfold XQ at this ⊢;exact this
  ·cases (Prod.mk.inj hr).2
 ·cases (Prod.mk.inj hr).2
theorem Ah (h:Loose m) {k:Nat} (hk:k<m.sm.length) (hs:(Z8 m.sm k).1 ≠ 0) {lo hi:Int} (hp:Ya lo hi=true):Loose (setS m k (Ez (Z8 m.sm k) lo hi)):=by
 obtain ⟨p,g1,b1⟩:=h.limits hk hs;refine h.setS hk (XP.2 (.inr ⟨?_,g1,b1⟩)) ?_
 ·generalize Z8 m.sm k=s at *
  obtain ⟨st,be,rk,my,gu,lo',hi',hd,ca,ut,wk⟩:=s;obtain ⟨x0,x1,x2,x3,x4,x5,x6,x7,x8,x9⟩:=Zj p;exact Tn x0 x1 x2 x3 x4 hp x6 x7 x8 x9
 ·have:=h.seat k hk
  unfold XQ at this ⊢;exact this
theorem BY (h:Loose m) {k:Nat} (hk:k<m.sm.length) (hs:(Z8 m.sm k).1 ≠ 0) {g:Int} (g0 : -1<=g) (g1:g<m.gd.length):Loose (setS m k (OJ (Z8 m.sm k) g)):=by
 obtain ⟨p,_,b1⟩:=h.limits hk hs;have hg:=BQ h;refine h.setS hk (XP.2 (.inr ⟨?_,g1,b1⟩)) ?_
 ·generalize Z8 m.sm k=s at *
  obtain ⟨st,be,rk,my,gu,lo',hi',hd,ca,ut,wk⟩:=s;obtain ⟨x0,x1,x2,x3,x4,x5,x6,x7,x8,x9⟩:=Zj p;exact Tn x0 x1 x2 x3 ⟨g0,by omega⟩ x5 x6 x7 x8 x9
 ·have:=h.seat k hk
  unfold XQ at this ⊢;exact this
theorem Ai (h:Loose m) {k:Nat} (hk:k<m.sm.length) (hs:(Z8 m.sm k).1 ≠ 0) {may:Int} (m0:1<=may) (m1:may<=255) (hb:ZR (Z8 m.sm k)=false\/V0 may (Z8 m.sm k).2.1=true):Loose (setS m k (U7 (Z8 m.sm k) may)):=by
 obtain ⟨p,g1,b1⟩:=h.limits hk hs;refine h.setS hk (XP.2 (.inr ⟨?_,g1,b1⟩)) ?_
 ·generalize Z8 m.sm k=s at *
  obtain ⟨st,be,rk,my,gu,lo',hi',hd,ca,ut,wk⟩:=s;obtain ⟨x0,x1,x2,x3,x4,x5,x6,x7,x8,x9⟩:=Zj p;exact Tn x0 x1 x2 ⟨m0,m1⟩ x4 x5 x6 x7 x8 x9
 ·rcases hb with hb | hb
  ·exact Uy hb
  ·have:=h.seat k hk
   unfold XQ at this;cases hp:ZR (Z8 m.sm k)
   ·exact Uy hp
   ·rw [hp] at this
    simp only [Bool.not_true,Bool.false_or,ZL] at this;exact Nt (s:=U7 (Z8 m.sm k) may) this.1 hb this.2.2
theorem Aj {s:Z3} {b:Nat} {had:Int} (h:Loose m) (hp:YY s=true) (hg:s.2.2.2.2.1<m.gd.length) (hb:b<m.dk.length) (ho:(Z8 m.dk b).1=true) (hm:V0 s.2.2.2.1 b=true) (hd:WE had (Z8 m.dk b).2.2=true) :
  Yb m (QE s b had)=true/\XQ m (QE s b had)=true:=by
 have h8:=VQ h;obtain ⟨st,be,rk,my,gu,lo',hi',hd',ca,ut,wk⟩:=s;obtain ⟨x0,x1,x2,x3,x4,x5,x6,x7,x8,x9⟩:=Zj hp;obtain ⟨d0,d1,_⟩:=TY hd;refine ⟨XP.2 (.inr ⟨Tn (by omega) ⟨by omega,by omega⟩ x2 x3 x4 x5 ⟨d0,d1⟩ x7 x8 x9,hg,?_⟩),?_⟩
 ·show (b:Int)<_;omega
 ·exact Nt (m:=m) (s:=QE (st,be,rk,my,gu,lo',hi',hd',ca,ut,wk) b had) (by show (Z8 m.dk ((b:Int)).toNat).1=true;simpa using ho) hm (by show WE had (Z8 m.dk ((b:Int)).toNat).2.2=true;simpa using hd)
theorem Mo (h:Loose m) {s:Z3} {b:Nat} (hp:YY s=true) (hpr:ZR s=true) (hg:s.2.2.2.2.1<m.gd.length) (b0:0<=s.2.1) (b1:s.2.1<m.dk.length) (hband:WE (Yn s) (YJ m s.2.1)=true) (hb:b<m.dk.length) (ho:(Z8 m.dk b).1=true) (hm:V0 s.2.2.2.1 b=true) :
  Yb m (putS m s b)=true/\XQ m (putS m s b)=true:=by
 have h8:=VQ h;obtain ⟨k0,k1⟩:=Rh (h.desk s.2.1.toNat (by omega));obtain ⟨k2,k3⟩:=Rh (h.desk b hb);obtain ⟨a0,a1,a2,a3,a4,a5⟩:=TY hband;have hmk:YJ m (b:Int)=(Z8 m.dk b).2.2:=by unfold YJ;simp
 have hmv:Zr (Yn s) (YJ m s.2.1) (YJ m b)=Yn s-YJ m s.2.1+YJ m b:=Av a0 a1 a2 a3 (by omega) (by omega);obtain ⟨st,be,rk,my,gu,lo',hi',hd',ca,ut,wk⟩:=s;obtain ⟨x0,x1,x2,x3,x4,x5,x6,x7,x8,x9⟩:=Zj hp;simp only at b0 b1 hmv a4 a5 k0 k1 hg hm;refine ⟨XP.2 (.inr ⟨?_,hg,?_⟩),?_⟩
 ·unfold putS
  simp only;rw [hmv];exact Tn x0 ⟨by omega,by omega⟩ x2 x3 x4 x5 ⟨by omega,by omega⟩ x7 x8 x9
 ·show (b:Int)<_;omega
 ·refine Nt (m:=m) (s:=putS m (st,be,rk,my,gu,lo',hi',hd',ca,ut,wk) b) (by show (Z8 m.dk ((b:Int)).toNat).1=true;simpa using ho) hm ?_
  show WE (Zr _ _ _) (Z8 m.dk ((b:Int)).toNat).2.2=true;rw [hmv,show ((b:Int)).toNat=b by simp,<-hmk];exact Nq (by omega) (by omega) (by omega) (by omega) (by omega) (by omega)
def TH (m:Z6) (r:Nat) (p:Int):Z6:={ m with pc:=m.pc.set r p }
theorem J2 (h:Loose m) {r:Nat} (hr:r<m.rm.length) {p:Int} (p0:0<=p) (p1:p<(ZN m.rm r).2.length):Loose (TH m r p):=by
 have hd:=h.head
 have hpl:m.pc.length=m.rm.length:=by
  unfold YG at hd;simp only [ZL,YZ] at hd;exact hd.2.2.2.2.1
 refine ⟨?_,h.desk,?_,h.here,h.seat,h.openD⟩
 ·unfold YG at hd ⊢
  unfold TH;simpa using hd
 ·intro j hj
  have hj':j<m.pc.length:=by unfold TH at hj;simpa using hj
  have:=h.pace j hj';unfold Wm at this ⊢;unfold TH;simp only;rw [ZI (by omega)]
  split
  ·rename_i e;subst e;exact Zp p0 (by omega)
  ·exact this
def Zk (m:Z6) (b:Nat) (o:Bool):Z6:={ m with dk:=m.dk.set b (o,(Z8 m.dk b).2) }
theorem J1 (h:Loose m) {b:Nat} (hb:b<m.dk.length):Loose (Zk m b true):=by
 have hat:∀ j,(Z8 (Zk m b true).dk j)=if j=b then (true,(Z8 m.dk b).2) else Z8 m.dk j:=fun j=>ZI hb j
 have hmk:∀ j,(Z8 (Zk m b true).dk j).2=(Z8 m.dk j).2:=fun j=>by
  rw [hat];by_cases e:j=b
  ·rw [if_pos e,e]
  ·rw [if_neg e]
 have hop:∀ j,(Z8 m.dk j).1=true->(Z8 (Zk m b true).dk j).1=true:=fun j e=>by
  rw [hat];by_cases e':j=b
  ·rw [if_pos e']
  ·rw [if_neg e'];exact e
 have hlen:(Zk m b true).dk.length=m.dk.length:=by unfold Zk;simp
 refine ⟨?_,?_,h.pace,?_,?_,?_⟩
 ·have:=h.head
  unfold YG at this ⊢;rw [hlen];exact this
 ·intro j hj
  have:=h.desk j (by omega);unfold VB at this ⊢;rw [hmk];exact this
 ·intro i hi
  rw [Wx (m:=m) (m':=Zk m b true) rfl hlen];exact h.here i hi
 ·intro i hi
  have:=h.seat i hi;unfold XQ at this ⊢;show (!ZR (Z8 m.sm i) || _)=true;cases hp:ZR (Z8 m.sm i)
  ·rfl
  ·rw [hp] at this
   simp only [Bool.not_true,Bool.false_or,ZL] at this ⊢;refine ⟨hop _ this.1,this.2.1,?_⟩;show WE _ (Z8 (Zk m b true).dk (Z8 m.sm i).2.1.toNat).2.2=true;rw [hmk];exact this.2.2
 ·exact ⟨b,by omega,by rw [hat,if_pos rfl]⟩
end Go.Proofs.YtamgfpdahadnfaaGreatDoor
