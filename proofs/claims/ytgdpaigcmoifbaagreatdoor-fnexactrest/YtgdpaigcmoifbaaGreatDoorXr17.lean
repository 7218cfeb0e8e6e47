/- Part 17 of what the proof rests on. No condition but those that a theorem names. -/
import Derived.Test.YtgdpaigcmoifbaaGreatDoorXr12
import Derived.Test.YtgdpaigcmoifbaaGreatDoorXr13
set_option maxHeartbeats 8000000
set_option maxRecDepth 100000
namespace Go.Proofs.YtgdpaigcmoifbaaGreatDoor
open Go.ChangeShapes Go.WideShapes Go.ChangeAt Go.RowKit Go.Sort
set_option linter.unusedVariables false
variable {w w' w0 w1 w2 w3 w₀ wr W W' X A B C : World} {v v0 v1 v2 v3 v4 u u0 u1 u2 u3 u4 : Value} {m : Z3}
def ZM (s:ZZ):Bool:=s.1 ==2 || s.1 ==3
def Yl (had XX:Int):Bool:=inB had (-1000000000000) 1000000000000 && (inB XX (-1000000000000) 1000000000000 && inB (had-XX) (-20000) 63000)
def U0 (d:Yt):Bool:=inB d.2.2 (-900000000000) 900000000000
def VF (m:Z3) (j:Nat):Bool:=inB (Z8 m.pc j) 0 (((ZU m.rm j).2.length:Int)-1)
def Ym (m:Z3) (s:ZZ):Bool:=Zi s && (s.1 ==0 || (decide (s.2.2.2.2.1<m.gd.length) && decide (s.2.1<m.dk.length)))
def Xh (m:Z3) (s:ZZ):Bool:= !ZM s || ((Z8 m.dk s.2.1.toNat).1 && (UQ s.2.2.2.1 s.2.1 && Yl s.2.2.2.2.2.2.2.1 (Z8 m.dk s.2.1.toNat).2.2))
def XT (m:Z3):Bool:=YF m.rm && (Zk m.gd && (decide (m.sm.length<=12) && (decide ((m.dk.length:Int)=ZW m.rm) && (decide (m.pc.length=m.rm.length) && inB m.now 0 1000000))))
def Wi (m:Z3) (k:Nat):Bool:=(List.range k).all fun j=>U0 (Z8 m.dk j)
def UW (m:Z3) (k:Nat):Bool:=(List.range k).any fun j=>(Z8 m.dk j).1
def WD (m:Z3) (k:Nat):Bool:=(List.range k).all fun j=>VF m j
def WE (m:Z3) (k:Nat):Bool:=(List.range k).all fun j=>Ym m (Z8 m.sm j) && Xh m (Z8 m.sm j)
def Y2 (m:Z3):Bool:=XT m && (Wi m m.dk.length && (WD m m.pc.length && (WE m m.sm.length && UW m m.dk.length)))
theorem UN {p:Nat->Bool} (k:Nat):(List.range (k+1)).all p=((List.range k).all p && p k):=by rw [List.range_succ,List.all_append];simp
theorem DM {p:Nat->Bool} (k:Nat):(List.range (k+1)).any p=((List.range k).any p || p k):=by rw [List.range_succ,List.any_append];simp
theorem RK {p:Nat->Bool} {k n:Nat} (hk:k<n) (h:p k=false):(List.range n).all p=false:=by
 rw [List.all_eq_false];exact ⟨k,List.mem_range.2 hk,by simp [h]⟩
theorem GQ {p:Nat->Bool} {k n:Nat} (h:(List.range n).all p=true) (hk:k<n):p k=true:=List.all_eq_true.1 h k (List.mem_range.2 hk)
theorem WK (h:XT m=false):Y2 m=false:=by unfold Y2;rw [h];rfl
theorem J9 {k:Nat} (hk:k<m.dk.length) (h:U0 (Z8 m.dk k)=false):Y2 m=false:=by
 unfold Y2 Wi;rw [RK hk h];simp
theorem Kc {k:Nat} (hk:k<m.pc.length) (h:VF m k=false):Y2 m=false:=by
 unfold Y2 WD;rw [RK (p:=fun j=>VF m j) hk h];simp
theorem Ma {k:Nat} (hk:k<m.sm.length) (h:(Ym m (Z8 m.sm k) && Xh m (Z8 m.sm k))=false):Y2 m=false:=by
 unfold Y2 WE;rw [RK (p:=fun j=>Ym m (Z8 m.sm j) && Xh m (Z8 m.sm j)) hk h];simp
theorem It (h1:XT m=true) (h2:Wi m m.dk.length=true) (h3:WD m m.pc.length=true) (h4:WE m m.sm.length=true):Y2 m=UW m m.dk.length:=by
 unfold Y2;rw [h1,h2,h3,h4];rfl
theorem JU {s:ZZ} (h:Ym m s=true) (hp:ZM s=true):0<=s.2.1/\s.2.1<m.dk.length/\s.2.1<=7/\1<=s.2.2.2.1/\s.2.2.2.1<=255/\s.2.2.2.2.1<m.gd.length:=by
 obtain ⟨st,be,rk,my,gu,lo,hi,hd,ca,ut,wk⟩:=s
 have hst:st ≠ 0:=by
  intro e;subst e;cases hp
 unfold Ym at h;simp only [ZJ,Bool.or_eq_true,Yg] at h;obtain ⟨h1,h2⟩:=h
 rcases h2 with h2 | ⟨h2,h3⟩
 ·exact absurd (by simpa using h2) hst
 ·have hs:Zi (st,be,rk,my,gu,lo,hi,hd,ca,ut,wk)=Xe (st,be,rk,my,gu,lo,hi,hd,ca,ut,wk):=by unfold Zi;rw [Rj hst,Bool.false_or]
  rw [hs] at h1;obtain ⟨_,⟨b0,b1⟩,_,⟨m0,m1⟩,_⟩:=Xu h1;exact ⟨b0,h3,b1,m0,m1,h2⟩
def YN (ss:List ZZ) (b:Int):Nat->Option (Int × Bool)
 | 0=>some (-1,false)
 | k+1=>match YN ss b k with
  | none=>none
  | some (wk,wt)=>if (Z8 ss k).2.1=b/\ZM (Z8 ss k)=true then (if (Z8 ss k).1=2 then some (wk,true) else if 0<=wk then none else some ((k:Int),wt)) else some (wk,wt)
def Yz (m:Z3) (b:Nat):Bool:=match YN m.sm b m.sm.length with
 | none=>false
 | some (wk,wt)=>(Z8 m.dk b).2.1 ==wk && !(wt && decide (wk<0))
def Zl (m:Z3):Bool:=Y2 m && (List.range m.dk.length).all (Yz m)
open Go.ChangeShapes Go.WideShapes Go.ChangeAt Go.RowKit Go.Sort Go.Proofs.Tryz
theorem OK (st be rk my gu lo hi hd ca ut wk:Int) (w:World):Calls prog 29 #[.agg (I11 st be rk my gu lo hi hd ca ut wk)] w fun e w'=>
  e= .returned (.bool (ZM (st,be,rk,my,gu,lo,hi,hd,ca,ut,wk)))/\Below w.heap.size w w':=by
 unfold ZM;simp only;cases h2:(st ==2)
 all_goals
  go_enter func29,ntmps29;go_wp2_with fail;go_ret;exact ⟨by first | rfl | (simp),(ba _ _)⟩
theorem Ph (h m:Int) (w:World):cE 102 #[.int .i64 h,.int .i64 m] w (.bool (Yl h m)):=by
 unfold Yl;cases h1:inB h (-1000000000000) 1000000000000
 ·go_enter func102,ntmps102
  go_wp2_with (first | (go_at_call 96;refine (XU _ _).mono ?_;rintro e w' ⟨rfl,rfl⟩) | (go_at_call 70;refine (ZT _ _ _ _).mono ?_;rintro e w' ⟨rfl,rfl⟩))
  go_ret;exact ⟨rfl,rfl⟩
 cases h2:inB m (-1000000000000) 1000000000000
 ·go_enter func102,ntmps102
  go_wp2_with (first | (go_at_call 96;refine (XU _ _).mono ?_;rintro e w' ⟨rfl,rfl⟩) | (go_at_call 70;refine (ZT _ _ _ _).mono ?_;rintro e w' ⟨rfl,rfl⟩))
  go_ret;exact ⟨rfl,rfl⟩
 obtain ⟨a0,a1⟩:=ZO h1;obtain ⟨b0,b1⟩:=ZO h2;go_enter func102,ntmps102;go_wp2_with (first | (go_at_call 96;refine (XU _ _).mono ?_;rintro e w' ⟨rfl,rfl⟩) | (go_at_call 70;refine (ZT _ _ _ _).mono ?_;rintro e w' ⟨rfl,rfl⟩))
 go_ret;exact ⟨rfl,rfl⟩
theorem XN  {rs:List Z4} {q:Bool} (hq:YF rs=q) (h:IsRooms w v rs):cB 98 #[.agg #[v]] w (.bool q):=by
 have:=Pg h;rw [hq] at this;exact this
theorem Yc  {ps:List ZG} {q:Bool} (hq:Zk ps=q) (h:Y9 w v ps):cB 99 #[v] w (.bool q):=by
 have:=QZ h;rw [hq] at this;exact this
theorem SD  {rs:List Z4} {n:Int} (hn:ZW rs=n) (h:IsRooms w v rs) (ha:Adds rs):cB 100 #[.agg #[v]] w (.int .i64 n):=by
 have:=Qi h ha;rw [hn] at this;exact this
theorem Eh {x lo hi:Int} {q:Bool} (hq:inB x lo hi=q) (w:World):cB 70 #[.int .i64 x,.int .i64 lo,.int .i64 hi] w (.bool q):=by
 have:=ZT x lo hi w;rw [hq] at this;exact this.mono fun e w' ⟨h1,h2⟩=>⟨h1,by rw [h2];exact Z0 _ _⟩
theorem NW {st be rk my gu lo hi hd ca ut wk:Int} {q:Bool} (hq:Zi (st,be,rk,my,gu,lo,hi,hd,ca,ut,wk)=q) (w:World):cB 64 #[.agg (I11 st be rk my gu lo hi hd ca ut wk)] w (.bool q):=by
 have:=TO st be rk my gu lo hi hd ca ut wk w;rw [hq] at this;exact this
theorem Yx {st be rk my gu lo hi hd ca ut wk:Int} {q:Bool} (hq:ZM (st,be,rk,my,gu,lo,hi,hd,ca,ut,wk)=q) (w:World):cB 29 #[.agg (I11 st be rk my gu lo hi hd ca ut wk)] w (.bool q):=by
 have:=OK st be rk my gu lo hi hd ca ut wk w;rw [hq] at this;exact this
theorem PG {s i:Int} {q:Bool} (hq:UQ s i=q) (h0:0<=s) (h1:s<=255) (h2:0<=i) (h3:i<=7) (w:World):cB 101 #[.int .i64 s,.int .i64 i] w (.bool q):=by
 have:=MV s i w h0 h1 h2 h3;rw [hq] at this;exact this.mono fun e w' ⟨h1,h2⟩=>⟨h1,by rw [h2];exact Z0 _ _⟩
theorem VG {h k:Int} {q:Bool} (hq:Yl h k=q) (w:World):cB 102 #[.int .i64 h,.int .i64 k] w (.bool q):=by
 have:=Ph h k w;rw [hq] at this;exact this.mono fun e w' ⟨h1,h2⟩=>⟨h1,by rw [h2];exact Z0 _ _⟩
theorem Ro  (h:Smy w v0 v1 v2 v3 v4 m) :
  cB 61 #[.agg #[v0,v1,v2,v3,v4,.int .i64 m.now]] w (.bool (Y2 m)):=by
 have Hv:=Z9 (h.alloc (.cells #[v0,v1,v2,v3,v4,.int .i64 m.now] 39));obtain ⟨h0,h1,h2,h3,h4⟩:=h;obtain ⟨a0,p0,rfl,hc0,hm0,r0⟩:=h0;obtain ⟨a1,p1,rfl,hc1,hm1,_⟩:=h1;obtain ⟨a2,p2,rfl,hc2,hm2,r2⟩:=h2;obtain ⟨a3,p3,rfl,hc3,hm3,r3⟩:=h3;obtain ⟨a4,p4,rfl,hc4,hm4,r4⟩:=h4;have R0:=Z9 r0;have R2:=Z9 r2;have R3:=Z9 r3;have R4:=Z9 r4;clear r0 r2 r3 r4;go_enter func61,ntmps61;go_wp2_with fail;obtain ⟨W,hW,BB,kb⟩:=Kj w 39 (S6 a0 p0 a1 p1 a2 p2 a3 p3 a4 p4 m);rw [hW]
 (try rw [hW] at Hv);clear hW
 have c0:=Z1 ((uh kb).cell (i:=0) (v:= .slice a0 m.rm.length p0) rfl);have c1:=Z1 ((uh kb).cell (i:=1) (v:= .slice a1 m.gd.length p1) rfl);have c2:=Z1 ((uh kb).cell (i:=2) (v:= .slice a2 m.sm.length p2) rfl);have c3:=Z1 ((uh kb).cell (i:=3) (v:= .slice a3 m.dk.length p3) rfl);have c4:=Z1 ((uh kb).cell (i:=4) (v:= .slice a4 m.pc.length p4) rfl);have c5:=Z1 ((uh kb).cell (i:=5) (v:= .int .i64 m.now) rfl);cases h0:YF m.rm
 ·have Q0:=Z9 h0
  clear h0;refine wq ?_
  repeat (go_big_quiet_step (first | exact ZX (XN (uh Q0) ((uh Hv).below (Z2 _ _ _)).rm)))
  refine wqn fun W1 hb=> ?_;clear c0 c1 c2 c3 c4 c5;go_wp2_with fail;go_ret;exact ⟨Z5 (WK (by unfold XT;rw [uh Q0];rfl)).symm,(uh BB).trans (hb.mono (uh BB).size)⟩
 have Q0:=Z9 h0;have QA:=Z9 (Sq h0);clear h0;cases h1:Zk m.gd
 ·have Q1:=Z9 h1
  clear h1;refine wq ?_
  repeat (go_big_quiet_step (first | exact ZX (XN (uh Q0) ((uh Hv).below (Z2 _ _ _)).rm) | exact ZX (Yc (uh Q1) ((uh Hv).below (Z2 _ _ _)).gd)))
  refine wqn fun W1 hb=> ?_;clear c0 c1 c2 c3 c4 c5;go_wp2_with fail;go_ret;exact ⟨Z5 (WK (by unfold XT;rw [uh Q0,uh Q1];rfl)).symm,(uh BB).trans (hb.mono (uh BB).size)⟩
 have Q1:=Z9 h1;clear h1;by_cases h2:12<m.sm.length
 ·have h2i:(12:Int)<(m.sm.length:Int):=by omega
  have h2d:decide ((12:Int)<(m.sm.length:Int))=true:=Sf h2i;refine wq ?_
  repeat (go_big_quiet_step (first | exact ZX (XN (uh Q0) ((uh Hv).below (Z2 _ _ _)).rm) | exact ZX (Yc (uh Q1) ((uh Hv).below (Z2 _ _ _)).gd)))
  refine wqn fun W1 hb=> ?_;clear c0 c1 c2 c3 c4 c5;go_wp2_with fail;go_ret;exact ⟨Z5 (WK (by unfold XT;rw [uh Q0,uh Q1];simp;intro h9;omega)).symm,(uh BB).trans (hb.mono (uh BB).size)⟩
 have h2i:¬ (12:Int)<(m.sm.length:Int):=by omega
 have h2d:decide ((12:Int)<(m.sm.length:Int))=false:=TG h2i;obtain ⟨n,Q3⟩:=WH (ZW m.rm);by_cases h3:(m.dk.length:Int)=n;rotate_left
 ·have h3b:((m.dk.length:Int) !=n)=true:=by simpa using h3
  refine wq ?_
  repeat (go_big_quiet_step (first | exact ZX (XN (uh Q0) ((uh Hv).below (Z2 _ _ _)).rm) | exact ZX (Yc (uh Q1) ((uh Hv).below (Z2 _ _ _)).gd) | exact ZX (SD (uh Q3) ((uh Hv).below (Z2 _ _ _)).rm (uh QA))))
  refine wqn fun W1 hb=> ?_;clear c0 c1 c2 c3 c4 c5;go_wp2_with fail;go_ret;exact ⟨Z5 (WK (by unfold XT;rw [uh Q0,uh Q1,uh Q3];simp [h3])).symm,(uh BB).trans (hb.mono (uh BB).size)⟩
 have h3b:((m.dk.length:Int) !=n)=false:=by simpa using h3
 by_cases h4:m.pc.length=m.rm.length;rotate_left
 ·have h4b:((m.pc.length:Int) !=(m.rm.length:Int))=true:=by simp;omega
  refine wq ?_
  repeat (go_big_quiet_step (first | exact ZX (XN (uh Q0) ((uh Hv).below (Z2 _ _ _)).rm) | exact ZX (Yc (uh Q1) ((uh Hv).below (Z2 _ _ _)).gd) | exact ZX (SD (uh Q3) ((uh Hv).below (Z2 _ _ _)).rm (uh QA))))
  refine wqn fun W1 hb=> ?_;clear c0 c1 c2 c3 c4 c5;go_wp2_with fail;go_ret;exact ⟨Z5 (WK (by unfold XT;rw [uh Q0,uh Q1];simp [h4])).symm,(uh BB).trans (hb.mono (uh BB).size)⟩
 have h4b:((m.pc.length:Int) !=(m.rm.length:Int))=false:=by simp;omega
 cases h5:inB m.now 0 1000000
 ·have Q5:=Z9 h5
  clear h5;refine wq ?_
  repeat (go_big_quiet_step (first | exact ZX (XN (uh Q0) ((uh Hv).below (Z2 _ _ _)).rm) | exact ZX (Yc (uh Q1) ((uh Hv).below (Z2 _ _ _)).gd) | exact ZX (SD (uh Q3) ((uh Hv).below (Z2 _ _ _)).rm (uh QA)) | exact ZX (Eh (uh Q5) _)))
  refine wqn fun W1 hb=> ?_;clear c0 c1 c2 c3 c4 c5;go_wp2_with fail;go_ret;exact ⟨Z5 (WK (by unfold XT;rw [uh Q0,uh Q1,uh Q3,uh Q5];simp)).symm,(uh BB).trans (hb.mono (uh BB).size)⟩
 have Q5:=Z9 h5;clear h5;have QH:Hid (XT m=true):=Z9 (by unfold XT;rw [uh Q0,uh Q1,uh Q3,uh Q5];simp [h3,h4];omega);refine wq ?_
 repeat (go_big_quiet_step (first | exact ZX (XN (uh Q0) ((uh Hv).below (Z2 _ _ _)).rm) | exact ZX (Yc (uh Q1) ((uh Hv).below (Z2 _ _ _)).gd) | exact ZX (SD (uh Q3) ((uh Hv).below (Z2 _ _ _)).rm (uh QA)) | exact ZX (Eh (uh Q5) _)))
 refine wqn fun W1 hb=> ?_;clear c0 c1 c2 c3 c4 c5;replace kb:=bl kb hb;replace Hv:=Z9 ((uh Hv).below hb);replace BB:=bt BB hb;clear hb;have H3:=Z9 h3;have H4:=Z9 h4;clear Hv Q0 Q1 Q3 Q5 QA h2d h3b h4b h3 h4;have c3:=(uh kb).cell (i:=3) (v:= .slice a3 m.dk.length p3) rfl;go_wp2_with fail;clear c3
 go_loopw [3,4] (fun o i wr=> ∃ k:Nat,k<=m.dk.length/\o= .bool (UW m k)/\i= .int .i64 k/\Wi m k=true/\Blk wr w.heap.size 39 (S6 a0 p0 a1 p1 a2 p2 a3 p3 a4 p4 m)/\Below w.heap.size w wr) (fun _ i _=>m.dk.length-(intOf i).toNat)
 case atStart=>exact ⟨0,ZR _,rfl,rfl,rfl,uh kb,uh BB⟩
 case round=>
  obtain ⟨k,hk,rfl,rfl,hup,kb1,hb1⟩:=hrel;clear kb BB;have kb:=Z9 kb1;have BB:=Z9 hb1;have Hup:=Z9 hup;clear kb1 hb1 hup;obtain ⟨ob,hob⟩:=ZI (UW m k);rw [hob];have Hob:=Z9 hob;clear hob;have c3:=(uh kb).cell (i:=3) (v:= .slice a3 m.dk.length p3) rfl;by_cases hlt:k<m.dk.length
  ·rcases uh R3 with e0 | ⟨b,off,rfl,hbw,hcl⟩
   ·rw [e0] at hlt;simp at hlt
   obtain ⟨d0,d1,d2⟩:=Zg hcl hlt;rw [<-(uh BB).cell (p:=⟨b,off+k*3,none⟩) hbw] at d0;rw [<-(uh BB).cell (p:=⟨b,off+k*3+2,none⟩) hbw] at d2;clear d1 hcl;have HU:=Z9 (show Wi m (k+1)=(Wi m k && U0 (Z8 m.dk k)) from UN k);have HO:=Z9 (show UW m (k+1)=(UW m k || (Z8 m.dk k).1) from DM k);have HL:=Z9 (J9 (m:=m) hlt);generalize Z8 m.dk k=dd at *;obtain ⟨op,who,mk⟩:=dd;simp only at d0 d2;cases hmk:inB mk (-900000000000) 900000000000
   ·cases ob
    all_goals
     go_wp2_with (go_at_call 70;refine (ZT _ _ _ _).mono ?_;rintro e w' ⟨rfl,h9⟩;subst w')
     go_ret;exact ⟨Z5 (uh HL hmk).symm,uh BB⟩
   ·cases ob
    all_goals
     go_wp2_with (go_at_call 70;refine (ZT _ _ _ _).mono ?_;rintro e w' ⟨rfl,h9⟩;subst w')
     go_roundw
     case rel=>exact ⟨k+1,by omega,by rw [uh HO,uh Hob];simp,by go_num,by rw [uh HU,uh Hup];exact hmk,uh kb,uh BB⟩
     case measure=>exact ms
  ·obtain rfl:k=m.dk.length:=by omega
   have QD:=Hup;clear Hup;have c4:=(uh kb).cell (i:=4) (v:= .slice a4 m.pc.length p4) rfl;go_wp2_with fail;clear c3 c4
   go_loopw [5] (fun i wr=> ∃ k:Nat,k<=m.pc.length/\i= .int .i64 k/\WD m k=true/\Blk wr w.heap.size 39 (S6 a0 p0 a1 p1 a2 p2 a3 p3 a4 p4 m)/\Below w.heap.size w wr) (fun i _=>m.pc.length-(intOf i).toNat)
   case atStart=>exact ⟨0,ZR _,rfl,rfl,uh kb,uh BB⟩
   case round=>
    obtain ⟨k,hk,rfl,hup,kb1,hb1⟩:=hrel;clear kb BB;have kb:=Z9 kb1;have BB:=Z9 hb1;have Hup:=Z9 hup;clear kb1 hb1 hup;have c0:=(uh kb).cell (i:=0) (v:= .slice a0 m.rm.length p0) rfl;have c4:=(uh kb).cell (i:=4) (v:= .slice a4 m.pc.length p4) rfl;by_cases hlt:k<m.pc.length
    ·have hlr:k<m.rm.length:=by have:=uh H4;omega
     rcases uh R4 with e0 | ⟨b,off,rfl,hbw,hcl⟩
     ·rw [e0] at hlt;simp at hlt
     rcases uh R0 with e0 | ⟨b',off',rfl,hbw',hcl'⟩
     ·rw [e0] at hlr;simp at hlr
     have d0:=Rt hcl hlt;obtain ⟨_,pv,d1,hip⟩:=hcl' k hlr;rw [<-(uh BB).cell (p:=⟨b,off+k,none⟩) hbw] at d0;rw [<-(uh BB).cell (p:=⟨b',off'+k*2+1,none⟩) hbw'] at d1;obtain ⟨pa,pcap,rfl,hpc,hpm,_⟩:=hip;clear hcl hcl';have HU:=Z9 (show WD m (k+1)=(WD m k && VF m k) from UN k);have HL:=Z9 (Kc (m:=m) hlt);have HP:=Z9 (show VF m k=inB (Z8 m.pc k) 0 (((ZU m.rm k).2.length:Int)-1) from rfl);generalize Z8 m.pc k=z at *;generalize (ZU m.rm k).2.length=nl at *;have hwr:IntKind.i64.wrap ((nl:Int)-1)=(nl:Int)-1:=by rw [IntKind.wrap_i64];omega
     cases hz:inB z 0 ((nl:Int)-1)
     ·go_wp2_with fail
      go_quiet (exact YD (ZT _ _ _ _));go_wp2_with fail;go_ret;exact ⟨Z5 (uh HL (by rw [uh HP];exact hz)).symm,Yw (uh BB) _⟩
     ·go_wp2_with fail
      go_quiet (exact YD (ZT _ _ _ _));go_wp2_with fail;go_roundw
      case rel=>exact ⟨k+1,by omega,by go_num,by rw [uh HU,uh Hup,uh HP,hz];rfl,(uh kb).drewN _,Yw (uh BB) _⟩
      case measure=>exact ms
    ·obtain rfl:k=m.pc.length:=by omega
     have QP:=Hup;clear Hup;have c2:=(uh kb).cell (i:=2) (v:= .slice a2 m.sm.length p2) rfl;go_wp2_with fail;clear c0 c2 c4
     go_loopw [6] (fun i wr=> ∃ k:Nat,k<=m.sm.length/\i= .int .i64 k/\WE m k=true/\Blk wr w.heap.size 39 (S6 a0 p0 a1 p1 a2 p2 a3 p3 a4 p4 m)/\Below w.heap.size w wr) (fun i _=>m.sm.length-(intOf i).toNat)
     case atStart=>exact ⟨0,ZR _,rfl,rfl,uh kb,uh BB⟩
     case round=>
      obtain ⟨k,hk,rfl,hup,kb1,hb1⟩:=hrel;clear kb BB;have kb:=Z9 kb1;have BB:=Z9 hb1;have Hup:=Z9 hup;clear kb1 hb1 hup;have c1:=(uh kb).cell (i:=1) (v:= .slice a1 m.gd.length p1) rfl;have c2:=(uh kb).cell (i:=2) (v:= .slice a2 m.sm.length p2) rfl;have c3:=(uh kb).cell (i:=3) (v:= .slice a3 m.dk.length p3) rfl;by_cases hlt:k<m.sm.length
      ·rcases uh R2 with e0 | ⟨b,off,rfl,hbw,hcl⟩
       ·rw [e0] at hlt;simp at hlt
       obtain ⟨d0,d1,d2,d3,d4,d5,d6,d7,d8,d9,d10⟩:=ZB hcl hlt;rw [<-(uh BB).cell (p:=⟨b,off+k*11,none⟩) hbw] at d0;rw [<-(uh BB).cell (p:=⟨b,off+k*11+1,none⟩) hbw] at d1;rw [<-(uh BB).cell (p:=⟨b,off+k*11+2,none⟩) hbw] at d2;rw [<-(uh BB).cell (p:=⟨b,off+k*11+3,none⟩) hbw] at d3;rw [<-(uh BB).cell (p:=⟨b,off+k*11+4,none⟩) hbw] at d4;rw [<-(uh BB).cell (p:=⟨b,off+k*11+5,none⟩) hbw] at d5;rw [<-(uh BB).cell (p:=⟨b,off+k*11+6,none⟩) hbw] at d6;rw [<-(uh BB).cell (p:=⟨b,off+k*11+7,none⟩) hbw] at d7;rw [<-(uh BB).cell (p:=⟨b,off+k*11+8,none⟩) hbw] at d8;rw [<-(uh BB).cell (p:=⟨b,off+k*11+9,none⟩) hbw] at d9;rw [<-(uh BB).cell (p:=⟨b,off+k*11+10,none⟩) hbw] at d10;clear hcl;have HU:=Z9 (show WE m (k+1)=(WE m k && (Ym m (Z8 m.sm k) && Xh m (Z8 m.sm k))) from UN k);have HL:=Z9 (Ma (m:=m) hlt);generalize Z8 m.sm k=ss at *;obtain ⟨st,be,rk,my,gu,lo,hi,hd,ca,ut,wk⟩:=ss;simp only at d0 d1 d2 d3 d4 d5 d6 d7 d8 d9 d10;have hl0:w.heap.size<wr.heap.size:=(uh kb).lt;go_wp2_with fail;clear c1 c2 c3 d0 d1 d2 d3 d4 d5 d6 d7 d8 d9 d10;obtain ⟨qs,Hqs⟩:=WH (Zi (st,be,rk,my,gu,lo,hi,hd,ca,ut,wk));refine ck (NW (uh Hqs) _) fun w1 hb=> ?_;have ks:Hid (Blk w1 wr.heap.size 59 (I11 st be rk my gu lo hi hd ca ut wk)):=Z9 ((Blk.new wr _ _).below hb (by simp));replace kb:=Z9 (((uh kb).alloc (.cells (I11 st be rk my gu lo hi hd ca ut wk) 59)).below hb (by simp;omega));replace BB:=Z9 ((((uh BB).alloc (uh BB).size (.cells (I11 st be rk my gu lo hi hd ca ut wk) 59))).trans (hb.mono (by simp;have:=(uh BB).size;omega)));clear hb hl0;generalize wr.heap.size=sb at *;have c1:=(uh kb).cell (i:=1) (v:= .slice a1 m.gd.length p1) rfl;have c3:=(uh kb).cell (i:=3) (v:= .slice a3 m.dk.length p3) rfl;have d0:=(uh ks).cell (i:=0) (v:= .int .i64 st) rfl;have d1:=(uh ks).cell (i:=1) (v:= .int .i64 be) rfl;have d4:=(uh ks).cell (i:=4) (v:= .int .i64 gu) rfl;cases qs
       ·go_wp2_with fail
        go_ret;exact ⟨Z5 (uh HL (by unfold Ym;rw [uh Hqs];rfl)).symm,uh BB⟩
       ·by_cases hst:st=0
        ·subst hst
         have hne:((0:Int) !=0)=false:=rfl;go_wp2_with fail;have Hps:Hid (ZM (0,be,rk,my,gu,lo,hi,hd,ca,ut,wk)=false):=Z9 rfl;have e0:=Z1 ((uh ks).cell (i:=0) (v:= .int .i64 0) rfl);have e1:=Z1 ((uh ks).cell (i:=1) (v:= .int .i64 be) rfl);have e2:=Z1 ((uh ks).cell (i:=2) (v:= .int .i64 rk) rfl);have e3:=Z1 ((uh ks).cell (i:=3) (v:= .int .i64 my) rfl);have e4:=Z1 ((uh ks).cell (i:=4) (v:= .int .i64 gu) rfl);have e5:=Z1 ((uh ks).cell (i:=5) (v:= .int .i64 lo) rfl);have e6:=Z1 ((uh ks).cell (i:=6) (v:= .int .i64 hi) rfl);have e7:=Z1 ((uh ks).cell (i:=7) (v:= .int .i64 hd) rfl);have e8:=Z1 ((uh ks).cell (i:=8) (v:= .int .i64 ca) rfl);have e9:=Z1 ((uh ks).cell (i:=9) (v:= .int .i64 ut) rfl);have e10:=Z1 ((uh ks).cell (i:=10) (v:= .int .i64 wk) rfl);refine wq ?_
         repeat (go_big_quiet_step (first | exact ZX (Yx (uh Hps) _)))
         refine wqn fun W1 hb=> ?_;replace kb:=bl kb hb;replace BB:=bt BB hb;clear hb;go_wp2_with fail;go_roundw
         case rel=>exact ⟨k+1,by omega,by go_num,by rw [uh HU,uh Hup];unfold Ym Xh;rw [uh Hqs,uh Hps];rfl,uh kb,uh BB⟩
         case measure=>exact ms
        have hne:(st !=0)=true:=by simpa using hst
        by_cases hgu:(m.gd.length:Int)<=gu
        ·go_wp2_with fail
         go_ret;exact ⟨Z5 (uh HL (by unfold Ym;rw [uh Hqs];simp [hst];intro h9;omega)).symm,uh BB⟩
        by_cases hbe:(m.dk.length:Int)<=be
        ·go_wp2_with fail
         go_ret;exact ⟨Z5 (uh HL (by unfold Ym;rw [uh Hqs];simp [hst];intro h9;omega)).symm,uh BB⟩
        go_wp2_with fail;have Hh:Hid (Ym m (st,be,rk,my,gu,lo,hi,hd,ca,ut,wk)=true):=Z9 (by unfold Ym;rw [uh Hqs];simp;omega);obtain ⟨ps,Hps⟩:=WH (ZM (st,be,rk,my,gu,lo,hi,hd,ca,ut,wk));have e0:=Z1 ((uh ks).cell (i:=0) (v:= .int .i64 st) rfl);have e1:=Z1 ((uh ks).cell (i:=1) (v:= .int .i64 be) rfl);have e2:=Z1 ((uh ks).cell (i:=2) (v:= .int .i64 rk) rfl);have e3:=Z1 ((uh ks).cell (i:=3) (v:= .int .i64 my) rfl);have e4:=Z1 ((uh ks).cell (i:=4) (v:= .int .i64 gu) rfl);have e5:=Z1 ((uh ks).cell (i:=5) (v:= .int .i64 lo) rfl);have e6:=Z1 ((uh ks).cell (i:=6) (v:= .int .i64 hi) rfl);have e7:=Z1 ((uh ks).cell (i:=7) (v:= .int .i64 hd) rfl);have e8:=Z1 ((uh ks).cell (i:=8) (v:= .int .i64 ca) rfl);have e9:=Z1 ((uh ks).cell (i:=9) (v:= .int .i64 ut) rfl);have e10:=Z1 ((uh ks).cell (i:=10) (v:= .int .i64 wk) rfl);have e11:=Z1 ((uh kb).cell (i:=3) (v:= .slice a3 m.dk.length p3) rfl);cases ps
        ·refine wq ?_
         repeat (go_big_quiet_step (first | exact ZX (Yx (uh Hps) _)))
         refine wqn fun W1 hb=> ?_;replace kb:=bl kb hb;replace BB:=bt BB hb;clear hb;go_wp2_with fail;go_roundw
         case rel=>exact ⟨k+1,by omega,by go_num,by rw [uh HU,uh Hup];rw [uh Hh];unfold Xh;rw [uh Hps];rfl,uh kb,uh BB⟩
         case measure=>exact ms
        obtain ⟨b0,b1,b2,m0,m1,_⟩:=JU (uh Hh) (uh Hps);simp only at b0 b1 b2 m0 m1;obtain ⟨j,rfl⟩:∃ j:Nat,be=j:=⟨be.toNat,by omega⟩
        have hj:j<m.dk.length:=by omega
        rcases uh R3 with e9 | ⟨b',off',rfl,hbw',hcl'⟩
        ·rw [e9] at hj;simp at hj
        obtain ⟨t0,_,t2⟩:=Zg hcl' hj;rw [<-(uh BB).cell (p:=⟨b',off'+j*3,none⟩) hbw'] at t0;rw [<-(uh BB).cell (p:=⟨b',off'+j*3+2,none⟩) hbw'] at t2;clear hcl';have HS:=Z9 (show Xh m (st,(j:Int),rk,my,gu,lo,hi,hd,ca,ut,wk)=(!ZM (st,(j:Int),rk,my,gu,lo,hi,hd,ca,ut,wk) || ((Z8 m.dk j).1 && (UQ my j && Yl hd (Z8 m.dk j).2.2))) from rfl);generalize Z8 m.dk j=dd at *;obtain ⟨op,who,mk⟩:=dd;simp only at t0 t2;have t0:=Z1 t0;have t2:=Z1 t2;obtain ⟨qb,hqb⟩:=ZI (UQ my j);have Hbit:=Z9 hqb;obtain ⟨qd,Hbd⟩:=WH (Yl hd mk);clear hqb;have HS2:=uh HS;simp only [uh Hps,uh Hbit,uh Hbd] at HS2;have HS3:=Z9 HS2;clear HS HS2;cases op
        ·refine wq ?_
         repeat (go_big_quiet_step (first | exact ZX (Yx (uh Hps) _) | exact ZX (PG (uh Hbit) (by omega) (by omega) (by omega) (by omega) _) | exact ZX (VG (uh Hbd) _)))
         refine wqn fun W1 hb=> ?_;replace kb:=bl kb hb;replace BB:=bt BB hb;clear hb;go_wp2_with fail;go_ret;exact ⟨Z5 (uh HL (by rw [uh HS3];simp)).symm,uh BB⟩
        cases qb
        ·refine wq ?_
         repeat (go_big_quiet_step (first | exact ZX (Yx (uh Hps) _) | exact ZX (PG (uh Hbit) (by omega) (by omega) (by omega) (by omega) _) | exact ZX (VG (uh Hbd) _)))
         refine wqn fun W1 hb=> ?_;replace kb:=bl kb hb;replace BB:=bt BB hb;clear hb;go_wp2_with fail;go_ret;exact ⟨Z5 (uh HL (by rw [uh HS3];simp)).symm,uh BB⟩
        cases qd
        ·refine wq ?_
         repeat (go_big_quiet_step (first | exact ZX (Yx (uh Hps) _) | exact ZX (PG (uh Hbit) (by omega) (by omega) (by omega) (by omega) _) | exact ZX (VG (uh Hbd) _)))
         refine wqn fun W1 hb=> ?_;replace kb:=bl kb hb;replace BB:=bt BB hb;clear hb;go_wp2_with fail;go_ret;exact ⟨Z5 (uh HL (by rw [uh HS3];simp)).symm,uh BB⟩
        refine wq ?_
        repeat (go_big_quiet_step (first | exact ZX (Yx (uh Hps) _) | exact ZX (PG (uh Hbit) (by omega) (by omega) (by omega) (by omega) _) | exact ZX (VG (uh Hbd) _)))
        refine wqn fun W1 hb=> ?_;replace kb:=bl kb hb;replace BB:=bt BB hb;clear hb;go_wp2_with fail;go_roundw
        case rel=>exact ⟨k+1,by omega,by go_num,by rw [uh HU,uh Hup];rw [uh Hh,uh HS3];rfl,uh kb,uh BB⟩
        case measure=>exact ms
      ·obtain rfl:k=m.sm.length:=by omega
       go_wp2_with fail;go_ret;exact ⟨Z5 (by rw [It (uh QH) (uh QD) (uh QP) (uh Hup)];exact (uh Hob).symm),uh BB⟩
def atV (ss:List ZZ) (b:Int):Nat->List Z6
 | 0=>[]
 | k+1=>if (Z8 ss k).2.1=b/\ZM (Z8 ss k)=true then V9 (atV ss b k) ((Z8 ss k).2.2.2.2.2.2.2.1,(k:Int)) else atV ss b k
theorem TU (ss:List ZZ) (b:Int):∀ k,(atV ss b k).length<=k
 | 0=>ZY _
 | k+1=>by
  have:=TU ss b k;unfold atV
  split
  ·rw [Ez];omega
  ·omega
theorem UP {ss:List ZZ} {b:Int} {k:Nat} (h:¬ ((Z8 ss k).2.1=b/\ZM (Z8 ss k)=true)):atV ss b (k+1)=atV ss b k:=by rw [atV,if_neg h]
theorem Vz {ss:List ZZ} {b:Int} {k:Nat} (h1:(Z8 ss k).2.1=b) (h2:ZM (Z8 ss k)=true):atV ss b (k+1)=V9 (atV ss b k) ((Z8 ss k).2.2.2.2.2.2.2.1,(k:Int)):=by rw [atV,if_pos ⟨h1,h2⟩]
def Wy (s:ZZ):Int:=s.2.2.2.2.2.2.2.1
theorem EA {ps:List Z6} {x e:Z6} : e ∈ V9 ps x ↔ e ∈ ps\/e=x:=by
 rw [(SK ps x).mem_iff];simp
theorem WS (ss:List ZZ) (b:Int) (e:Z6):∀ k,e ∈ atV ss b k ↔ ∃ i:Nat,i<k/\(Z8 ss i).2.1=b/\ZM (Z8 ss i)=true/\e=(Wy (Z8 ss i),(i:Int))
 | 0=>by simp [atV]
 | k+1=>by
  have ih:=WS ss b e k;by_cases h:(Z8 ss k).2.1=b/\ZM (Z8 ss k)=true
  ·rw [Vz h.1 h.2,EA,ih]
   constructor
   ·rintro (⟨i,hi,h1,h2,h3⟩ | h3)
    ·exact ⟨i,by omega,h1,h2,h3⟩
    ·exact ⟨k,by omega,h.1,h.2,h3⟩
   ·rintro ⟨i,hi,h1,h2,h3⟩
    by_cases hik:i=k
    ·subst hik;exact .inr h3
    ·exact .inl ⟨i,by omega,h1,h2,h3⟩
  ·rw [UP h,ih]
   constructor
   ·rintro ⟨i,hi,h1,h2,h3⟩
    exact ⟨i,by omega,h1,h2,h3⟩
   ·rintro ⟨i,hi,h1,h2,h3⟩
    by_cases hik:i=k
    ·subst hik;exact absurd ⟨h1,h2⟩ h
    ·exact ⟨i,by omega,h1,h2,h3⟩
theorem PD (ss:List ZZ) (b:Int):∀ k,Ris (atV ss b k)
 | 0=>List.Pairwise.nil
 | k+1=>by
  by_cases h:(Z8 ss k).2.1=b/\ZM (Z8 ss k)=true
  ·rw [Vz h.1 h.2];exact Kx (PD ss b k) _
  ·rw [UP h];exact PD ss b k
theorem SR (ss:List ZZ) (b:Int):∀ k,(atV ss b k).Pairwise fun x y=>x.2 ≠ y.2
 | 0=>List.Pairwise.nil
 | k+1=>by
  by_cases h:(Z8 ss k).2.1=b/\ZM (Z8 ss k)=true
  ·rw [Vz h.1 h.2]
   refine (SK (atV ss b k) _).symm.pairwise ?_ (fun h=>Ne.symm h);rw [List.pairwise_append];refine ⟨SR ss b k,by simp,fun x hx y hy=> ?_⟩;obtain rfl:y=_:=by simpa using hy
   obtain ⟨i,hi,_,_,rfl⟩:=(WS ss b x k).1 hx;show (i:Int) ≠ (k:Int);omega
  ·rw [UP h];exact SR ss b k
def Alike (ss ss':List ZZ) (k:Nat):Prop:= ∀ i,i<k->(Z8 ss' i).2.1=(Z8 ss i).2.1/\ZM (Z8 ss' i)=ZM (Z8 ss i)/\Wy (Z8 ss' i)=Wy (Z8 ss i)
theorem MG {ss ss':List ZZ} (b:Int):∀ k,Alike ss ss' k->atV ss' b k=atV ss b k
 | 0,_=>rfl
 | k+1,h=>by
  have ih:=MG b k (fun i hi=>h i (by omega));obtain ⟨h1,h2,h3⟩:=h k (by omega);unfold atV;rw [h1,h2,ih,show (Z8 ss' k).2.2.2.2.2.2.2.1=(Z8 ss k).2.2.2.2.2.2.2.1 from h3]
def WT (ss:List ZZ) (b:Int):Int:=match atV ss b ss.length with
 | []=> -1
 | h::_=>h.2
theorem T2 {ss:List ZZ} {b:Int} {e:Z6} {t:List Z6} (h:atV ss b ss.length=e::t):WT ss b=e.2/\ ∃ i:Nat,i<ss.length/\(Z8 ss i).2.1=b/\ZM (Z8 ss i)=true/\e=(Wy (Z8 ss i),(i:Int)):=by
 refine ⟨by unfold WT;rw [h],?_⟩;exact (WS ss b e ss.length).1 (by rw [h];simp)
theorem Qc {ss:List ZZ} {b:Int} {e:Z6} {t:List Z6} (h:atV ss b ss.length=e::t) {i:Nat} (hi:i<ss.length) (h1:(Z8 ss i).2.1=b) (h2:ZM (Z8 ss i)=true):e.1<=Wy (Z8 ss i):=by
 have hm:(Wy (Z8 ss i),(i:Int)) ∈ atV ss b ss.length:=(WS ss b _ ss.length).2 ⟨i,hi,h1,h2,rfl⟩;have hr:=PD ss b ss.length;rw [h] at hm hr
 rcases List.mem_cons.1 hm with he | ht
 ·rw [<-he];exact Int.le_refl _
 ·have:=(List.pairwise_cons.1 hr).1 _ ht
  rw [MW] at this;simp only at this;omega
end Go.Proofs.YtgdpaigcmoifbaaGreatDoor
