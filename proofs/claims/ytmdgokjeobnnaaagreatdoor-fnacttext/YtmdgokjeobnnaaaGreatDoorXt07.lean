/- Part 7 of what the proof rests on. No condition but those that a theorem names. -/
import Derived.Test.YtmdgokjeobnnaaaGreatDoorXt02
import Derived.Test.YtmdgokjeobnnaaaGreatDoorXt03
import Derived.Test.YtmdgokjeobnnaaaGreatDoorXt04
import Derived.Test.YtmdgokjeobnnaaaGreatDoorXt05
import Derived.Test.YtmdgokjeobnnaaaGreatDoorXt06
import Derived.Laws.StructEq
set_option maxHeartbeats 8000000
set_option maxRecDepth 100000
namespace Go.Proofs.YtmdgokjeobnnaaaGreatDoor
open Go.ChangeShapes Go.WideShapes Go.ChangeAt Go.RowKit Go.Sort
set_option linter.unusedVariables false
def YX (x:Z6):Bool:=
 inB x.1 1 3 && (inB x.2.1 0 7 && (inB x.2.2.1 (-5) 5 && (inB x.2.2.2.1 1 255 && (inB x.2.2.2.2.1 (-1) 5 && (Xd x.2.2.2.2.2.1 x.2.2.2.2.2.2.1 && (inB x.2.2.2.2.2.2.2.1 (-1000000000000) 1000000000000 &&
  (inB x.2.2.2.2.2.2.2.2.1 0 (Zf x.2.2.1-1) && (inB x.2.2.2.2.2.2.2.2.2.1 0 1024 && inB x.2.2.2.2.2.2.2.2.2.2 0 100000000000))))))))
def Vk:Z6:=(0,0,0,0,0,0,0,0,0,0,0)
def TC (x y:Z6):Bool:=x.1 ==y.1 && (x.2.1 ==y.2.1 && (x.2.2.1 ==y.2.2.1 && (x.2.2.2.1 ==y.2.2.2.1 && (x.2.2.2.2.1 ==y.2.2.2.2.1 && (x.2.2.2.2.2.1 ==y.2.2.2.2.2.1 && (x.2.2.2.2.2.2.1 ==y.2.2.2.2.2.2.1 && (x.2.2.2.2.2.2.2.1 ==y.2.2.2.2.2.2.2.1 && (x.2.2.2.2.2.2.2.2.1 ==y.2.2.2.2.2.2.2.2.1 && (x.2.2.2.2.2.2.2.2.2.1 ==y.2.2.2.2.2.2.2.2.2.1 && (x.2.2.2.2.2.2.2.2.2.2 ==y.2.2.2.2.2.2.2.2.2.2))))))))))
theorem Mf (x:Z6):TC x x=true:=by unfold TC;simp
theorem I8 {x y:Z6} (h:TC x y=true):x=y:=by
 obtain ⟨x0,x1,x2,x3,x4,x5,x6,x7,x8,x9,x10⟩:=x;obtain ⟨y0,y1,y2,y3,y4,y5,y6,y7,y8,y9,y10⟩:=y;unfold TC at h;simp only [ZR,beq_iff_eq] at h;obtain ⟨rfl,rfl,rfl,rfl,rfl,rfl,rfl,rfl,rfl,rfl,rfl⟩:=h;rfl
def Vr (x:Z6):Bool:=TC x Vk
def Zs (x:Z6):Bool:=Vr x || YX x
theorem Vj (r:Int):0<=Zf r/\Zf r<=3125:=by
 cases h:inB r (-5) 5
 ·rw [U2 h];omega
 ·rcases GH h with rfl | rfl | rfl | rfl | rfl | rfl | rfl | rfl | rfl | rfl | rfl<;>decide
theorem WA {r:Int} (h:inB r (-5) 5=true):335<=Zf r:=by
 rcases GH h with rfl | rfl | rfl | rfl | rfl | rfl | rfl | rfl | rfl | rfl | rfl<;>decide
theorem On (r:Int):(Zf r !=0)=inB r (-5) 5:=by
 cases h:inB r (-5) 5
 ·rw [U2 h];rfl
 ·have:=WA h
  simp;omega
theorem Zj {st be rk my gu lo hi hd ca ut wk:Int} (h:YX (st,be,rk,my,gu,lo,hi,hd,ca,ut,wk)=true):(1<=st/\st<=3)/\(0<=be/\be<=7)/\inB rk (-5) 5=true/\(1<=my/\my<=255)/\(-1<=gu/\gu<=5)/\Xd lo hi=true/\(-1000000000000<=hd/\hd<=1000000000000)/\(0<=ca/\ca<=Zf rk-1)/\(0<=ut/\ut<=1024)/\(0<=wk/\wk<=100000000000):=by
 unfold YX at h;simp only [ZR] at h;obtain ⟨h0,h1,h2,h3,h4,h5,h6,h7,h8,h9⟩:=h;exact ⟨ZS h0,ZS h1,h2,ZS h3,ZS h4,h5,ZS h6,ZS h7,ZS h8,ZS h9⟩
theorem U6 {x:Z6} (h:Vr x=true):x=Vk:=I8 h
theorem LB:Vr Vk=true:=Mf _
theorem T6 {x:Z6} (h:x.1 ≠ 0):Vr x=false:=by
 cases hg:Vr x
 ·rfl
 ·exact absurd (show x.1=0 by rw [U6 hg];rfl) h
theorem QJ {x:Z6} (h:x.1=0):YX x=false:=by
 unfold YX;rw [h];rfl
def QK (x:Z6) (work:Int):Z6:=
 (x.1,x.2.1,x.2.2.1,x.2.2.2.1,x.2.2.2.2.1,x.2.2.2.2.2.1,x.2.2.2.2.2.2.1,x.2.2.2.2.2.2.2.1+UU work (Zf x.2.2.1) x.2.2.2.2.2.2.2.2.1,UT work (Zf x.2.2.1) x.2.2.2.2.2.2.2.2.1,x.2.2.2.2.2.2.2.2.2.1,x.2.2.2.2.2.2.2.2.2.2+work)
def QO (x:Z6) (rank:Int):Z6:=
 (x.1,x.2.1,rank,x.2.2.2.1,x.2.2.2.2.1,x.2.2.2.2.2.1,x.2.2.2.2.2.2.1,x.2.2.2.2.2.2.2.1,x.2.2.2.2.2.2.2.2.1%Zf rank,x.2.2.2.2.2.2.2.2.2.1,x.2.2.2.2.2.2.2.2.2.2)
def XL (x:Z6) (work:Int):Z6 × Bool:=
 if YX x then (if inB work 0 100000 && YX (QK x work) then (QK x work,true) else (x,false)) else (if Vr x then x else Vk,false)
def Yr (x:Z6) (rank:Int):Z6 × Bool:=
 if YX x then (if inB rank (-5) 5 then (QO x rank,true) else (x,false)) else (if Vr x then x else Vk,false)
theorem Te {x:Z6} {rank:Int} (h:YX x=true) (hr:inB rank (-5) 5=true):YX (QO x rank)=true:=by
 obtain ⟨st,be,rk,my,gu,lo,hi,hd,ca,ut,wk⟩:=x;have hp:=WA hr;have hc:inB (ca%Zf rank) 0 (Zf rank-1)=true:=YJ (Int.emod_nonneg _ (by omega)) (by have:=Int.emod_lt_of_pos ca (show 0<Zf rank by omega);omega);unfold YX at h ⊢;simp only [ZR] at h;obtain ⟨h0,h1,h2,h3,h4,h5,h6,h7,h8,h9⟩:=h;simp only [QO,h0,h1,h3,h4,h5,h6,h8,h9,hr,hc,Bool.and_self]
theorem Jd {work W ca:Int} (w0:0<=work) (w1:work<=100000) (r0:335<=W) (r1:W<=3125) (c0:0<=ca) (c1:ca<=W-1) :
  Xx work W ca=true/\0<=UU work W ca/\UU work W ca<=400000/\0<=UT work W ca/\UT work W ca<=W-1/\UU work W ca*W+UT work W ca=1024*work+ca:=by
 have hk:Xx work W ca=true:=L5 w0 (by omega) (by omega) (by omega) c0 (by omega);obtain ⟨e1,e2⟩:=PE hk;rw [e1,e2];have hd:=Int.emod_add_mul_ediv (1024*work+ca) W;have m0:=Int.emod_nonneg (1024*work+ca) (show W ≠ 0 by omega);have m1:=Int.emod_lt_of_pos (1024*work+ca) (show 0<W by omega);have q0:0<=(1024*work+ca) / W:=Int.ediv_nonneg (by omega) (by omega)
 have q1:(1024*work+ca) / W<=400000:=by
  refine Int.le_of_lt_add_one (Int.ediv_lt_of_lt_mul (by omega) ?_);have:(335:Int)*400001<=W*400001:=Int.mul_le_mul_of_nonneg_right r0 (by omega);have e:(400000+1)*W=W*400001:=by rw [Int.mul_comm];rfl
  rw [e];omega
 refine ⟨hk,q0,q1,m0,by omega,?_⟩;rw [Int.mul_comm];omega
open Go.ChangeShapes Go.WideShapes Go.ChangeAt Go.RowKit Go.Sort Go.Proofs.Tryz
theorem R8 (x0 x1 x2 x3 x4 x5 x6 x7 x8 x9 x10 y0 y1 y2 y3 y4 y5 y6 y7 y8 y9 y10:Int) (w:World):(Op.equalIn 10000 79 (.agg (I11 x0 x1 x2 x3 x4 x5 x6 x7 x8 x9 x10)) (.agg (I11 y0 y1 y2 y3 y4 y5 y6 y7 y8 y9 y10))).run prog w= .ok (TC (x0,x1,x2,x3,x4,x5,x6,x7,x8,x9,x10) (y0,y1,y2,y3,y4,y5,y6,y7,y8,y9,y10)) w:=by
 have u:=underlying2;have a:=Tryz.isAgg2;have z:=Tryz.sizeOf2;have hS:prog.underlying 79=some (.struct (prog.fieldsOf 79)):=by kernel_rfl
 have hp:prog.stoodInHeld 79=false:=by kernel_rfl
 rw [show (10000:Nat)=9999+1 from rfl,run_equalIn_agg w 9999 79 _ _ hS hp];simp only [Program.fieldsOf,underlying79];go_simp;unfold TC;by_cases h0:x0=y0;rotate_left
 ·simp [h0]
 subst h0;by_cases h1:x1=y1;rotate_left
 ·simp [h1]
 subst h1;by_cases h2:x2=y2;rotate_left
 ·simp [h2]
 subst h2;by_cases h3:x3=y3;rotate_left
 ·simp [h3]
 subst h3;by_cases h4:x4=y4;rotate_left
 ·simp [h4]
 subst h4;by_cases h5:x5=y5;rotate_left
 ·simp [h5]
 subst h5;by_cases h6:x6=y6;rotate_left
 ·simp [h6]
 subst h6;by_cases h7:x7=y7;rotate_left
 ·simp [h7]
 subst h7;by_cases h8:x8=y8;rotate_left
 ·simp [h8]
 subst h8;by_cases h9:x9=y9;rotate_left
 ·simp [h9]
 subst h9;by_cases h10:x10=y10;rotate_left
 ·simp [h10]
 subst h10;simp
theorem Kw (x0 x1 x2 x3 x4 x5 x6 x7 x8 x9 x10 y0 y1 y2 y3 y4 y5 y6 y7 y8 y9 y10:Int) (w:World):(binOp .eql 79 (.agg (I11 x0 x1 x2 x3 x4 x5 x6 x7 x8 x9 x10)) (.agg (I11 y0 y1 y2 y3 y4 y5 y6 y7 y8 y9 y10))).run prog w= .ok (.bool (TC (x0,x1,x2,x3,x4,x5,x6,x7,x8,x9,x10) (y0,y1,y2,y3,y4,y5,y6,y7,y8,y9,y10))) w:=by
 rw [run_eql_struct,R8];rfl
theorem Kx (x0 x1 x2 x3 x4 x5 x6 x7 x8 x9 x10 y0 y1 y2 y3 y4 y5 y6 y7 y8 y9 y10:Int) (w:World):(binOp .neq 79 (.agg (I11 x0 x1 x2 x3 x4 x5 x6 x7 x8 x9 x10)) (.agg (I11 y0 y1 y2 y3 y4 y5 y6 y7 y8 y9 y10))).run prog w= .ok (.bool (!TC (x0,x1,x2,x3,x4,x5,x6,x7,x8,x9,x10) (y0,y1,y2,y3,y4,y5,y6,y7,y8,y9,y10))) w:=by
 rw [run_neq_struct,R8];rfl
theorem YT {r x:Int} (h:Zf r=x) (w:World):cE 79 #[.int .i64 r] w (.int .i64 x):=by
 have:=SD r w;rw [h] at this;exact this
attribute [local go_sem ↓] Kw Kx
theorem XV (n:Int) (w:World):cE 83 #[.int .i64 n] w (.bool (inB n (-1000000000000) 1000000000000)):=by
 go_enter func83,ntmps83;go_wp2_with (go_at_call 27;refine (Z4 _ _ _ _).mono ?_;rintro e w' ⟨rfl,rfl⟩)
 go_ret;exact ⟨rfl,rfl⟩
theorem ZA (st be rk my gu lo hi hd ca ut wk:Int) (w:World):cB 63 #[.agg (I11 st be rk my gu lo hi hd ca ut wk)] w (.bool (Zs (st,be,rk,my,gu,lo,hi,hd,ca,ut,wk))):=by
 by_cases hst:st=0
 ·subst hst
  unfold Zs;rw [QJ rfl,Bool.or_false];obtain ⟨q,hq⟩:=ZE (Vr (0,be,rk,my,gu,lo,hi,hd,ca,ut,wk));rw [hq];have hz:TC (0,be,rk,my,gu,lo,hi,hd,ca,ut,wk) (0,0,0,0,0,0,0,0,0,0,0)=q:=hq;clear hq;go_enter func63,ntmps63;go_wp2_with fail;go_ret;exact ⟨rfl,(ba _ _)⟩
 ·have hne:(st ==0)=false:=by simpa using hst
  unfold Zs;rw [T6 hst,Bool.false_or];unfold YX;simp only;obtain ⟨x0,x1⟩:=Vj rk;obtain ⟨x,hx⟩:=ZE (Zf rk);rw [hx] at x0 x1 ⊢;have Hw:=Z9 hx;have hwr:IntKind.i64.wrap (x-1)=x-1:=by rw [IntKind.wrap_i64];omega
  clear hx hst;cases h0:inB st 1 3
  ·go_enter func63,ntmps63
   go_wp2_with (first | (go_at_call 27;refine (Z4 _ _ _ _).mono ?_;rintro e w' ⟨rfl,rfl⟩) | (go_at_call 82;refine (Zg _ _).mono ?_;rintro e w' ⟨rfl,rfl⟩) | (go_at_call 81;refine (YZ _ _ _).mono ?_;rintro e w' ⟨rfl,rfl⟩))
   go_ret;exact ⟨rfl,(ba _ _)⟩
  cases h1:inB be 0 7
  ·go_enter func63,ntmps63
   go_wp2_with (first | (go_at_call 27;refine (Z4 _ _ _ _).mono ?_;rintro e w' ⟨rfl,rfl⟩) | (go_at_call 82;refine (Zg _ _).mono ?_;rintro e w' ⟨rfl,rfl⟩) | (go_at_call 81;refine (YZ _ _ _).mono ?_;rintro e w' ⟨rfl,rfl⟩))
   go_ret;exact ⟨rfl,(ba _ _)⟩
  cases h2:inB rk (-5) 5
  ·go_enter func63,ntmps63
   go_wp2_with (first | (go_at_call 27;refine (Z4 _ _ _ _).mono ?_;rintro e w' ⟨rfl,rfl⟩) | (go_at_call 82;refine (Zg _ _).mono ?_;rintro e w' ⟨rfl,rfl⟩) | (go_at_call 81;refine (YZ _ _ _).mono ?_;rintro e w' ⟨rfl,rfl⟩))
   go_ret;exact ⟨rfl,(ba _ _)⟩
  cases h3:inB my 1 255
  ·go_enter func63,ntmps63
   go_wp2_with (first | (go_at_call 27;refine (Z4 _ _ _ _).mono ?_;rintro e w' ⟨rfl,rfl⟩) | (go_at_call 82;refine (Zg _ _).mono ?_;rintro e w' ⟨rfl,rfl⟩) | (go_at_call 81;refine (YZ _ _ _).mono ?_;rintro e w' ⟨rfl,rfl⟩))
   go_ret;exact ⟨rfl,(ba _ _)⟩
  cases h4:inB gu (-1) 5
  ·go_enter func63,ntmps63
   go_wp2_with (first | (go_at_call 27;refine (Z4 _ _ _ _).mono ?_;rintro e w' ⟨rfl,rfl⟩) | (go_at_call 82;refine (Zg _ _).mono ?_;rintro e w' ⟨rfl,rfl⟩) | (go_at_call 81;refine (YZ _ _ _).mono ?_;rintro e w' ⟨rfl,rfl⟩))
   go_ret;exact ⟨rfl,(ba _ _)⟩
  cases h5:Xd lo hi
  ·go_enter func63,ntmps63
   go_wp2_with (first | (go_at_call 27;refine (Z4 _ _ _ _).mono ?_;rintro e w' ⟨rfl,rfl⟩) | (go_at_call 82;refine (Zg _ _).mono ?_;rintro e w' ⟨rfl,rfl⟩) | (go_at_call 81;refine (YZ _ _ _).mono ?_;rintro e w' ⟨rfl,rfl⟩))
   go_ret;exact ⟨rfl,(ba _ _)⟩
  cases h6:inB hd (-1000000000000) 1000000000000
  ·go_enter func63,ntmps63
   go_wp2_with (first | (go_at_call 27;refine (Z4 _ _ _ _).mono ?_;rintro e w' ⟨rfl,rfl⟩) | (go_at_call 82;refine (Zg _ _).mono ?_;rintro e w' ⟨rfl,rfl⟩) | (go_at_call 81;refine (YZ _ _ _).mono ?_;rintro e w' ⟨rfl,rfl⟩))
   go_quiet (first | exact YG (Z4 _ _ _ _) | exact YG (XV _ _) | exact YG (YT (uh Hw) _) | exact YG (YA _ _));go_wp2_with fail;go_ret;exact ⟨rfl,YL ((ba _ _)) _⟩
  cases h7:inB ca 0 (x-1)
  ·go_enter func63,ntmps63
   go_wp2_with (first | (go_at_call 27;refine (Z4 _ _ _ _).mono ?_;rintro e w' ⟨rfl,rfl⟩) | (go_at_call 82;refine (Zg _ _).mono ?_;rintro e w' ⟨rfl,rfl⟩) | (go_at_call 81;refine (YZ _ _ _).mono ?_;rintro e w' ⟨rfl,rfl⟩))
   go_quiet (first | exact YG (Z4 _ _ _ _) | exact YG (XV _ _) | exact YG (YT (uh Hw) _) | exact YG (YA _ _));go_wp2_with fail;go_ret;exact ⟨rfl,YL ((ba _ _)) _⟩
  cases h8:inB ut 0 1024
  ·go_enter func63,ntmps63
   go_wp2_with (first | (go_at_call 27;refine (Z4 _ _ _ _).mono ?_;rintro e w' ⟨rfl,rfl⟩) | (go_at_call 82;refine (Zg _ _).mono ?_;rintro e w' ⟨rfl,rfl⟩) | (go_at_call 81;refine (YZ _ _ _).mono ?_;rintro e w' ⟨rfl,rfl⟩))
   go_quiet (first | exact YG (Z4 _ _ _ _) | exact YG (XV _ _) | exact YG (YT (uh Hw) _) | exact YG (YA _ _));go_wp2_with fail;go_ret;exact ⟨rfl,YL ((ba _ _)) _⟩
  cases h9:inB wk 0 100000000000
  ·go_enter func63,ntmps63
   go_wp2_with (first | (go_at_call 27;refine (Z4 _ _ _ _).mono ?_;rintro e w' ⟨rfl,rfl⟩) | (go_at_call 82;refine (Zg _ _).mono ?_;rintro e w' ⟨rfl,rfl⟩) | (go_at_call 81;refine (YZ _ _ _).mono ?_;rintro e w' ⟨rfl,rfl⟩))
   go_quiet (first | exact YG (Z4 _ _ _ _) | exact YG (XV _ _) | exact YG (YT (uh Hw) _) | exact YG (YA _ _));go_wp2_with fail;go_ret;exact ⟨rfl,YL ((ba _ _)) _⟩
  go_enter func63,ntmps63;go_wp2_with (first | (go_at_call 27;refine (Z4 _ _ _ _).mono ?_;rintro e w' ⟨rfl,rfl⟩) | (go_at_call 82;refine (Zg _ _).mono ?_;rintro e w' ⟨rfl,rfl⟩) | (go_at_call 81;refine (YZ _ _ _).mono ?_;rintro e w' ⟨rfl,rfl⟩))
  go_quiet (first | exact YG (Z4 _ _ _ _) | exact YG (XV _ _) | exact YG (YT (uh Hw) _) | exact YG (YA _ _));go_wp2_with fail;go_ret;exact ⟨rfl,YL ((ba _ _)) _⟩
end Go.Proofs.YtmdgokjeobnnaaaGreatDoor
namespace Go.Proofs.YtmdgokjeobnnaaaGreatDoor
open Go.ChangeShapes Go.WideShapes Go.ChangeAt Go.RowKit Go.Sort
set_option linter.unusedVariables false
def ZP (s:Z6):Bool:=s.1 ==2 || s.1 ==3
def Xo (had XP:Int):Bool:=inB had (-1000000000000) 1000000000000 && (inB XP (-1000000000000) 1000000000000 && inB (had-XP) (-20000) 63000)
def SW (d:WC):Bool:=inB d.2.2 (-900000000000) 900000000000
def Wr (m:Z7) (j:Nat):Bool:=inB (Z8 m.pc j) 0 (((ZO m.rm j).2.length:Int)-1)
def Yh (m:Z7) (s:Z6):Bool:=Zs s && (s.1 ==0 || (decide (s.2.2.2.2.1<m.gd.length) && decide (s.2.1<m.dk.length)))
def Yb (m:Z7) (s:Z6):Bool:= !ZP s || ((Z8 m.dk s.2.1.toNat).1 && (VI s.2.2.2.1 s.2.1 && Xo s.2.2.2.2.2.2.2.1 (Z8 m.dk s.2.1.toNat).2.2))
def YI (m:Z7):Bool:=YB m.rm && (YD m.gd && (decide (m.sm.length<=12) && (decide ((m.dk.length:Int)=ZV m.rm) && (decide (m.pc.length=m.rm.length) && inB m.now 0 1000000))))
def Vz (m:Z7) (k:Nat):Bool:=(List.range k).all fun j=>SW (Z8 m.dk j)
def Us (m:Z7) (k:Nat):Bool:=(List.range k).any fun j=>(Z8 m.dk j).1
def VA (m:Z7) (k:Nat):Bool:=(List.range k).all fun j=>Wr m j
def Wl (m:Z7) (k:Nat):Bool:=(List.range k).all fun j=>Yh m (Z8 m.sm j) && Yb m (Z8 m.sm j)
def Yw (m:Z7):Bool:=YI m && (Vz m m.dk.length && (VA m m.pc.length && (Wl m m.sm.length && Us m m.dk.length)))
theorem Ox {p:Nat->Bool} (k:Nat):(List.range (k+1)).all p=((List.range k).all p && p k):=by rw [List.range_succ,List.all_append];simp
theorem Gh {p:Nat->Bool} (k:Nat):(List.range (k+1)).any p=((List.range k).any p || p k):=by rw [List.range_succ,List.any_append];simp
theorem Ov {p:Nat->Bool} {k n:Nat} (hk:k<n) (h:p k=false):(List.range n).all p=false:=by
 rw [List.all_eq_false];exact ⟨k,List.mem_range.2 hk,by simp [h]⟩
theorem Ou {p:Nat->Bool} {k n:Nat} (h:(List.range n).all p=true) (hk:k<n):p k=true:=List.all_eq_true.1 h k (List.mem_range.2 hk)
theorem Xa {m:Z7} (h:YI m=false):Yw m=false:=by unfold Yw;rw [h];rfl
theorem NF {m:Z7} {k:Nat} (hk:k<m.dk.length) (h:SW (Z8 m.dk k)=false):Yw m=false:=by
 unfold Yw Vz;rw [Ov hk h];simp
theorem NG {m:Z7} {k:Nat} (hk:k<m.pc.length) (h:Wr m k=false):Yw m=false:=by
 unfold Yw VA;rw [Ov (p:=fun j=>Wr m j) hk h];simp
theorem OT {m:Z7} {k:Nat} (hk:k<m.sm.length) (h:(Yh m (Z8 m.sm k) && Yb m (Z8 m.sm k))=false):Yw m=false:=by
 unfold Yw Wl;rw [Ov (p:=fun j=>Yh m (Z8 m.sm j) && Yb m (Z8 m.sm j)) hk h];simp
theorem LY {m:Z7} (h1:YI m=true) (h2:Vz m m.dk.length=true) (h3:VA m m.pc.length=true) (h4:Wl m m.sm.length=true):Yw m=Us m m.dk.length:=by
 unfold Yw;rw [h1,h2,h3,h4];rfl
theorem Nr {m:Z7} {s:Z6} (h:Yh m s=true) (hp:ZP s=true):0<=s.2.1/\s.2.1<m.dk.length/\s.2.1<=7/\1<=s.2.2.2.1/\s.2.2.2.1<=255/\s.2.2.2.2.1<m.gd.length:=by
 obtain ⟨st,be,rk,my,gu,lo,hi,hd,ca,ut,wk⟩:=s
 have hst:st ≠ 0:=by
  intro e;subst e;cases hp
 unfold Yh at h;simp only [ZR,Bool.or_eq_true,YV] at h;obtain ⟨h1,h2⟩:=h
 rcases h2 with h2 | ⟨h2,h3⟩
 ·exact absurd (by simpa using h2) hst
 ·have hs:Zs (st,be,rk,my,gu,lo,hi,hd,ca,ut,wk)=YX (st,be,rk,my,gu,lo,hi,hd,ca,ut,wk):=by unfold Zs;rw [T6 hst,Bool.false_or]
  rw [hs] at h1;obtain ⟨_,⟨b0,b1⟩,_,⟨m0,m1⟩,_⟩:=Zj h1;exact ⟨b0,h3,b1,m0,m1,h2⟩
def Yk (ss:List Z6) (b:Int):Nat->Option (Int × Bool)
 | 0=>some (-1,false)
 | k+1=>match Yk ss b k with
  | none=>none
  | some (wk,wt)=>if (Z8 ss k).2.1=b/\ZP (Z8 ss k)=true then (if (Z8 ss k).1=2 then some (wk,true) else if 0<=wk then none else some ((k:Int),wt)) else some (wk,wt)
def Yu (m:Z7) (b:Nat):Bool:=match Yk m.sm b m.sm.length with
 | none=>false
 | some (wk,wt)=>(Z8 m.dk b).2.1 ==wk && !(wt && decide (wk<0))
def ZJ (m:Z7):Bool:=Yw m && (List.range m.dk.length).all (Yu m)
open Go.ChangeShapes Go.WideShapes Go.ChangeAt Go.RowKit Go.Sort Go.Proofs.Tryz
theorem Qr (st be rk my gu lo hi hd ca ut wk:Int) (w:World):Calls prog 43 #[.agg (I11 st be rk my gu lo hi hd ca ut wk)] w fun e w'=>
  e= .returned (.bool (ZP (st,be,rk,my,gu,lo,hi,hd,ca,ut,wk)))/\Below w.heap.size w w':=by
 unfold ZP;simp only;cases h2:(st ==2)
 all_goals
  go_enter func43,ntmps43;go_wp2_with fail;go_ret;exact ⟨by first | rfl | (simp),(ba _ _)⟩
theorem QZ (h m:Int) (w:World):cE 65 #[.int .i64 h,.int .i64 m] w (.bool (Xo h m)):=by
 unfold Xo;cases h1:inB h (-1000000000000) 1000000000000
 ·go_enter func65,ntmps65
  go_wp2_with (first | (go_at_call 83;refine (XV _ _).mono ?_;rintro e w' ⟨rfl,rfl⟩) | (go_at_call 27;refine (Z4 _ _ _ _).mono ?_;rintro e w' ⟨rfl,rfl⟩))
  go_ret;exact ⟨rfl,rfl⟩
 cases h2:inB m (-1000000000000) 1000000000000
 ·go_enter func65,ntmps65
  go_wp2_with (first | (go_at_call 83;refine (XV _ _).mono ?_;rintro e w' ⟨rfl,rfl⟩) | (go_at_call 27;refine (Z4 _ _ _ _).mono ?_;rintro e w' ⟨rfl,rfl⟩))
  go_ret;exact ⟨rfl,rfl⟩
 obtain ⟨a0,a1⟩:=ZS h1;obtain ⟨b0,b1⟩:=ZS h2;go_enter func65,ntmps65;go_wp2_with (first | (go_at_call 83;refine (XV _ _).mono ?_;rintro e w' ⟨rfl,rfl⟩) | (go_at_call 27;refine (Z4 _ _ _ _).mono ?_;rintro e w' ⟨rfl,rfl⟩))
 go_ret;exact ⟨rfl,rfl⟩
def atV (ss:List Z6) (b:Int):Nat->List Z1
 | 0=>[]
 | k+1=>if (Z8 ss k).2.1=b/\ZP (Z8 ss k)=true then QM (atV ss b k) ((Z8 ss k).2.2.2.2.2.2.2.1,(k:Int)) else atV ss b k
theorem SO (ss:List Z6) (b:Int):∀ k,(atV ss b k).length<=k
 | 0=>Z3 _
 | k+1=>by
  have:=SO ss b k;unfold atV
  split
  ·rw [IW];omega
  ·omega
theorem Oy {ss:List Z6} {b:Int} {k:Nat} (h:¬ ((Z8 ss k).2.1=b/\ZP (Z8 ss k)=true)):atV ss b (k+1)=atV ss b k:=by rw [atV,if_neg h]
theorem Rm {ss:List Z6} {b:Int} {k:Nat} (h1:(Z8 ss k).2.1=b) (h2:ZP (Z8 ss k)=true):atV ss b (k+1)=QM (atV ss b k) ((Z8 ss k).2.2.2.2.2.2.2.1,(k:Int)):=by rw [atV,if_pos ⟨h1,h2⟩]
def VM (m:Z7) (b:Int):Bool:=inB b 0 ((m.dk.length:Int)-1)
theorem Ji {m:Z7} (h:ZJ m=true):m.sm.length<=12:=by
 unfold ZJ Yw YI at h;simp only [ZR,YV] at h;exact h.1.1.2.2.1
def WB (s:Z6):Int:=s.2.2.2.2.2.2.2.1
theorem IX {ps:List Z1} {x e:Z1} : e ∈ QM ps x ↔ e ∈ ps\/e=x:=by
 rw [(Ss ps x).mem_iff];simp
theorem XH (ss:List Z6) (b:Int) (e:Z1):∀ k,e ∈ atV ss b k ↔ ∃ i:Nat,i<k/\(Z8 ss i).2.1=b/\ZP (Z8 ss i)=true/\e=(WB (Z8 ss i),(i:Int))
 | 0=>by simp [atV]
 | k+1=>by
  have ih:=XH ss b e k;by_cases h:(Z8 ss k).2.1=b/\ZP (Z8 ss k)=true
  ·rw [Rm h.1 h.2,IX,ih]
   constructor
   ·rintro (⟨i,hi,h1,h2,h3⟩ | h3)
    ·exact ⟨i,by omega,h1,h2,h3⟩
    ·exact ⟨k,by omega,h.1,h.2,h3⟩
   ·rintro ⟨i,hi,h1,h2,h3⟩
    by_cases hik:i=k
    ·subst hik;exact .inr h3
    ·exact .inl ⟨i,by omega,h1,h2,h3⟩
  ·rw [Oy h,ih]
   constructor
   ·rintro ⟨i,hi,h1,h2,h3⟩
    exact ⟨i,by omega,h1,h2,h3⟩
   ·rintro ⟨i,hi,h1,h2,h3⟩
    by_cases hik:i=k
    ·subst hik;exact absurd ⟨h1,h2⟩ h
    ·exact ⟨i,by omega,h1,h2,h3⟩
theorem Oz (ss:List Z6) (b:Int):∀ k,Ris (atV ss b k)
 | 0=>List.Pairwise.nil
 | k+1=>by
  by_cases h:(Z8 ss k).2.1=b/\ZP (Z8 ss k)=true
  ·rw [Rm h.1 h.2];exact IY (Oz ss b k) _
  ·rw [Oy h];exact Oz ss b k
theorem P6 (ss:List Z6) (b:Int):∀ k,(atV ss b k).Pairwise fun x y=>x.2 ≠ y.2
 | 0=>List.Pairwise.nil
 | k+1=>by
  by_cases h:(Z8 ss k).2.1=b/\ZP (Z8 ss k)=true
  ·rw [Rm h.1 h.2]
   refine (Ss (atV ss b k) _).symm.pairwise ?_ (fun h=>Ne.symm h);rw [List.pairwise_append];refine ⟨P6 ss b k,by simp,fun x hx y hy=> ?_⟩;obtain rfl:y=_:=by simpa using hy
   obtain ⟨i,hi,_,_,rfl⟩:=(XH ss b x k).1 hx;show (i:Int) ≠ (k:Int);omega
  ·rw [Oy h];exact P6 ss b k
def Alike (ss ss':List Z6) (k:Nat):Prop:= ∀ i,i<k->(Z8 ss' i).2.1=(Z8 ss i).2.1/\ZP (Z8 ss' i)=ZP (Z8 ss i)/\WB (Z8 ss' i)=WB (Z8 ss i)
theorem O9 {ss ss':List Z6} (b:Int):∀ k,Alike ss ss' k->atV ss' b k=atV ss b k
 | 0,_=>rfl
 | k+1,h=>by
  have ih:=O9 b k (fun i hi=>h i (by omega));obtain ⟨h1,h2,h3⟩:=h k (by omega);unfold atV;rw [h1,h2,ih,show (Z8 ss' k).2.2.2.2.2.2.2.1=(Z8 ss k).2.2.2.2.2.2.2.1 from h3]
def Xk (ss:List Z6) (b:Int):Int:=match atV ss b ss.length with
 | []=> -1
 | h::_=>h.2
theorem S0 {ss:List Z6} {b:Int} {e:Z1} {t:List Z1} (h:atV ss b ss.length=e::t):Xk ss b=e.2/\ ∃ i:Nat,i<ss.length/\(Z8 ss i).2.1=b/\ZP (Z8 ss i)=true/\e=(WB (Z8 ss i),(i:Int)):=by
 refine ⟨by unfold Xk;rw [h],?_⟩;exact (XH ss b e ss.length).1 (by rw [h];simp)
theorem Nd {ss:List Z6} {b:Int} {e:Z1} {t:List Z1} (h:atV ss b ss.length=e::t) {i:Nat} (hi:i<ss.length) (h1:(Z8 ss i).2.1=b) (h2:ZP (Z8 ss i)=true):e.1<=WB (Z8 ss i):=by
 have hm:(WB (Z8 ss i),(i:Int)) ∈ atV ss b ss.length:=(XH ss b _ ss.length).2 ⟨i,hi,h1,h2,rfl⟩;have hr:=Oz ss b ss.length;rw [h] at hm hr
 rcases List.mem_cons.1 hm with he | ht
 ·rw [<-he];exact Int.le_refl _
 ·have:=(List.pairwise_cons.1 hr).1 _ ht
  rw [IK] at this;simp only at this;omega
def stS (s:Z6) (st:Int):Z6:=(st,s.2)
def ZB (ss:List Z6) (q:List Z1):List Z6:=q.foldl (fun ss e=>ss.set e.2.toNat (stS (Z8 ss e.2.toNat) 2)) ss
theorem O5 (ss:List Z6) (q:List Z1) (e:Z1):ZB ss (q++[e])=(ZB ss q).set e.2.toNat (stS (Z8 (ZB ss q) e.2.toNat) 2):=by
  unfold ZB;rw [List.foldl_append];rfl
theorem VC (q:List Z1):∀ ss:List Z6,(ZB ss q).length=ss.length:=by
  induction q with
  | nil=>intro ss;rfl
  | cons e q ih=>intro ss;show (ZB (ss.set e.2.toNat (stS (Z8 ss e.2.toNat) 2)) q).length=_;rw [ih,VH]
theorem MH (q:List Z1):∀ (ss:List Z6) (i:Nat),(∀ e ∈ q,0<=e.2/\e.2<ss.length)->((∃ e ∈ q,e.2=(i:Int))->Z8 (ZB ss q) i=stS (Z8 ss i) 2)/\((∀ e ∈ q,e.2 ≠ (i:Int))->Z8 (ZB ss q) i=Z8 ss i):=by
  induction q with
  | nil=>
    intro ss i h;exact ⟨fun ⟨e,he,_⟩=>(List.not_mem_nil he).elim,fun _=>rfl⟩
  | cons e q ih=>
    intro ss i h;obtain ⟨e0,e1⟩:=h e (by simp);have hs:=ZC (x:=stS (Z8 ss e.2.toNat) 2) (show e.2.toNat<ss.length by omega) i;obtain ⟨i1,i2⟩:=ih (ss.set e.2.toNat (stS (Z8 ss e.2.toNat) 2)) i (fun x hx=>by rw [VH];exact h x (List.mem_cons_of_mem _ hx));show ((∃ x ∈ e::q,x.2=(i:Int))->Z8 (ZB (ss.set e.2.toNat (stS (Z8 ss e.2.toNat) 2)) q) i=_)/\((∀ x ∈ e::q,x.2 ≠ (i:Int))->Z8 (ZB (ss.set e.2.toNat (stS (Z8 ss e.2.toNat) 2)) q) i=_)
    constructor
    · rintro ⟨x,hx,hxi⟩
      by_cases hq:∃ y ∈ q,y.2=(i:Int)
      · rw [i1 hq,hs]
        split
        · rename_i he;rw [he];rfl
        · rfl
      · rw [i2 (fun y hy e=>hq ⟨y,hy,e⟩),hs]
        rcases List.mem_cons.1 hx with rfl | hx
        · rw [if_pos (by omega)]
          rw [show x.2.toNat=i by omega]
        · exact absurd ⟨x,hx,hxi⟩ hq
    · intro hn
      rw [i2 (fun y hy=>hn y (List.mem_cons_of_mem _ hy)),hs,if_neg];have:=hn e (by simp);omega
def WU (ss:List Z6) (b:Int) (d:WC):WC:=match atV ss b ss.length with
  | []=>(d.1,-1,d.2.2)
  | e::_=>(d.1,e.2,Y4 d.2.2 e.1)
def Xu (m:Z7) (b:Nat):Z7:=match atV m.sm b m.sm.length with
  | []=>{ m with dk:=m.dk.set b ((Z8 m.dk b).1,-1,(Z8 m.dk b).2.2) }
  | e::t=>{ m with sm:=(ZB m.sm (e::t)).set e.2.toNat (stS (Z8 (ZB m.sm (e::t)) e.2.toNat) 3),dk:=m.dk.set b ((Z8 m.dk b).1,e.2,Y4 (Z8 m.dk b).2.2 e.1) }
def Ym (m:Z7):Nat->Z7
  | 0=>m
  | k+1=>Xu (Ym m k) k
def ZL (m:Z7):Z7:=Ym m m.dk.length
theorem MA (m:Z7) (b:Nat):(Xu m b).rm=m.rm/\(Xu m b).gd=m.gd/\(Xu m b).pc=m.pc/\(Xu m b).now=m.now/\(Xu m b).sm.length=m.sm.length/\(Xu m b).dk.length=m.dk.length:=by
  unfold Xu
  split
  · simp
  · simp [VC]
theorem Zp (m:Z7):∀ k,(Ym m k).rm=m.rm/\(Ym m k).gd=m.gd/\(Ym m k).pc=m.pc/\(Ym m k).now=m.now/\(Ym m k).sm.length=m.sm.length/\(Ym m k).dk.length=m.dk.length
  | 0=>⟨rfl,rfl,rfl,rfl,rfl,rfl⟩
  | k+1=>by
    obtain ⟨h1,h2,h3,h4,h5,h6⟩:=Zp m k;obtain ⟨g1,g2,g3,g4,g5,g6⟩:=MA (Ym m k) k;exact ⟨g1.trans h1,g2.trans h2,g3.trans h3,g4.trans h4,g5.trans h5,g6.trans h6⟩
theorem Sc (m : Z7) (b : Nat) {i : Nat} (hi : i < m.sm.length) : Z8 (Xu m b).sm i = if (Z8 m.sm i).2.1 = (b : Int) ∧ ZP (Z8 m.sm i) = true then stS (Z8 m.sm i) (if Xk m.sm b = (i : Int) then 3 else 2) else Z8 m.sm i := by
  have hq := XH m.sm (b : Int)
  have hf : Xk m.sm (b : Int) = match atV m.sm (b : Int) m.sm.length with
    | [] => -1
    | h :: _ => h.2 := rfl
  unfold Xu
  split
  · rename_i h0
    rw [if_neg];intro hp;have := (hq (WB (Z8 m.sm i), (i : Int)) m.sm.length).2 ⟨i, hi, hp.1, hp.2, rfl⟩;rw [h0] at this;exact List.not_mem_nil this
  · rename_i e t h0
    rw [h0] at hf;simp only at hf
    have hin : ∀ x ∈ e :: t, 0 ≤ x.2 ∧ x.2 < m.sm.length := by
      intro x hx;rw [← h0] at hx;obtain ⟨j, hj, _, _, rfl⟩ := (hq x _).1 hx;exact ⟨by show (0 : Int) ≤ (j : Int); omega, by show (j : Int) < _; omega⟩
    obtain ⟨w1, w2⟩ := MH (e :: t) m.sm i hin;obtain ⟨e0, e1⟩ := hin e (by simp);show Z8 ((ZB m.sm (e :: t)).set e.2.toNat _) i = _;rw [ZC (by rw [VC]; omega)];by_cases hp : (Z8 m.sm i).2.1 = (b : Int) ∧ ZP (Z8 m.sm i) = true
    · have hmem : (WB (Z8 m.sm i), (i : Int)) ∈ e :: t := by rw [← h0]; exact (hq _ _).2 ⟨i, hi, hp.1, hp.2, rfl⟩
      rw [if_pos hp, hf];by_cases hie : i = e.2.toNat
      · rw [if_pos hie, if_pos (by omega), ← hie, w1 ⟨_, hmem, rfl⟩]
        rfl
      · rw [if_neg hie, if_neg (by omega), w1 ⟨_, hmem, rfl⟩]
    · have hnm : ∀ x ∈ e :: t, x.2 ≠ (i : Int) := by
        intro x hx hxi;rw [← h0] at hx;obtain ⟨j, hj, j1, j2, rfl⟩ := (hq x _).1 hx
        have : j = i := by have : (j : Int) = (i : Int) := hxi
                           omega
        subst this;exact hp ⟨j1, j2⟩
      rw [if_neg hp, if_neg (by have := hnm e (by simp); omega), w2 hnm]
theorem Mz (m:Z7) {b:Nat} (hb:b<m.dk.length) (j:Nat):Z8 (Xu m b).dk j=if j=b then WU m.sm b (Z8 m.dk b) else Z8 m.dk j:=by
  have hf:WU m.sm (b:Int) (Z8 m.dk b)=match atV m.sm (b:Int) m.sm.length with
    | []=>((Z8 m.dk b).1,-1,(Z8 m.dk b).2.2)
    | e::_=>((Z8 m.dk b).1,e.2,Y4 (Z8 m.dk b).2.2 e.1):=rfl
  unfold Xu
  split
  · rename_i h0
    rw [h0] at hf;rw [hf,<-ZC hb]
  · rename_i e t h0
    rw [h0] at hf;rw [hf,<-ZC hb]
theorem Og (m:Z7) (b:Nat):Alike m.sm (Xu m b).sm m.sm.length:=by
  intro i hi;rw [Sc m b hi]
  split
  · rename_i hp
    refine ⟨rfl,?_,rfl⟩;rw [hp.2]
    split<;>rfl
  · exact ⟨rfl,rfl,rfl⟩
theorem Alike.trans {a b c:List Z6} {k:Nat} (h:Alike a b k) (g:Alike b c k):Alike a c k:=fun i hi=>⟨(g i hi).1.trans (h i hi).1,(g i hi).2.1.trans (h i hi).2.1,(g i hi).2.2.trans (h i hi).2.2⟩
theorem Xe (m:Z7):∀ k,Alike m.sm (Ym m k).sm m.sm.length
  | 0=>fun _ _=>⟨rfl,rfl,rfl⟩
  | k+1=>by
    have h:=Og (Ym m k) k;rw [(Zp m k).2.2.2.2.1] at h;exact (Xe m k).trans h
theorem SG (m:Z7) (k:Nat) (b:Int):atV (Ym m k).sm b (Ym m k).sm.length=atV m.sm b m.sm.length:=by
  rw [(Zp m k).2.2.2.2.1];exact O9 b _ (Xe m k)
theorem Oh (m:Z7) (k:Nat) (b:Int):Xk (Ym m k).sm b=Xk m.sm b:=by unfold Xk;rw [SG]
theorem P1 (m:Z7) (k:Nat) (b:Int) (d:WC):WU (Ym m k).sm b d=WU m.sm b d:=by unfold WU;rw [SG]
theorem Wk (m:Z7) {i:Nat} (hi:i<m.sm.length):∀ k:Nat,Z8 (Ym m k).sm i=if (0<=(Z8 m.sm i).2.1/\(Z8 m.sm i).2.1<(k:Int))/\ZP (Z8 m.sm i)=true then stS (Z8 m.sm i) (if Xk m.sm (Z8 m.sm i).2.1=(i:Int) then 3 else 2) else Z8 m.sm i
  | 0=>by rw [if_neg (by omega)];rfl
  | k+1=>by
    have ih:=Wk m hi k;have ha:=Xe m k i hi;show Z8 (Xu (Ym m k) k).sm i=_;rw [Sc _ _ (by rw [(Zp m k).2.2.2.2.1];exact hi),ha.1,ha.2.1,Oh];by_cases hp:ZP (Z8 m.sm i)=true
    · by_cases hb:(Z8 m.sm i).2.1=(k:Int)
      · have hc:(0<=(Z8 m.sm i).2.1/\(Z8 m.sm i).2.1<((k+1:Nat):Int))/\ZP (Z8 m.sm i)=true:=⟨by omega,hp⟩
        rw [if_pos ⟨hb,hp⟩,if_pos hc,ih,if_neg (by omega),hb]
      · rw [if_neg (fun h=>hb h.1),ih]
        by_cases hk:0<=(Z8 m.sm i).2.1/\(Z8 m.sm i).2.1<(k:Int)
        · have hc:(0<=(Z8 m.sm i).2.1/\(Z8 m.sm i).2.1<((k+1:Nat):Int))/\ZP (Z8 m.sm i)=true:=⟨by omega,hp⟩
          rw [if_pos ⟨hk,hp⟩,if_pos hc]
        · rw [if_neg (fun h=>hk h.1),if_neg (fun h=>hk (by omega))]
    · rw [if_neg (fun h=>hp h.2),ih,if_neg (fun h=>hp h.2),if_neg (fun h=>hp h.2)]
theorem U0 (m:Z7) (j:Nat):∀ k:Nat,k<=m.dk.length->Z8 (Ym m k).dk j=if j<k then WU m.sm j (Z8 m.dk j) else Z8 m.dk j
  | 0,_=>by rw [if_neg (by omega)];rfl
  | k+1,hk=>by
    have ih:=U0 m j k (by omega);show Z8 (Xu (Ym m k) k).dk j=_;rw [Mz _ (by rw [(Zp m k).2.2.2.2.2];omega)];by_cases hjk:j=k
    · subst hjk
      rw [if_pos rfl,if_pos (by omega),P1,ih,if_neg (by omega)]
    · rw [if_neg hjk,ih]
      by_cases h:j<k
      · rw [if_pos h,if_pos (by omega)]
      · rw [if_neg h,if_neg (by omega)]
structure Loose (m:Z7):Prop where
  head:YI m=true
  desk:∀ j,j<m.dk.length->SW (Z8 m.dk j)=true
  pace:∀ j,j<m.pc.length->Wr m j=true
  here:∀ i,i<m.sm.length->Yh m (Z8 m.sm i)=true
  seat:∀ i,i<m.sm.length->Yb m (Z8 m.sm i)=true
  openD:∃ j,j<m.dk.length/\(Z8 m.dk j).1=true
theorem Qz {m:Z7} (h:Yw m=true):Loose m:=by
  unfold Yw Vz VA Wl Us at h;simp only [ZR] at h;obtain ⟨h1,h2,h3,h4,h5⟩:=h;have h4':=fun i hi=>Ou h4 (k:=i) hi;simp only [ZR] at h4';obtain ⟨j,hj,ho⟩:=List.any_eq_true.1 h5;exact ⟨h1,fun j hj=>Ou h2 hj,fun j hj=>Ou h3 hj,fun i hi=>(h4' i hi).1,fun i hi=>(h4' i hi).2,j,List.mem_range.1 hj,ho⟩
theorem Loose.mk' {m:Z7} (h:Loose m):Yw m=true:=by
  unfold Yw Vz VA Wl Us;simp only [ZR];refine ⟨h.head,?_,?_,?_,?_⟩
  · exact List.all_eq_true.2 fun j hj=>h.desk j (List.mem_range.1 hj)
  · exact List.all_eq_true.2 fun j hj=>h.pace j (List.mem_range.1 hj)
  · exact List.all_eq_true.2 fun j hj=>by rw [h.here j (List.mem_range.1 hj),h.seat j (List.mem_range.1 hj)];rfl
  · obtain ⟨j,hj,ho⟩:=h.openD
    exact List.any_eq_true.2 ⟨j,List.mem_range.2 hj,ho⟩
theorem Loose.at {m:Z7} (h:Loose m) {i:Nat} (hi:i<m.sm.length) (hp:ZP (Z8 m.sm i)=true):0<=(Z8 m.sm i).2.1/\(Z8 m.sm i).2.1<m.dk.length/\(Z8 m.dk (Z8 m.sm i).2.1.toNat).1=true/\VI (Z8 m.sm i).2.2.2.1 (Z8 m.sm i).2.1=true/\Xo (WB (Z8 m.sm i)) (Z8 m.dk (Z8 m.sm i).2.1.toNat).2.2=true:=by
  obtain ⟨b0,b1,_⟩:=Nr (h.here i hi) hp;have hs:=h.seat i hi;unfold Yb at hs;rw [hp] at hs;simp only [Bool.not_true,Bool.false_or,ZR] at hs;exact ⟨b0,b1,hs.1,hs.2.1,hs.2.2⟩
theorem SP {had XP:Int} (h:Xo had XP=true) : -1000000000000<=had/\had<=1000000000000/\ -1000000000000<=XP/\XP<=1000000000000/\ -20000<=had-XP/\had-XP<=63000:=by
  unfold Xo at h;simp only [ZR] at h;have h1:=ZS h.1;have h2:=ZS h.2.1;have h3:=ZS h.2.2;omega
theorem OB {had XP:Int} (h0 : -1000000000000<=had) (h1:had<=1000000000000) (h2 : -1000000000000<=XP) (h3:XP<=1000000000000) (h4 : -20000<=had-XP) (h5:had-XP<=63000):Xo had XP=true:=by
  unfold Xo;rw [YJ h0 h1,YJ h2 h3,YJ h4 h5];rfl
theorem SX {d:WC} (h:SW d=true) : -900000000000<=d.2.2/\d.2.2<=900000000000:=ZS h
theorem Kv {s:Z6} {st:Int} (h:Zs s=true) (hp:ZP s=true) (h0:1<=st) (h1:st<=3):Zs (stS s st)=true:=by
  obtain ⟨x0,be,rk,my,gu,lo,hi,hd,ca,ut,wk⟩:=s;have hx:x0 ≠ 0:=by intro e;subst e;cases hp
  unfold Zs at h ⊢;rw [T6 (x:=(x0,be,rk,my,gu,lo,hi,hd,ca,ut,wk)) hx,Bool.false_or] at h;unfold YX at h;simp only [ZR] at h;obtain ⟨g0,g⟩:=h
  have:YX (stS (x0,be,rk,my,gu,lo,hi,hd,ca,ut,wk) st)=true:=by
    unfold YX stS;simp only [ZR];exact ⟨YJ h0 h1,g⟩
  rw [this,Bool.or_true]
theorem Ns {m:Z7} {s:Z6} {st:Int} (h:Yh m s=true) (hp:ZP s=true) (h0:1<=st) (h1:st<=3):Yh m (stS s st)=true:=by
  unfold Yh at h ⊢;simp only [ZR,Bool.or_eq_true] at h ⊢;refine ⟨Kv h.1 hp h0 h1,.inr ?_⟩
  rcases h.2 with e | e
  · have:s.1=0:=by simpa using e
    unfold ZP at hp;rw [this] at hp;cases hp
  · exact e
theorem Xh {m m':Z7} (hg:m'.gd.length=m.gd.length) (hd:m'.dk.length=m.dk.length) (s:Z6):Yh m' s=Yh m s:=by unfold Yh;rw [hg,hd]
theorem MD {m:Z7} (h:Loose m):Loose (ZL m):=by
  obtain ⟨e1,e2,e3,e4,e5,e6⟩:=Zp m m.dk.length;have hd:=fun j=>U0 m j m.dk.length (Z3 _)
  have hopen:∀ j,(Z8 (ZL m).dk j).1=(Z8 m.dk j).1:=by
    intro j;unfold ZL;rw [hd j]
    split
    · unfold WU;split<;>rfl
    · rfl
  have hmark:∀ j,j<m.dk.length->(-900000000000<=(Z8 (ZL m).dk j).2.2/\(Z8 (ZL m).dk j).2.2<=900000000000)/\(Z8 m.dk j).2.2<=(Z8 (ZL m).dk j).2.2/\((Z8 (ZL m).dk j).2.2<=(Z8 m.dk j).2.2\/ ∀ i,i<m.sm.length->(Z8 m.sm i).2.1=(j:Int)->ZP (Z8 m.sm i)=true->(Z8 (ZL m).dk j).2.2<=WB (Z8 m.sm i)):=by
    intro j hj;obtain ⟨k0,k1⟩:=SX (h.desk j hj);unfold ZL;rw [hd j,if_pos hj];unfold WU
    split
    · exact ⟨⟨k0,k1⟩,Int.le_refl _,.inl (Int.le_refl _)⟩
    · rename_i e t hq
      obtain ⟨_,i,hi,hib,hip,rfl⟩:=S0 hq;obtain ⟨_,_,_,_,hband⟩:=h.at hi hip;obtain ⟨a0,a1,_⟩:=SP hband;have hm:=J1 (m:=(Z8 m.dk j).2.2) (f:=WB (Z8 m.sm i)) (by omega) (by omega) a0 a1;show (-900000000000<=Y4 _ _/\Y4 _ _<=900000000000)/\_<=Y4 _ _/\(Y4 _ _<=_\/_)
      rw [hm];refine ⟨by omega,by omega,?_⟩;by_cases hc:WB (Z8 m.sm i)<=(Z8 m.dk j).2.2
      · left;omega
      · right
        intro i' hi' hb' hp';have:=Nd hq hi' hb' hp';simp only at this;show min (max (Z8 m.dk j).2.2 (WB (Z8 m.sm i))) 900000000000<=_;omega
  refine ⟨?_,?_,?_,?_,?_,?_⟩
  · have:=h.head
    unfold YI at this ⊢;unfold ZL;rw [e1,e2,e3,e4,e5,e6];exact this
  · intro j hj
    have hj':j<m.dk.length:=by unfold ZL at hj;omega
    exact YJ (hmark j hj').1.1 (hmark j hj').1.2
  · intro j hj
    have hj':j<m.pc.length:=by unfold ZL at hj;rw [e3] at hj;exact hj
    have:=h.pace j hj';unfold Wr at this ⊢;unfold ZL;rw [e1,e3];exact this
  · intro i hi
    have hi':i<m.sm.length:=by unfold ZL at hi;omega
    rw [Xh (m:=m) (by unfold ZL;rw [e2]) (by unfold ZL;rw [e6])];unfold ZL;rw [Wk m hi']
    split
    · rename_i hp
      exact Ns (h.here i hi') hp.2 (by split<;>omega) (by split<;>omega)
    · exact h.here i hi'
  · intro i hi
    have hi':i<m.sm.length:=by unfold ZL at hi;omega
    have ha:=Xe m m.dk.length i hi';unfold Yb;show (!ZP (Z8 (Ym m m.dk.length).sm i) || _)=true;rw [ha.2.1];cases hp:ZP (Z8 m.sm i)
    · rfl
    · obtain ⟨b0,b1,ho,hm,hband⟩:=h.at hi' hp
      obtain ⟨a0,a1,a2,a3,a4,a5⟩:=SP hband;obtain ⟨⟨q0,q1⟩,q2,q3⟩:=hmark (Z8 m.sm i).2.1.toNat (by omega)
      have hmay:(Z8 (Ym m m.dk.length).sm i).2.2.2.1=(Z8 m.sm i).2.2.2.1:=by
        rw [Wk m hi'];split<;>rfl
      show (!true || ((Z8 (ZL m).dk (Z8 (Ym m m.dk.length).sm i).2.1.toNat).1 && (VI (Z8 (Ym m m.dk.length).sm i).2.2.2.1 (Z8 (Ym m m.dk.length).sm i).2.1 && Xo (WB (Z8 (Ym m m.dk.length).sm i)) (Z8 (ZL m).dk (Z8 (Ym m m.dk.length).sm i).2.1.toNat).2.2)))=true;rw [ha.1,ha.2.2,hmay,hopen,ho,hm];rw [OB a0 a1 (by omega) (by omega) ?_ (by omega)]
      · rfl
      · rcases q3 with q3 | q3
        · omega
        · have:=q3 i hi' (by omega) hp
          omega
  · obtain ⟨j,hj,ho⟩:=h.openD
    exact ⟨j,by unfold ZL;omega,by rw [hopen];exact ho⟩
theorem Lm {ss : List Z6} {b f : Int} : ∀ k : Nat, (∀ i, i < k → (Z8 ss i).2.1 = b → ZP (Z8 ss i) = true → ((Z8 ss i).1 = 2 ∧ (i : Int) ≠ f) ∨ ((Z8 ss i).1 = 3 ∧ (i : Int) = f)) →
    ∃ wk wt, Yk ss b k = some (wk, wt) ∧ ((wk = -1 ∧ ∀ i, i < k → (Z8 ss i).2.1 = b → ZP (Z8 ss i) = true → (i : Int) ≠ f) ∨ (wk = f ∧ ∃ i : Nat, i < k ∧ (Z8 ss i).2.1 = b ∧ ZP (Z8 ss i) = true ∧ (i : Int) = f)) ∧ (wt = true → ∃ i, i < k ∧ (Z8 ss i).2.1 = b ∧ ZP (Z8 ss i) = true)
  | 0, _ => ⟨-1, false, rfl, .inl ⟨rfl, fun i hi => by omega⟩, fun h => by cases h⟩
  | k + 1, h => by
    obtain ⟨wk, wt, hs, hw, ht⟩ := Lm k (fun i hi => h i (by omega))
    have hu : Yk ss b (k + 1) = if (Z8 ss k).2.1 = b ∧ ZP (Z8 ss k) = true then (if (Z8 ss k).1 = 2 then some (wk, true) else if 0 ≤ wk then none else some ((k : Int), wt)) else some (wk, wt) := by
      show (match Yk ss b k with
        | none => none
        | some (wk, wt) => _) = _
      rw [hs]
    rw [hu];by_cases hp : (Z8 ss k).2.1 = b ∧ ZP (Z8 ss k) = true
    · rw [if_pos hp]
      rcases h k (by omega) hp.1 hp.2 with ⟨h2, hne⟩ | ⟨h3, hkf⟩
      · rw [if_pos h2]
        refine ⟨wk, true, rfl, ?_, fun _ => ⟨k, by omega, hp.1, hp.2⟩⟩
        rcases hw with ⟨e, hn⟩ | ⟨e, i, hi, hb, hpi, hif⟩
        · refine .inl ⟨e, fun i hi hb hpi => ?_⟩
          by_cases hik : i = k
          · subst hik; exact hne
          · exact hn i (by omega) hb hpi
        · exact .inr ⟨e, i, by omega, hb, hpi, hif⟩
      · rw [if_neg (by omega)]
        have hw1 : wk = -1 := by
          rcases hw with ⟨e, _⟩ | ⟨e, i, hi, hb, hpi, hif⟩
          · exact e
          · omega
        rw [if_neg (by omega)];exact ⟨k, wt, rfl, .inr ⟨hkf, k, by omega, hp.1, hp.2, hkf⟩, fun e => by obtain ⟨i, hi, r⟩ := ht e; exact ⟨i, by omega, r⟩⟩
    · rw [if_neg hp]
      refine ⟨wk, wt, rfl, ?_, fun e => by obtain ⟨i, hi, r⟩ := ht e; exact ⟨i, by omega, r⟩⟩
      rcases hw with ⟨e, hn⟩ | ⟨e, i, hi, r⟩
      · refine .inl ⟨e, fun i hi hb hpi => ?_⟩
        by_cases hik : i = k
        · subst hik; exact absurd ⟨hb, hpi⟩ hp
        · exact hn i (by omega) hb hpi
      · exact .inr ⟨e, i, by omega, r⟩
theorem Y1 {m:Z7} (h:Loose m):ZJ (ZL m)=true:=by
  unfold ZJ;rw [ZR];refine ⟨(MD h).mk',?_⟩;obtain ⟨e1,e2,e3,e4,e5,e6⟩:=Zp m m.dk.length;refine List.all_eq_true.2 fun b hb=> ?_;have hb:=List.mem_range.1 hb;have hb':b<m.dk.length:=by unfold ZL at hb;omega
  have hn:(ZL m).sm.length=m.sm.length:=e5;have ha:=Xe m m.dk.length
  have hstate:∀ i,i<m.sm.length->(Z8 (ZL m).sm i).2.1=(b:Int)->ZP (Z8 (ZL m).sm i)=true->((Z8 (ZL m).sm i).1=2/\(i:Int) ≠ Xk m.sm b)\/((Z8 (ZL m).sm i).1=3/\(i:Int)=Xk m.sm b):=by
    intro i hi hib hip;have hib':(Z8 m.sm i).2.1=(b:Int):=(ha i hi).1.symm.trans hib;have hip':ZP (Z8 m.sm i)=true:=(ha i hi).2.1.symm.trans hip;unfold ZL;rw [Wk m hi,if_pos ⟨by omega,hip'⟩,hib'];by_cases hf:Xk m.sm (b:Int)=(i:Int)
    · right;rw [if_pos hf];exact ⟨rfl,hf.symm⟩
    · left;rw [if_neg hf];exact ⟨rfl,fun e=>hf e.symm⟩
  obtain ⟨wk,wt,hs,hw,ht⟩:=Lm (b:=(b:Int)) (f:=Xk m.sm b) (ss:=(ZL m).sm) m.sm.length hstate;unfold Yu;rw [hn,hs];simp only;have hdesk:=U0 m b m.dk.length (Z3 _);rw [if_pos hb'] at hdesk;cases hq:atV m.sm (b:Int) m.sm.length with
  | nil=>
    have hempty:∀ i,i<m.sm.length-> ¬ ((Z8 (ZL m).sm i).2.1=(b:Int)/\ZP (Z8 (ZL m).sm i)=true):=by
      rintro i hi ⟨hib,hip⟩;have:=(XH m.sm (b:Int) (WB (Z8 m.sm i),(i:Int)) m.sm.length).2 ⟨i,hi,(ha i hi).1.symm.trans hib,(ha i hi).2.1.symm.trans hip,rfl⟩;rw [hq] at this;exact List.not_mem_nil this
    have hwt:wt=false:=by
      cases wt
      · rfl
      · obtain ⟨i,hi,r⟩:=ht rfl
        exact absurd r (hempty i hi)
    have hwk:wk= -1:=by
      rcases hw with ⟨e,_⟩ | ⟨_,i,hi,hb,hp,_⟩
      · exact e
      · exact absurd ⟨hb,hp⟩ (hempty i hi)
    have hwho:(Z8 (ZL m).dk b).2.1= -1:=by
      unfold ZL;rw [hdesk];unfold WU;rw [hq]
    rw [hwho,hwk,hwt];rfl
  | cons e t=>
    obtain ⟨hfe,i,hi,hib,hip,rfl⟩:=S0 hq
    have hwho:(Z8 (ZL m).dk b).2.1=(i:Int):=by
      unfold ZL;rw [hdesk];unfold WU;rw [hq]
    have hwk:wk=(i:Int):=by
      rcases hw with ⟨_,hn⟩ | ⟨e,_⟩
      · exact absurd hfe.symm (hn i hi ((ha i hi).1.trans hib) ((ha i hi).2.1.trans hip))
      · exact e.trans hfe
    rw [hwho,hwk];have:decide ((i:Int)<0)=false:=Ya (by omega);rw [this];simp
def Zr {α:Type} [Inhabited α] (p:α->Bool) (xs:List α):Nat->List Int
 | 0=>[]
 | k+1=>if p (Z8 xs k) then Zr p xs k++[(k:Int)] else Zr p xs k
theorem VD {α:Type} [Inhabited α] {p:α->Bool} {xs:List α} {k:Nat} (h:p (Z8 xs k)=true):Zr p xs (k+1)=Zr p xs k++[(k:Int)]:=by rw [Zr,if_pos h]
theorem U3 {α:Type} [Inhabited α] {p:α->Bool} {xs:List α} {k:Nat} (h:p (Z8 xs k)=false):Zr p xs (k+1)=Zr p xs k:=by rw [Zr,if_neg (by simp [h])]
theorem Wn {α:Type} [Inhabited α] (p:α->Bool) (xs:List α) (x:Int):∀ k,x ∈ Zr p xs k ↔ ∃ i:Nat,i<k/\x=(i:Int)/\p (Z8 xs i)=true
 | 0=>by simp [Zr]
 | k+1=>by
  have ih:=Wn p xs x k;cases h:p (Z8 xs k)
  ·rw [U3 h,ih]
   constructor
   ·rintro ⟨i,hi,h1,h2⟩
    exact ⟨i,by omega,h1,h2⟩
   ·rintro ⟨i,hi,h1,h2⟩
    by_cases hik:i=k
    ·subst hik;rw [h] at h2;cases h2
    ·exact ⟨i,by omega,h1,h2⟩
  ·rw [VD h,List.mem_append,ih]
   constructor
   ·rintro (⟨i,hi,h1,h2⟩ | h1)
    ·exact ⟨i,by omega,h1,h2⟩
    ·exact ⟨k,by omega,by simpa using h1,h⟩
   ·rintro ⟨i,hi,h1,h2⟩
    by_cases hik:i=k
    ·subst hik;right;simp [h1]
    ·exact .inl ⟨i,by omega,h1,h2⟩
def atB (b:Int) (s:Z6):Bool:=(s.1 ==2 || s.1 ==3) && s.2.1 ==b
def Yd (b:Int) (s:Z6):Bool:=s.1 ==3 && s.2.1 ==b
def MB (m:Z7) (b:Nat):Bool:=if (Z8 m.dk b).2.1= -1 then decide ((Zr (atB b) m.sm m.sm.length).length=0) else decide ((Zr (Yd b) m.sm m.sm.length).length=1) && decide (Z8 (Zr (Yd b) m.sm m.sm.length) 0=(Z8 m.dk b).2.1)
theorem PC (ss:List Z6) (b:Int):∀ k:Nat,
  (match Yk ss b k with
   | none=>2<=(Zr (Yd b) ss k).length
   | some (wk,wt)=>((wk= -1/\Zr (Yd b) ss k=[])\/(0<=wk/\Zr (Yd b) ss k=[wk]))/\((Zr (atB b) ss k=[]) ↔ (Zr (Yd b) ss k=[]/\wt=false)))
 | 0=>by simp [Yk,Zr]
 | k+1=>by
  have ih:=PC ss b k;unfold Yk;cases hsc:Yk ss b k with
  | none=>
   rw [hsc] at ih;simp only at ih ⊢;unfold Zr
   split
   ·simp;omega
   ·exact ih
  | some r=>
   obtain ⟨wk,wt⟩:=r;rw [hsc] at ih;simp only at ih ⊢;by_cases hat:(Z8 ss k).2.1=b/\ZP (Z8 ss k)=true
   ·rw [if_pos hat]
    have hA:atB b (Z8 ss k)=true:=by
     have h2:=hat.2;unfold ZP at h2;unfold atB;rw [h2,hat.1];simp
    by_cases h2:(Z8 ss k).1=2
    ·rw [if_pos h2]
     have hW:Yd b (Z8 ss k)=false:=by unfold Yd;rw [h2];rfl
     rw [U3 hW,VD hA];exact ⟨ih.1,by simp⟩
    ·rw [if_neg h2]
     have h3:(Z8 ss k).1=3:=by
      have:=hat.2;unfold ZP at this;simp only [Bool.or_eq_true,beq_iff_eq] at this;omega
     have hW:Yd b (Z8 ss k)=true:=by unfold Yd;rw [h3,hat.1];simp
     rw [VD hW,VD hA];by_cases hwk:0<=wk
     ·rw [if_pos hwk]
      rcases ih.1 with ⟨e,_⟩ | ⟨_,e⟩
      ·omega
      ·simp only
       rw [e];simp
     ·rw [if_neg hwk]
      rcases ih.1 with ⟨_,e⟩ | ⟨e,_⟩
      ·simp only
       rw [e];simp
      ·omega
   ·rw [if_neg hat]
    have hA:atB b (Z8 ss k)=false:=by
     cases hc:atB b (Z8 ss k)
     ·rfl
     ·exfalso
      apply hat;unfold atB at hc;simp only [ZR,beq_iff_eq] at hc;exact ⟨hc.2,by unfold ZP;exact hc.1⟩
    have hW:Yd b (Z8 ss k)=false:=by
     cases hc:Yd b (Z8 ss k)
     ·rfl
     ·exfalso
      apply hat;unfold Yd at hc;simp only [ZR,beq_iff_eq] at hc;exact ⟨hc.2,by unfold ZP;rw [hc.1];rfl⟩
    rw [U3 hW,U3 hA];exact ih
theorem KH (m:Z7) (b:Nat):MB m b=Yu m b:=by
 have h:=PC m.sm b m.sm.length;unfold MB Yu;cases hsc:Yk m.sm b m.sm.length with
 | none=>
  rw [hsc] at h;simp only at h ⊢
  split
  ·have:Zr (atB b) m.sm m.sm.length ≠ []:=by
    intro e;have hx:Z8 (Zr (Yd b) m.sm m.sm.length) 0 ∈ Zr (Yd b) m.sm m.sm.length:=Sv (by omega);obtain ⟨i,hi,_,hw⟩:=(Wn _ _ _ _).1 hx
    have:(i:Int) ∈ Zr (atB b) m.sm m.sm.length:=(Wn _ _ _ _).2 ⟨i,hi,rfl,by
     unfold Yd at hw;simp only [ZR,beq_iff_eq] at hw;unfold atB
     rw [hw.1,hw.2];simp⟩
    rw [e] at this;cases this
   simp only [List.length_eq_zero_iff,this,decide_false]
  ·rw [show decide ((Zr (Yd b) m.sm m.sm.length).length=1)=false from decide_eq_false (by omega),Bool.false_and]
 | some r=>
  obtain ⟨wk,wt⟩:=r;rw [hsc] at h;simp only at h ⊢;obtain ⟨h1,h2⟩:=h;generalize Zr (Yd b) m.sm m.sm.length=ws at *;generalize Zr (atB b) m.sm m.sm.length=az at *;generalize (Z8 m.dk b).2.1=who at *;by_cases hw:who= -1
  ·subst hw
   simp only [if_true,List.length_eq_zero_iff]
   rcases h1 with ⟨rfl,rfl⟩ | ⟨hk,rfl⟩
   ·cases wt
    ·simp at h2;simp [h2]
    ·simp at h2;simp [h2]
   ·have hne:az ≠ []:=by
     intro e;have:=(h2.1 e).1;cases this
    have:((-1:Int) ==wk)=false:=by simp;omega
    rw [this];simp [hne]
  ·rw [if_neg hw]
   rcases h1 with ⟨rfl,rfl⟩ | ⟨hk,rfl⟩
   ·have:(who == -1)=false:=by simpa using hw
    rw [this];simp
   ·have h0:decide (wk<0)=false:=Ya (by omega)
    rw [h0,Bool.and_false,Bool.not_false,Bool.and_true];simp only [Zn,Y2,decide_true,Bool.true_and];show decide (wk=who)=(who ==wk)
    by_cases e:wk=who
    ·subst e;simp
    ·rw [decide_eq_false e];symm;simp;omega
open Go.ChangeShapes Go.WideShapes Go.ChangeAt Go.RowKit Go.Sort Go.Deep Go.Proofs.Tryz
set_option linter.unusedSimpArgs false
theorem Tl {a b c n l:Int} (h:Xx a b c=true) (hn:UU a b c=n) (hl:UT a b c=l) (w:World):Calls prog 161 #[.int .i64 a,.int .i64 b,.int .i64 c] w fun e w'=>e= .returned (.tuple #[.int .i64 n,.int .i64 l])/\ ∃ m,w'=w.drewN m:=by
 obtain ⟨h1,h2⟩:=PE h;rw [<-hn,<-hl,h1,h2];clear h1 h2 hn hl;obtain ⟨a0,a1,b0,b1,c0,c1⟩:=L6 h;have ha:inB a 0 1000000000=true:=YJ a0 a1;have hb:inB b 1 100000=true:=YJ b0 b1;have hc:inB c 0 (b-1)=true:=YJ c0 (by omega);go_enter func161,ntmps161;go_wp2_with (first | (go_at_call 173;refine (U7 _ _).mono ?_;rintro e w' ⟨rfl,rfl⟩) | (go_at_call 27;refine (Z4 _ _ _ _).mono ?_;rintro e w' ⟨rfl,rfl⟩))
 go_quiet (fail);go_wp2_with fail
 go_ret2
 exact ⟨rfl,_,rfl⟩
theorem Mq (work:Int) (w:World):cB 141 #[.agg E11,.int .i64 work] w (.tuple #[.agg E11,.bool false]):=by
 have Hs:Hid (Zs (0,0,0,0,0,0,0,0,0,0,0)=true):=Z9 rfl;go_enter func141,ntmps141;go_wp2_with fail;refine (ZA 0 0 0 0 0 0 0 0 0 0 0 _).mono ?_;rw [uh Hs];rintro e w1 ⟨rfl,hb⟩;have kb:Blk w1 w.heap.size 79 E11:=((Blk.new w 79 E11).alloc _).below hb (by simp;omega)
 have ko:Blk w1 (w.heap.size+1) 79 E11:=by
  have k:=Blk.new (w.alloc (.cells E11 79)) 79 E11;rw [XX] at k;exact k.below hb (by simp)
 have hsz:w.heap.size+2<=w1.heap.size:=by have:=hb.size;simp at this;omega
 have hl0:w.heap.size<w1.heap.size:=by omega
 have hl1:w.heap.size+1<w1.heap.size:=by omega
 have B1:=Z9 ((((Z2 w.heap.size w).alloc (Z3 _) _).alloc (by simp) _).trans (hb.mono (by simp;omega)));have Kb:=Z9 kb;have Ko:=Z9 ko;obtain ⟨c0,c1,c2,c3,c4,c5,c6,c7,c8,c9,c10⟩:=kb.c11;obtain ⟨o0,o1,o2,o3,o4,o5,o6,o7,o8,o9,o10⟩:=ko.c11;obtain ⟨of0,of1,of2,of3,of4,of5,of6,of7,of8,of9,of10⟩:=ko.f11;clear hb kb ko;go_wp2_with fail;refine Zz (v:= .tuple #[.agg E11,.bool false]) (by simp [results,results141,go_sem,o0,o1,o2,o3,o4,o5,o6,o7,o8,o9,o10]) rfl ⟨rfl,?_⟩
 iterate 11 (refine YU ?_ (by simp) _)
 exact uh B1
theorem Oa {st be rk my gu lo hi hd ca ut wk:Int} (work:Int) (w:World) (hs:Zs (st,be,rk,my,gu,lo,hi,hd,ca,ut,wk)=false):cB 141 #[.agg (I11 st be rk my gu lo hi hd ca ut wk),.int .i64 work] w (.tuple #[.agg E11,.bool false]):=by
 have Hs:=Z9 hs;clear hs;go_enter func141,ntmps141;go_wp2_with fail;refine (ZA st be rk my gu lo hi hd ca ut wk _).mono ?_;rw [uh Hs];rintro e w1 ⟨rfl,hb⟩;have kb:Blk w1 w.heap.size 79 (I11 st be rk my gu lo hi hd ca ut wk):=((Blk.new w 79 (I11 st be rk my gu lo hi hd ca ut wk)).alloc _).below hb (by simp;omega)
 have ko:Blk w1 (w.heap.size+1) 79 E11:=by
  have k:=Blk.new (w.alloc (.cells (I11 st be rk my gu lo hi hd ca ut wk) 79)) 79 E11;rw [XX] at k;exact k.below hb (by simp)
 have hsz:w.heap.size+2<=w1.heap.size:=by have:=hb.size;simp at this;omega
 have hl0:w.heap.size<w1.heap.size:=by omega
 have hl1:w.heap.size+1<w1.heap.size:=by omega
 have B1:=Z9 ((((Z2 w.heap.size w).alloc (Z3 _) _).alloc (by simp) _).trans (hb.mono (by simp;omega)));have Kb:=Z9 kb;have Ko:=Z9 ko;obtain ⟨c0,c1,c2,c3,c4,c5,c6,c7,c8,c9,c10⟩:=kb.c11;obtain ⟨o0,o1,o2,o3,o4,o5,o6,o7,o8,o9,o10⟩:=ko.c11;obtain ⟨of0,of1,of2,of3,of4,of5,of6,of7,of8,of9,of10⟩:=ko.f11;clear hb kb ko;go_wp2_with fail;refine Zz (v:= .tuple #[.agg E11,.bool false]) (by simp [results,results141,go_sem,o0,o1,o2,o3,o4,o5,o6,o7,o8,o9,o10]) rfl ⟨rfl,?_⟩
 iterate 11 (refine YU ?_ (by simp) _)
 exact uh B1
theorem Jj {st be rk my gu lo hi hd ca ut wk:Int} (work:Int) (w:World) (hs:Zs (st,be,rk,my,gu,lo,hi,hd,ca,ut,wk)=true) (hst:(st ==0)=false) (hw:inB work 0 100000=false):cB 141 #[.agg (I11 st be rk my gu lo hi hd ca ut wk),.int .i64 work] w (.tuple #[.agg (I11 st be rk my gu lo hi hd ca ut wk),.bool false]):=by
 have Hs:=Z9 hs;clear hs;go_enter func141,ntmps141;go_wp2_with fail;refine (ZA st be rk my gu lo hi hd ca ut wk _).mono ?_;rw [uh Hs];rintro e w1 ⟨rfl,hb⟩;have kb:Blk w1 w.heap.size 79 (I11 st be rk my gu lo hi hd ca ut wk):=((Blk.new w 79 (I11 st be rk my gu lo hi hd ca ut wk)).alloc _).below hb (by simp;omega)
 have ko:Blk w1 (w.heap.size+1) 79 E11:=by
  have k:=Blk.new (w.alloc (.cells (I11 st be rk my gu lo hi hd ca ut wk) 79)) 79 E11;rw [XX] at k;exact k.below hb (by simp)
 have hsz:w.heap.size+2<=w1.heap.size:=by have:=hb.size;simp at this;omega
 have hl0:w.heap.size<w1.heap.size:=by omega
 have hl1:w.heap.size+1<w1.heap.size:=by omega
 have B1:=Z9 ((((Z2 w.heap.size w).alloc (Z3 _) _).alloc (by simp) _).trans (hb.mono (by simp;omega)));have Kb:=Z9 kb;have Ko:=Z9 ko;obtain ⟨c0,c1,c2,c3,c4,c5,c6,c7,c8,c9,c10⟩:=kb.c11;obtain ⟨o0,o1,o2,o3,o4,o5,o6,o7,o8,o9,o10⟩:=ko.c11;obtain ⟨of0,of1,of2,of3,of4,of5,of6,of7,of8,of9,of10⟩:=ko.f11;clear hb kb ko;go_wp2_with (go_at_call 27;refine (Z4 _ _ _ _).mono ?_;rintro e w' ⟨rfl,h9⟩;subst w')
 refine Zz (v:= .tuple #[.agg (I11 st be rk my gu lo hi hd ca ut wk),.bool false]) (by simp [results,results141,go_sem,o0,o1,o2,o3,o4,o5,o6,o7,o8,o9,o10]) rfl ⟨rfl,?_⟩
 iterate 11 (refine YU ?_ (by simp) _)
 exact uh B1
theorem Ky {st be rk my gu lo hi hd ca ut wk:Int} {work x n l:Int} {w:World} (hx:Zf rk=x) (hok:Xx work x ca=true) (hn:UU work x ca=n) (hl:UT work x ca=l) (n0:0<=n) (n1:n<=400000)
  (d0 : -1000000000000<=hd) (d1:hd<=1000000000000) (k0:0<=wk) (k1:wk<=100000000000) (v0:0<=work) (v1:work<=100000) (hs:Zs (st,be,rk,my,gu,lo,hi,hd,ca,ut,wk)=true) (hst:(st ==0)=false) (h2:Zs (st,be,rk,my,gu,lo,hi,(hd+n),l,ut,(wk+work))=true):cB 141 #[.agg (I11 st be rk my gu lo hi hd ca ut wk),.int .i64 work] w (.tuple #[.agg (I11 st be rk my gu lo hi (hd+n) l ut (wk+work)),.bool true]):=by
 have Hs:=Z9 hs;have H2:=Z9 h2;have Hx:=Z9 hx;have Hok:=Z9 hok;have Hn:=Z9 hn;have Hl:=Z9 hl;have hw:inB work 0 100000=true:=YJ v0 v1;clear hx hok hn hl hs h2;go_enter func141,ntmps141;go_wp2_with fail;refine (ZA st be rk my gu lo hi hd ca ut wk _).mono ?_;rw [uh Hs];rintro e w1 ⟨rfl,hb⟩;have kb:Blk w1 w.heap.size 79 (I11 st be rk my gu lo hi hd ca ut wk):=((Blk.new w 79 (I11 st be rk my gu lo hi hd ca ut wk)).alloc _).below hb (by simp;omega)
 have ko:Blk w1 (w.heap.size+1) 79 E11:=by
  have k:=Blk.new (w.alloc (.cells (I11 st be rk my gu lo hi hd ca ut wk) 79)) 79 E11;rw [XX] at k;exact k.below hb (by simp)
 have hsz:w.heap.size+2<=w1.heap.size:=by have:=hb.size;simp at this;omega
 have hl0:w.heap.size<w1.heap.size:=by omega
 have hl1:w.heap.size+1<w1.heap.size:=by omega
 have B1:=Z9 ((((Z2 w.heap.size w).alloc (Z3 _) _).alloc (by simp) _).trans (hb.mono (by simp;omega)));have Kb:=Z9 kb;have Ko:=Z9 ko;obtain ⟨c0,c1,c2,c3,c4,c5,c6,c7,c8,c9,c10⟩:=kb.c11;obtain ⟨o0,o1,o2,o3,o4,o5,o6,o7,o8,o9,o10⟩:=ko.c11;obtain ⟨of0,of1,of2,of3,of4,of5,of6,of7,of8,of9,of10⟩:=ko.f11;clear hb kb ko;go_wp2_with (go_at_call 27;refine (Z4 _ _ _ _).mono ?_;rintro e w' ⟨rfl,h9⟩;subst w')
 go_quiet (first | exact YG (YT (uh Hx) _) | exact Calls.quiet_of (Tl (uh Hok) (uh Hn) (uh Hl) _));have kb:Blk (w1.drewN nq) w.heap.size 79 (I11 st be rk my gu lo hi hd ca ut wk):=uh Kb;have ko:Blk (w1.drewN nq) (w.heap.size+1) 79 E11:=uh Ko;have b1:=YL (uh B1) nq;clear c0 o0 of0 c1 o1 of1 c2 o2 of2 c3 o3 of3 c4 o4 of4 c5 o5 of5 c6 o6 of6 c7 o7 of7 c8 o8 of8 c9 o9 of9 c10 o10 of10 Kb Ko B1 hl0 hl1;rw [show w1.heap.size=(w1.drewN nq).heap.size from rfl] at hsz;generalize w1.drewN nq=W1 at *;have hl0:w.heap.size<W1.heap.size:=by omega
 have hl1:w.heap.size+1<W1.heap.size:=by omega
 have Kb:=Z9 kb;have Ko:=Z9 ko;have B1:=Z9 b1;obtain ⟨c0,c1,c2,c3,c4,c5,c6,c7,c8,c9,c10⟩:=kb.c11;obtain ⟨o0,o1,o2,o3,o4,o5,o6,o7,o8,o9,o10⟩:=ko.c11;obtain ⟨of0,of1,of2,of3,of4,of5,of6,of7,of8,of9,of10⟩:=ko.f11;clear kb ko b1;go_wp2_with fail;refine (ZA st be rk my gu lo hi (hd+n) l ut (wk+work) _).mono ?_;rw [uh H2];rintro e w2 ⟨rfl,hb⟩;have kb:Blk w2 w.heap.size 79 (I11 st be rk my gu lo hi hd ca ut wk):=(hb.block w.heap.size (by simp;omega)).trans ((uh Kb).alloc (.cells (I11 st be rk my gu lo hi (hd+n) l ut (wk+work)) 79));have ko:Blk w2 (w.heap.size+1) 79 E11:=(hb.block (w.heap.size+1) (by simp;omega)).trans ((uh Ko).alloc (.cells (I11 st be rk my gu lo hi (hd+n) l ut (wk+work)) 79));have kn:Blk w2 W1.heap.size 79 (I11 st be rk my gu lo hi (hd+n) l ut (wk+work)):=(hb.block W1.heap.size (by simp)).trans (Blk.new W1 79 (I11 st be rk my gu lo hi (hd+n) l ut (wk+work)));have B2:Hid (Below w.heap.size w w2):=Z9 (((uh B1).alloc (by omega) (.cells (I11 st be rk my gu lo hi (hd+n) l ut (wk+work)) 79)).trans (hb.mono (by simp;omega)));clear c0 o0 of0 c1 o1 of1 c2 o2 of2 c3 o3 of3 c4 o4 of4 c5 o5 of5 c6 o6 of6 c7 o7 of7 c8 o8 of8 c9 o9 of9 c10 o10 of10 Kb Ko;obtain ⟨p0,p1,p2,p3,p4,p5,p6,p7,p8,p9,p10⟩:=kn.c11;obtain ⟨o0,o1,o2,o3,o4,o5,o6,o7,o8,o9,o10⟩:=ko.c11;obtain ⟨of0,of1,of2,of3,of4,of5,of6,of7,of8,of9,of10⟩:=ko.f11;clear hb kb ko kn;go_wp2_with fail;refine Zz (v:= .tuple #[.agg (I11 st be rk my gu lo hi (hd+n) l ut (wk+work)),.bool true]) (by simp [results,results141,go_sem,o0,o1,o2,o3,o4,o5,o6,o7,o8,o9,o10]) rfl ⟨rfl,?_⟩
 iterate 11 (refine YU ?_ (by simp) _)
 exact uh B2
theorem Mr {st be rk my gu lo hi hd ca ut wk:Int} {work x n l:Int} {w:World} (hx:Zf rk=x) (hok:Xx work x ca=true) (hn:UU work x ca=n) (hl:UT work x ca=l) (n0:0<=n) (n1:n<=400000)
  (d0 : -1000000000000<=hd) (d1:hd<=1000000000000) (k0:0<=wk) (k1:wk<=100000000000) (v0:0<=work) (v1:work<=100000) (hs:Zs (st,be,rk,my,gu,lo,hi,hd,ca,ut,wk)=true) (hst:(st ==0)=false) (h2:Zs (st,be,rk,my,gu,lo,hi,(hd+n),l,ut,(wk+work))=false):cB 141 #[.agg (I11 st be rk my gu lo hi hd ca ut wk),.int .i64 work] w (.tuple #[.agg (I11 st be rk my gu lo hi hd ca ut wk),.bool false]):=by
 have Hs:=Z9 hs;have H2:=Z9 h2;have Hx:=Z9 hx;have Hok:=Z9 hok;have Hn:=Z9 hn;have Hl:=Z9 hl;have hw:inB work 0 100000=true:=YJ v0 v1;clear hx hok hn hl hs h2;go_enter func141,ntmps141;go_wp2_with fail;refine (ZA st be rk my gu lo hi hd ca ut wk _).mono ?_;rw [uh Hs];rintro e w1 ⟨rfl,hb⟩;have kb:Blk w1 w.heap.size 79 (I11 st be rk my gu lo hi hd ca ut wk):=((Blk.new w 79 (I11 st be rk my gu lo hi hd ca ut wk)).alloc _).below hb (by simp;omega)
 have ko:Blk w1 (w.heap.size+1) 79 E11:=by
  have k:=Blk.new (w.alloc (.cells (I11 st be rk my gu lo hi hd ca ut wk) 79)) 79 E11;rw [XX] at k;exact k.below hb (by simp)
 have hsz:w.heap.size+2<=w1.heap.size:=by have:=hb.size;simp at this;omega
 have hl0:w.heap.size<w1.heap.size:=by omega
 have hl1:w.heap.size+1<w1.heap.size:=by omega
 have B1:=Z9 ((((Z2 w.heap.size w).alloc (Z3 _) _).alloc (by simp) _).trans (hb.mono (by simp;omega)));have Kb:=Z9 kb;have Ko:=Z9 ko;obtain ⟨c0,c1,c2,c3,c4,c5,c6,c7,c8,c9,c10⟩:=kb.c11;obtain ⟨o0,o1,o2,o3,o4,o5,o6,o7,o8,o9,o10⟩:=ko.c11;obtain ⟨of0,of1,of2,of3,of4,of5,of6,of7,of8,of9,of10⟩:=ko.f11;clear hb kb ko;go_wp2_with (go_at_call 27;refine (Z4 _ _ _ _).mono ?_;rintro e w' ⟨rfl,h9⟩;subst w')
 go_quiet (first | exact YG (YT (uh Hx) _) | exact Calls.quiet_of (Tl (uh Hok) (uh Hn) (uh Hl) _));have kb:Blk (w1.drewN nq) w.heap.size 79 (I11 st be rk my gu lo hi hd ca ut wk):=uh Kb;have ko:Blk (w1.drewN nq) (w.heap.size+1) 79 E11:=uh Ko;have b1:=YL (uh B1) nq;clear c0 o0 of0 c1 o1 of1 c2 o2 of2 c3 o3 of3 c4 o4 of4 c5 o5 of5 c6 o6 of6 c7 o7 of7 c8 o8 of8 c9 o9 of9 c10 o10 of10 Kb Ko B1 hl0 hl1;rw [show w1.heap.size=(w1.drewN nq).heap.size from rfl] at hsz;generalize w1.drewN nq=W1 at *;have hl0:w.heap.size<W1.heap.size:=by omega
 have hl1:w.heap.size+1<W1.heap.size:=by omega
 have Kb:=Z9 kb;have Ko:=Z9 ko;have B1:=Z9 b1;obtain ⟨c0,c1,c2,c3,c4,c5,c6,c7,c8,c9,c10⟩:=kb.c11;obtain ⟨o0,o1,o2,o3,o4,o5,o6,o7,o8,o9,o10⟩:=ko.c11;obtain ⟨of0,of1,of2,of3,of4,of5,of6,of7,of8,of9,of10⟩:=ko.f11;clear kb ko b1;go_wp2_with fail;refine (ZA st be rk my gu lo hi (hd+n) l ut (wk+work) _).mono ?_;rw [uh H2];rintro e w2 ⟨rfl,hb⟩;have kb:Blk w2 w.heap.size 79 (I11 st be rk my gu lo hi hd ca ut wk):=(hb.block w.heap.size (by simp;omega)).trans ((uh Kb).alloc (.cells (I11 st be rk my gu lo hi (hd+n) l ut (wk+work)) 79));have ko:Blk w2 (w.heap.size+1) 79 E11:=(hb.block (w.heap.size+1) (by simp;omega)).trans ((uh Ko).alloc (.cells (I11 st be rk my gu lo hi (hd+n) l ut (wk+work)) 79));have kn:Blk w2 W1.heap.size 79 (I11 st be rk my gu lo hi (hd+n) l ut (wk+work)):=(hb.block W1.heap.size (by simp)).trans (Blk.new W1 79 (I11 st be rk my gu lo hi (hd+n) l ut (wk+work)));have B2:Hid (Below w.heap.size w w2):=Z9 (((uh B1).alloc (by omega) (.cells (I11 st be rk my gu lo hi (hd+n) l ut (wk+work)) 79)).trans (hb.mono (by simp;omega)));clear c0 o0 of0 c1 o1 of1 c2 o2 of2 c3 o3 of3 c4 o4 of4 c5 o5 of5 c6 o6 of6 c7 o7 of7 c8 o8 of8 c9 o9 of9 c10 o10 of10 Kb Ko;obtain ⟨p0,p1,p2,p3,p4,p5,p6,p7,p8,p9,p10⟩:=kb.c11;obtain ⟨o0,o1,o2,o3,o4,o5,o6,o7,o8,o9,o10⟩:=ko.c11;obtain ⟨of0,of1,of2,of3,of4,of5,of6,of7,of8,of9,of10⟩:=ko.f11;clear hb kb ko kn;go_wp2_with fail;refine Zz (v:= .tuple #[.agg (I11 st be rk my gu lo hi hd ca ut wk),.bool false]) (by simp [results,results141,go_sem,o0,o1,o2,o3,o4,o5,o6,o7,o8,o9,o10]) rfl ⟨rfl,?_⟩
 iterate 11 (refine YU ?_ (by simp) _)
 exact uh B2
theorem UX {x:Z6} (h:YX x=true):Zs x=true:=by unfold Zs;rw [h,Bool.or_true]
theorem QV {x:Z6} (h:x.1 ≠ 0):Zs x=YX x:=by unfold Zs;rw [T6 h,Bool.false_or]
theorem P9 {x:Z6} (work:Int) (hg:Vr x=true):XL x work=(Vk,false):=by
 have e:=U6 hg;subst e;rfl
theorem Rs {x:Z6} (work:Int) (hg:Vr x=false) (hp:YX x=false):XL x work=(Vk,false):=by unfold XL;rw [hp,hg];rfl
theorem OG {x:Z6} {work:Int} (hp:YX x=true) (hw:inB work 0 100000=false):XL x work=(x,false):=by unfold XL;rw [hp,hw];rfl
theorem SS {x:Z6} {work:Int} {q:Bool} (hp:YX x=true) (hw:inB work 0 100000=true) (hq:YX (QK x work)=q):XL x work=(if q then QK x work else x,q):=by unfold XL;rw [hp,hw,hq];cases q<;>rfl
theorem Mw {st:Int} (h:1<=st):(st ==0)=false:=by simp;omega
theorem PY {x y:Z6} {work:Int} {q:Bool} (h:XL x work=(y,q)) (w:World):cB 141 #[.agg (ZZ x).toArray,.int .i64 work] w (.tuple #[.agg (ZZ y).toArray,.bool q]):=by
 obtain ⟨st,be,rk,my,gu,lo,hi,hd,ca,ut,wk⟩:=x;cases hg:Vr (st,be,rk,my,gu,lo,hi,hd,ca,ut,wk)
 ·cases hp:YX (st,be,rk,my,gu,lo,hi,hd,ca,ut,wk)
  ·rw [Rs work hg hp] at h
   obtain ⟨rfl,rfl⟩:=Prod.mk.inj h;exact Oa work w (by unfold Zs;rw [hg,hp];rfl)
  ·cases hw:inB work 0 100000
   ·rw [OG hp hw] at h
    obtain ⟨rfl,rfl⟩:=Prod.mk.inj h;exact Jj work w (UX hp) (Mw (Zj hp).1.1) hw
   ·obtain ⟨v0,v1⟩:=ZS hw
    obtain ⟨⟨s0,s1⟩,_,hr,_,_,_,⟨d0,d1⟩,⟨a0,a1⟩,_,⟨k0,k1⟩⟩:=Zj hp;have hr0:=WA hr;have hr1:=(Vj rk).2;have a2:ca<=3125:=by omega
    obtain ⟨hok,n0,n1,_,_,_⟩:=Jd v0 v1 hr0 hr1 a0 a1;cases hq:YX (QK (st,be,rk,my,gu,lo,hi,hd,ca,ut,wk) work)
    ·rw [SS hp hw hq] at h
     obtain ⟨rfl,rfl⟩:=Prod.mk.inj h;exact Mr rfl hok rfl rfl n0 n1 d0 d1 k0 k1 v0 v1 (UX hp) (Mw s0) ((QV (x:=QK (st,be,rk,my,gu,lo,hi,hd,ca,ut,wk) work) (show st ≠ 0 by omega)).trans hq)
    ·rw [SS hp hw hq] at h
     obtain ⟨rfl,rfl⟩:=Prod.mk.inj h;exact Ky rfl hok rfl rfl n0 n1 d0 d1 k0 k1 v0 v1 (UX hp) (Mw s0) ((QV (x:=QK (st,be,rk,my,gu,lo,hi,hd,ca,ut,wk) work) (show st ≠ 0 by omega)).trans hq)
 ·rw [P9 work hg] at h
  obtain ⟨rfl,rfl⟩:=Prod.mk.inj h;cases U6 hg;exact Mq work w
theorem Ms (rank:Int) (w:World):cB 136 #[.agg E11,.int .i64 rank] w (.tuple #[.agg E11,.bool false]):=by
 have Hs:Hid (Zs (0,0,0,0,0,0,0,0,0,0,0)=true):=Z9 rfl;go_enter func136,ntmps136;go_wp2_with fail;refine (ZA 0 0 0 0 0 0 0 0 0 0 0 _).mono ?_;rw [uh Hs];rintro e w1 ⟨rfl,hb⟩;have kb:Blk w1 w.heap.size 79 E11:=((Blk.new w 79 E11).alloc _).below hb (by simp;omega)
 have ko:Blk w1 (w.heap.size+1) 79 E11:=by
  have k:=Blk.new (w.alloc (.cells E11 79)) 79 E11;rw [XX] at k;exact k.below hb (by simp)
 have hsz:w.heap.size+2<=w1.heap.size:=by have:=hb.size;simp at this;omega
 have hl0:w.heap.size<w1.heap.size:=by omega
 have hl1:w.heap.size+1<w1.heap.size:=by omega
 have B1:=Z9 ((((Z2 w.heap.size w).alloc (Z3 _) _).alloc (by simp) _).trans (hb.mono (by simp;omega)));have Kb:=Z9 kb;have Ko:=Z9 ko;obtain ⟨c0,c1,c2,c3,c4,c5,c6,c7,c8,c9,c10⟩:=kb.c11;obtain ⟨o0,o1,o2,o3,o4,o5,o6,o7,o8,o9,o10⟩:=ko.c11;obtain ⟨of0,of1,of2,of3,of4,of5,of6,of7,of8,of9,of10⟩:=ko.f11;clear hb kb ko;go_wp2_with fail;refine Zz (v:= .tuple #[.agg E11,.bool false]) (by simp [results,results136,go_sem,o0,o1,o2,o3,o4,o5,o6,o7,o8,o9,o10]) rfl ⟨rfl,?_⟩
 iterate 11 (refine YU ?_ (by simp) _)
 exact uh B1
theorem Ob {st be rk my gu lo hi hd ca ut wk:Int} (rank:Int) (w:World) (hs:Zs (st,be,rk,my,gu,lo,hi,hd,ca,ut,wk)=false):cB 136 #[.agg (I11 st be rk my gu lo hi hd ca ut wk),.int .i64 rank] w (.tuple #[.agg E11,.bool false]):=by
 have Hs:=Z9 hs;clear hs;go_enter func136,ntmps136;go_wp2_with fail;refine (ZA st be rk my gu lo hi hd ca ut wk _).mono ?_;rw [uh Hs];rintro e w1 ⟨rfl,hb⟩;have kb:Blk w1 w.heap.size 79 (I11 st be rk my gu lo hi hd ca ut wk):=((Blk.new w 79 (I11 st be rk my gu lo hi hd ca ut wk)).alloc _).below hb (by simp;omega)
 have ko:Blk w1 (w.heap.size+1) 79 E11:=by
  have k:=Blk.new (w.alloc (.cells (I11 st be rk my gu lo hi hd ca ut wk) 79)) 79 E11;rw [XX] at k;exact k.below hb (by simp)
 have hsz:w.heap.size+2<=w1.heap.size:=by have:=hb.size;simp at this;omega
 have hl0:w.heap.size<w1.heap.size:=by omega
 have hl1:w.heap.size+1<w1.heap.size:=by omega
 have B1:=Z9 ((((Z2 w.heap.size w).alloc (Z3 _) _).alloc (by simp) _).trans (hb.mono (by simp;omega)));have Kb:=Z9 kb;have Ko:=Z9 ko;obtain ⟨c0,c1,c2,c3,c4,c5,c6,c7,c8,c9,c10⟩:=kb.c11;obtain ⟨o0,o1,o2,o3,o4,o5,o6,o7,o8,o9,o10⟩:=ko.c11;obtain ⟨of0,of1,of2,of3,of4,of5,of6,of7,of8,of9,of10⟩:=ko.f11;clear hb kb ko;go_wp2_with fail;refine Zz (v:= .tuple #[.agg E11,.bool false]) (by simp [results,results136,go_sem,o0,o1,o2,o3,o4,o5,o6,o7,o8,o9,o10]) rfl ⟨rfl,?_⟩
 iterate 11 (refine YU ?_ (by simp) _)
 exact uh B1
theorem Jk {st be rk my gu lo hi hd ca ut wk:Int} (rank:Int) (w:World) (hs:Zs (st,be,rk,my,gu,lo,hi,hd,ca,ut,wk)=true) (hst:(st ==0)=false) (hw:inB rank (-5) 5=false):cB 136 #[.agg (I11 st be rk my gu lo hi hd ca ut wk),.int .i64 rank] w (.tuple #[.agg (I11 st be rk my gu lo hi hd ca ut wk),.bool false]):=by
 have Hs:=Z9 hs;clear hs;go_enter func136,ntmps136;go_wp2_with fail;refine (ZA st be rk my gu lo hi hd ca ut wk _).mono ?_;rw [uh Hs];rintro e w1 ⟨rfl,hb⟩;have kb:Blk w1 w.heap.size 79 (I11 st be rk my gu lo hi hd ca ut wk):=((Blk.new w 79 (I11 st be rk my gu lo hi hd ca ut wk)).alloc _).below hb (by simp;omega)
 have ko:Blk w1 (w.heap.size+1) 79 E11:=by
  have k:=Blk.new (w.alloc (.cells (I11 st be rk my gu lo hi hd ca ut wk) 79)) 79 E11;rw [XX] at k;exact k.below hb (by simp)
 have hsz:w.heap.size+2<=w1.heap.size:=by have:=hb.size;simp at this;omega
 have hl0:w.heap.size<w1.heap.size:=by omega
 have hl1:w.heap.size+1<w1.heap.size:=by omega
 have B1:=Z9 ((((Z2 w.heap.size w).alloc (Z3 _) _).alloc (by simp) _).trans (hb.mono (by simp;omega)));have Kb:=Z9 kb;have Ko:=Z9 ko;obtain ⟨c0,c1,c2,c3,c4,c5,c6,c7,c8,c9,c10⟩:=kb.c11;obtain ⟨o0,o1,o2,o3,o4,o5,o6,o7,o8,o9,o10⟩:=ko.c11;obtain ⟨of0,of1,of2,of3,of4,of5,of6,of7,of8,of9,of10⟩:=ko.f11;clear hb kb ko;go_wp2_with (go_at_call 82;refine (Zg _ _).mono ?_;rintro e w' ⟨rfl,h9⟩;subst w')
 refine Zz (v:= .tuple #[.agg (I11 st be rk my gu lo hi hd ca ut wk),.bool false]) (by simp [results,results136,go_sem,o0,o1,o2,o3,o4,o5,o6,o7,o8,o9,o10]) rfl ⟨rfl,?_⟩
 iterate 11 (refine YU ?_ (by simp) _)
 exact uh B1
theorem Kz {st be rk my gu lo hi hd ca ut wk:Int} {rank x:Int} {w:World} (hx:Zf rank=x) (x0:335<=x) (x1:x<=3125) (a0:0<=ca) (a1:ca<=3125) (hs:Zs (st,be,rk,my,gu,lo,hi,hd,ca,ut,wk)=true) (hst:(st ==0)=false) (hw:inB rank (-5) 5=true):cB 136 #[.agg (I11 st be rk my gu lo hi hd ca ut wk),.int .i64 rank] w (.tuple #[.agg (I11 st be rank my gu lo hi hd (ca%x) ut wk),.bool true]):=by
 have Hs:=Z9 hs;have Hx:=Z9 hx;have hne:¬ x=0:=by omega
 clear hx hs;go_enter func136,ntmps136;go_wp2_with fail;refine (ZA st be rk my gu lo hi hd ca ut wk _).mono ?_;rw [uh Hs];rintro e w1 ⟨rfl,hb⟩;have kb:Blk w1 w.heap.size 79 (I11 st be rk my gu lo hi hd ca ut wk):=((Blk.new w 79 (I11 st be rk my gu lo hi hd ca ut wk)).alloc _).below hb (by simp;omega)
 have ko:Blk w1 (w.heap.size+1) 79 E11:=by
  have k:=Blk.new (w.alloc (.cells (I11 st be rk my gu lo hi hd ca ut wk) 79)) 79 E11;rw [XX] at k;exact k.below hb (by simp)
 have hsz:w.heap.size+2<=w1.heap.size:=by have:=hb.size;simp at this;omega
 have hl0:w.heap.size<w1.heap.size:=by omega
 have hl1:w.heap.size+1<w1.heap.size:=by omega
 have B1:=Z9 ((((Z2 w.heap.size w).alloc (Z3 _) _).alloc (by simp) _).trans (hb.mono (by simp;omega)));have Kb:=Z9 kb;have Ko:=Z9 ko;obtain ⟨c0,c1,c2,c3,c4,c5,c6,c7,c8,c9,c10⟩:=kb.c11;obtain ⟨o0,o1,o2,o3,o4,o5,o6,o7,o8,o9,o10⟩:=ko.c11;obtain ⟨of0,of1,of2,of3,of4,of5,of6,of7,of8,of9,of10⟩:=ko.f11;clear hb kb ko;have bf2:=(uh Kb).free 2;go_wp2_with (go_at_call 82;refine (Zg _ _).mono ?_;rintro e w' ⟨rfl,h9⟩;subst w')
 have kb:Blk (w1.setCell ⟨w.heap.size,2,none⟩ (.int .i64 rank)) w.heap.size 79 (I11 st be rank my gu lo hi hd ca ut wk):=(uh Kb).set 2 (.int .i64 rank);have ko:Blk (w1.setCell ⟨w.heap.size,2,none⟩ (.int .i64 rank)) (w.heap.size+1) 79 E11:=(uh Ko).other (a:=⟨w.heap.size,2,none⟩) (by simp) _;have B2:=Z9 ((uh B1).setCell (p:=⟨w.heap.size,2,none⟩) (Z3 _) (.int .i64 rank));clear c0 o0 of0 c1 o1 of1 c2 o2 of2 c3 o3 of3 c4 o4 of4 c5 o5 of5 c6 o6 of6 c7 o7 of7 c8 o8 of8 c9 o9 of9 c10 o10 of10 bf2 Kb Ko B1 hsz hl0 hl1;generalize w1.setCell ⟨w.heap.size,2,none⟩ (.int .i64 rank)=W2 at *;obtain ⟨c0,c1,c2,c3,c4,c5,c6,c7,c8,c9,c10⟩:=kb.c11;obtain ⟨o0,o1,o2,o3,o4,o5,o6,o7,o8,o9,o10⟩:=ko.c11;obtain ⟨of0,of1,of2,of3,of4,of5,of6,of7,of8,of9,of10⟩:=ko.f11;have bf8:=kb.free 8;clear kb ko
 go_region_with (go_at_call 79;refine (YT (uh Hx) _).mono ?_;rintro e w' ⟨rfl,h9⟩;subst w')
 all_goals
  go_wp2_with fail;refine Zz (v:= .tuple #[.agg (I11 st be rank my gu lo hi hd (ca%x) ut wk),.bool true]) (by simp [results,results136,go_sem,o0,o1,o2,o3,o4,o5,o6,o7,o8,o9,o10]) rfl ⟨rfl,?_⟩;refine Below.drew ?_
  iterate 12 (refine YU ?_ (by simp) _)
  exact uh B2
theorem UY {x:Z6} (h:YX x=true):Zs x=true:=by unfold Zs;rw [h,Bool.or_true]
theorem Rw {x:Z6} (rank:Int) (hg:Vr x=true):Yr x rank=(Vk,false):=by
 have e:=U6 hg;subst e;rfl
theorem Sw {x:Z6} (rank:Int) (hg:Vr x=false) (hp:YX x=false):Yr x rank=(Vk,false):=by unfold Yr;rw [hp,hg];rfl
theorem PX {x:Z6} {rank:Int} (hp:YX x=true) (hw:inB rank (-5) 5=false):Yr x rank=(x,false):=by unfold Yr;rw [hp,hw];rfl
theorem QS {x:Z6} {rank:Int} (hp:YX x=true) (hw:inB rank (-5) 5=true):Yr x rank=(QO x rank,true):=by unfold Yr;rw [hp,hw];rfl
theorem Jl {st:Int} (h:1<=st):(st ==0)=false:=by simp;omega
theorem Ra {x y:Z6} {rank:Int} {q:Bool} (h:Yr x rank=(y,q)) (w:World):cB 136 #[.agg (ZZ x).toArray,.int .i64 rank] w (.tuple #[.agg (ZZ y).toArray,.bool q]):=by
 obtain ⟨st,be,rk,my,gu,lo,hi,hd,ca,ut,wk⟩:=x;have hz:=On rank;cases hg:Vr (st,be,rk,my,gu,lo,hi,hd,ca,ut,wk)
 ·cases hp:YX (st,be,rk,my,gu,lo,hi,hd,ca,ut,wk)
  ·rw [Sw rank hg hp] at h
   obtain ⟨rfl,rfl⟩:=Prod.mk.inj h;exact Ob rank w (by unfold Zs;rw [hg,hp];rfl)
  ·cases hw:inB rank (-5) 5
   ·rw [PX hp hw] at h
    obtain ⟨rfl,rfl⟩:=Prod.mk.inj h;exact Jk rank w (UY hp) (Jl (Zj hp).1.1) hw
   ·rw [QS hp hw] at h
    obtain ⟨rfl,rfl⟩:=Prod.mk.inj h;obtain ⟨⟨s0,s1⟩,_,hr,_,_,_,⟨d0,d1⟩,⟨a0,a1⟩,_,⟨k0,k1⟩⟩:=Zj hp;have hr0:=WA hr;have hr1:=(Vj rk).2;have a2:ca<=3125:=by omega
    have x0:=WA hw;have x1:=(Vj rank).2;have hs:Zs (QO (st,be,rk,my,gu,lo,hi,hd,ca,ut,wk) rank)=true:=UY (Te hp hw);exact Kz rfl x0 x1 a0 a2 (UY hp) (Jl s0) hw
 ·rw [Rw rank hg] at h
  obtain ⟨rfl,rfl⟩:=Prod.mk.inj h;cases U6 hg;exact Ms rank w
end Go.Proofs.YtmdgokjeobnnaaaGreatDoor
