/- Part 10 of what the proof rests on. No condition but those that a theorem names. -/
import Derived.Test.YtamgfpdahadnfaaGreatDoorXf02
import Derived.Test.YtamgfpdahadnfaaGreatDoorXf07
import Derived.Test.YtamgfpdahadnfaaGreatDoorXf09
set_option maxHeartbeats 8000000
set_option maxRecDepth 100000
namespace Go.Proofs.YtamgfpdahadnfaaGreatDoor
open Go.ChangeShapes Go.WideShapes Go.ChangeAt Go.RowKit Go.Sort
set_option linter.unusedVariables false
def YY (x:Z3):Bool:=
 inB x.1 1 3 && (inB x.2.1 0 7 && (inB x.2.2.1 (-5) 5 && (inB x.2.2.2.1 1 255 && (inB x.2.2.2.2.1 (-1) 5 && (Ya x.2.2.2.2.2.1 x.2.2.2.2.2.2.1 && (inB x.2.2.2.2.2.2.2.1 (-1000000000000) 1000000000000 &&
  (inB x.2.2.2.2.2.2.2.2.1 0 (Zh x.2.2.1-1) && (inB x.2.2.2.2.2.2.2.2.2.1 0 1024 && inB x.2.2.2.2.2.2.2.2.2.2 0 100000000000))))))))
def Uv:Z3:=(0,0,0,0,0,0,0,0,0,0,0)
def To (x y:Z3):Bool:=x.1 ==y.1 && (x.2.1 ==y.2.1 && (x.2.2.1 ==y.2.2.1 && (x.2.2.2.1 ==y.2.2.2.1 && (x.2.2.2.2.1 ==y.2.2.2.2.1 && (x.2.2.2.2.2.1 ==y.2.2.2.2.2.1 && (x.2.2.2.2.2.2.1 ==y.2.2.2.2.2.2.1 && (x.2.2.2.2.2.2.2.1 ==y.2.2.2.2.2.2.2.1 && (x.2.2.2.2.2.2.2.2.1 ==y.2.2.2.2.2.2.2.2.1 && (x.2.2.2.2.2.2.2.2.2.1 ==y.2.2.2.2.2.2.2.2.2.1 && (x.2.2.2.2.2.2.2.2.2.2 ==y.2.2.2.2.2.2.2.2.2.2))))))))))
theorem MQ (x:Z3):To x x=true:=by unfold To;simp
theorem AR {x y:Z3} (h:To x y=true):x=y:=by
 obtain ⟨x0,x1,x2,x3,x4,x5,x6,x7,x8,x9,x10⟩:=x;obtain ⟨y0,y1,y2,y3,y4,y5,y6,y7,y8,y9,y10⟩:=y;unfold To at h;simp only [ZL,beq_iff_eq] at h;obtain ⟨rfl,rfl,rfl,rfl,rfl,rfl,rfl,rfl,rfl,rfl,rfl⟩:=h;rfl
def U1 (x:Z3):Bool:=To x Uv
def Zs (x:Z3):Bool:=U1 x || YY x
theorem Tx (r:Int):0<=Zh r/\Zh r<=3125:=by
 cases h:inB r (-5) 5
 ·rw [VM h];omega
 ·rcases AK h with rfl | rfl | rfl | rfl | rfl | rfl | rfl | rfl | rfl | rfl | rfl<;>decide
theorem Vw {r:Int} (h:inB r (-5) 5=true):335<=Zh r:=by
 rcases AK h with rfl | rfl | rfl | rfl | rfl | rfl | rfl | rfl | rfl | rfl | rfl<;>decide
theorem IE (r:Int):(Zh r !=0)=inB r (-5) 5:=by
 cases h:inB r (-5) 5
 ·rw [VM h];rfl
 ·have:=Vw h
  simp;omega
theorem Zj {st be rk my gu lo hi hd ca ut wk:Int} (h:YY (st,be,rk,my,gu,lo,hi,hd,ca,ut,wk)=true):(1<=st/\st<=3)/\(0<=be/\be<=7)/\inB rk (-5) 5=true/\(1<=my/\my<=255)/\(-1<=gu/\gu<=5)/\Ya lo hi=true/\(-1000000000000<=hd/\hd<=1000000000000)/\(0<=ca/\ca<=Zh rk-1)/\(0<=ut/\ut<=1024)/\(0<=wk/\wk<=100000000000):=by
 unfold YY at h;simp only [ZL] at h;obtain ⟨h0,h1,h2,h3,h4,h5,h6,h7,h8,h9⟩:=h;exact ⟨ZJ h0,ZJ h1,h2,ZJ h3,ZJ h4,h5,ZJ h6,ZJ h7,ZJ h8,ZJ h9⟩
theorem U2 {x:Z3} (h:U1 x=true):x=Uv:=AR h
theorem Ec:U1 Uv=true:=MQ _
theorem Rk {x:Z3} (h:x.1 ≠ 0):U1 x=false:=by
 cases hg:U1 x
 ·rfl
 ·exact absurd (show x.1=0 by rw [U2 hg];rfl) h
theorem MG {x:Z3} (h:x.1=0):YY x=false:=by
 unfold YY;rw [h];rfl
def MH (x:Z3) (work:Int):Z3:=
 (x.1,x.2.1,x.2.2.1,x.2.2.2.1,x.2.2.2.2.1,x.2.2.2.2.2.1,x.2.2.2.2.2.2.1,x.2.2.2.2.2.2.2.1+SJ work (Zh x.2.2.1) x.2.2.2.2.2.2.2.2.1,SI work (Zh x.2.2.1) x.2.2.2.2.2.2.2.2.1,x.2.2.2.2.2.2.2.2.2.1,x.2.2.2.2.2.2.2.2.2.2+work)
def MK (x:Z3) (rank:Int):Z3:=
 (x.1,x.2.1,rank,x.2.2.2.1,x.2.2.2.2.1,x.2.2.2.2.2.1,x.2.2.2.2.2.2.1,x.2.2.2.2.2.2.2.1,x.2.2.2.2.2.2.2.2.1%Zh rank,x.2.2.2.2.2.2.2.2.2.1,x.2.2.2.2.2.2.2.2.2.2)
def WO (x:Z3) (work:Int):Z3 × Bool:=
 if YY x then (if inB work 0 100000 && YY (MH x work) then (MH x work,true) else (x,false)) else (if U1 x then x else Uv,false)
def XH (x:Z3) (rank:Int):Z3 × Bool:=
 if YY x then (if inB rank (-5) 5 then (MK x rank,true) else (x,false)) else (if U1 x then x else Uv,false)
theorem PF {x:Z3} {rank:Int} (h:YY x=true) (hr:inB rank (-5) 5=true):YY (MK x rank)=true:=by
 obtain ⟨st,be,rk,my,gu,lo,hi,hd,ca,ut,wk⟩:=x;have hp:=Vw hr;have hc:inB (ca%Zh rank) 0 (Zh rank-1)=true:=Zp (Int.emod_nonneg _ (by omega)) (by have:=Int.emod_lt_of_pos ca (show 0<Zh rank by omega);omega);unfold YY at h ⊢;simp only [ZL] at h;obtain ⟨h0,h1,h2,h3,h4,h5,h6,h7,h8,h9⟩:=h;simp only [MK,h0,h1,h3,h4,h5,h6,h8,h9,hr,hc,Bool.and_self]
theorem AZ {work W ca:Int} (w0:0<=work) (w1:work<=100000) (r0:335<=W) (r1:W<=3125) (c0:0<=ca) (c1:ca<=W-1) :
  Wl work W ca=true/\0<=SJ work W ca/\SJ work W ca<=400000/\0<=SI work W ca/\SI work W ca<=W-1/\SJ work W ca*W+SI work W ca=1024*work+ca:=by
 have hk:Wl work W ca=true:=EH w0 (by omega) (by omega) (by omega) c0 (by omega);obtain ⟨e1,e2⟩:=Kq hk;rw [e1,e2];have hd:=Int.emod_add_mul_ediv (1024*work+ca) W;have m0:=Int.emod_nonneg (1024*work+ca) (show W ≠ 0 by omega);have m1:=Int.emod_lt_of_pos (1024*work+ca) (show 0<W by omega);have q0:0<=(1024*work+ca) / W:=Int.ediv_nonneg (by omega) (by omega)
 have q1:(1024*work+ca) / W<=400000:=by
  refine Int.le_of_lt_add_one (Int.ediv_lt_of_lt_mul (by omega) ?_);have:(335:Int)*400001<=W*400001:=Int.mul_le_mul_of_nonneg_right r0 (by omega);have e:(400000+1)*W=W*400001:=by rw [Int.mul_comm];rfl
  rw [e];omega
 refine ⟨hk,q0,q1,m0,by omega,?_⟩;rw [Int.mul_comm];omega
theorem Om (x0 x1 x2 x3 x4 x5 x6 x7 x8 x9 x10 y0 y1 y2 y3 y4 y5 y6 y7 y8 y9 y10:Int) (w:World):(Op.equalIn 10000 40 (.agg (I11 x0 x1 x2 x3 x4 x5 x6 x7 x8 x9 x10)) (.agg (I11 y0 y1 y2 y3 y4 y5 y6 y7 y8 y9 y10))).run Tryz.prog w= .ok (To (x0,x1,x2,x3,x4,x5,x6,x7,x8,x9,x10) (y0,y1,y2,y3,y4,y5,y6,y7,y8,y9,y10)) w:=by
 have u:=Tryz.underlying2;have a:=Tryz.isAgg2;have z:=Tryz.sizeOf2;have hS:Tryz.prog.underlying 40=some (.struct (Tryz.prog.fieldsOf 40)):=by kernel_rfl
 have hp:Tryz.prog.stoodInHeld 40=false:=by kernel_rfl
 rw [show (10000:Nat)=9999+1 from rfl,run_equalIn_agg w 9999 40 _ _ hS hp];simp only [Program.fieldsOf,Tryz.underlying40];go_simp;unfold To;by_cases h0:x0=y0;rotate_left
 ·simp [h0]
 subst h0;by_cases h1:x1=y1;rotate_left
 ·simp [h1]
 subst h1;by_cases h2:x2=y2;rotate_left
 ·simp [h2]
 subst h2;by_cases h3:x3=y3;rotate_left
 ·simp [h3]
 subst h3;by_cases h4:x4=y4;rotate_left
 ·simp [h4]
 subst h4;by_cases h5:x5=y5;rotate_left
 ·simp [h5]
 subst h5;by_cases h6:x6=y6;rotate_left
 ·simp [h6]
 subst h6;by_cases h7:x7=y7;rotate_left
 ·simp [h7]
 subst h7;by_cases h8:x8=y8;rotate_left
 ·simp [h8]
 subst h8;by_cases h9:x9=y9;rotate_left
 ·simp [h9]
 subst h9;by_cases h10:x10=y10;rotate_left
 ·simp [h10]
 subst h10;simp
theorem Ks (x0 x1 x2 x3 x4 x5 x6 x7 x8 x9 x10 y0 y1 y2 y3 y4 y5 y6 y7 y8 y9 y10:Int) (w:World):(binOp .eql 40 (.agg (I11 x0 x1 x2 x3 x4 x5 x6 x7 x8 x9 x10)) (.agg (I11 y0 y1 y2 y3 y4 y5 y6 y7 y8 y9 y10))).run Tryz.prog w= .ok (.bool (To (x0,x1,x2,x3,x4,x5,x6,x7,x8,x9,x10) (y0,y1,y2,y3,y4,y5,y6,y7,y8,y9,y10))) w:=by
 rw [run_eql_struct,Om];rfl
theorem O4 (x0 x1 x2 x3 x4 x5 x6 x7 x8 x9 x10 y0 y1 y2 y3 y4 y5 y6 y7 y8 y9 y10:Int) (w:World):(binOp .neq 40 (.agg (I11 x0 x1 x2 x3 x4 x5 x6 x7 x8 x9 x10)) (.agg (I11 y0 y1 y2 y3 y4 y5 y6 y7 y8 y9 y10))).run Tryz.prog w= .ok (.bool (!To (x0,x1,x2,x3,x4,x5,x6,x7,x8,x9,x10) (y0,y1,y2,y3,y4,y5,y6,y7,y8,y9,y10))) w:=by
 rw [run_neq_struct,Om];rfl
theorem Rp {r x:Int} (h:Zh r=x) (w:World):Calls Tryz.prog 190 #[.int .i64 r] w fun e w'=>e= .returned (.int .i64 x)/\w'=w:=by
 have:=OM r w;rw [h] at this;exact this
theorem Yw {r x:Int} (h:Zh r=x) (w:World):Calls Tryz.prog 104 #[.int .i64 r] w fun e w'=>e= .returned (.int .i64 x)/\w'=w:=by
 have:=O9 r w;rw [h] at this;exact this
attribute [local go_sem ↓] Ks O4
theorem WX (n:Int) (w:World):Calls Tryz.prog 103 #[.int .i64 n] w fun e w'=>e= .returned (.bool (inB n (-1000000000000) 1000000000000))/\w'=w:=by
 go_enter Tryz.func103,Tryz.ntmps103;go_wp2_with (go_at_call 59;refine (ZU _ _ _ _).mono ?_;rintro e w' ⟨rfl,rfl⟩)
 go_ret;exact ⟨rfl,rfl⟩
theorem Zm (st be rk my gu lo hi hd ca ut wk:Int) (w:World):Calls Tryz.prog 48 #[.agg (I11 st be rk my gu lo hi hd ca ut wk)] w fun e w'=>e= .returned (.bool (Zs (st,be,rk,my,gu,lo,hi,hd,ca,ut,wk)))/\Below w.heap.size w w':=by
 by_cases hst:st=0
 ·subst hst
  unfold Zs;rw [MG rfl,Bool.or_false];obtain ⟨q,hq⟩:∃ q,U1 (0,be,rk,my,gu,lo,hi,hd,ca,ut,wk)=q:=⟨_,rfl⟩
  rw [hq];have hz:To (0,be,rk,my,gu,lo,hi,hd,ca,ut,wk) (0,0,0,0,0,0,0,0,0,0,0)=q:=hq;clear hq;go_enter Tryz.func48,Tryz.ntmps48;go_wp2_with fail;go_ret;exact ⟨rfl,(ba _ _)⟩
 ·have hne:(st ==0)=false:=by simpa using hst
  unfold Zs;rw [Rk hst,Bool.false_or];unfold YY;simp only;obtain ⟨x0,x1⟩:=Tx rk;obtain ⟨x,hx⟩:∃ x,Zh rk=x:=⟨_,rfl⟩
  rw [hx] at x0 x1 ⊢;have Hw:=Z9 hx;have hwr:IntKind.i64.wrap (x-1)=x-1:=by rw [IntKind.wrap_i64];omega
  clear hx hst;cases h0:inB st 1 3
  ·go_enter Tryz.func48,Tryz.ntmps48
   go_wp2_with (first | (go_at_call 59;refine (ZU _ _ _ _).mono ?_;rintro e w' ⟨rfl,rfl⟩) | (go_at_call 102;refine (YM _ _).mono ?_;rintro e w' ⟨rfl,rfl⟩) | (go_at_call 78;refine (YD _ _ _).mono ?_;rintro e w' ⟨rfl,rfl⟩))
   go_ret;exact ⟨rfl,(ba _ _)⟩
  cases h1:inB be 0 7
  ·go_enter Tryz.func48,Tryz.ntmps48
   go_wp2_with (first | (go_at_call 59;refine (ZU _ _ _ _).mono ?_;rintro e w' ⟨rfl,rfl⟩) | (go_at_call 102;refine (YM _ _).mono ?_;rintro e w' ⟨rfl,rfl⟩) | (go_at_call 78;refine (YD _ _ _).mono ?_;rintro e w' ⟨rfl,rfl⟩))
   go_ret;exact ⟨rfl,(ba _ _)⟩
  cases h2:inB rk (-5) 5
  ·go_enter Tryz.func48,Tryz.ntmps48
   go_wp2_with (first | (go_at_call 59;refine (ZU _ _ _ _).mono ?_;rintro e w' ⟨rfl,rfl⟩) | (go_at_call 102;refine (YM _ _).mono ?_;rintro e w' ⟨rfl,rfl⟩) | (go_at_call 78;refine (YD _ _ _).mono ?_;rintro e w' ⟨rfl,rfl⟩))
   go_ret;exact ⟨rfl,(ba _ _)⟩
  cases h3:inB my 1 255
  ·go_enter Tryz.func48,Tryz.ntmps48
   go_wp2_with (first | (go_at_call 59;refine (ZU _ _ _ _).mono ?_;rintro e w' ⟨rfl,rfl⟩) | (go_at_call 102;refine (YM _ _).mono ?_;rintro e w' ⟨rfl,rfl⟩) | (go_at_call 78;refine (YD _ _ _).mono ?_;rintro e w' ⟨rfl,rfl⟩))
   go_ret;exact ⟨rfl,(ba _ _)⟩
  cases h4:inB gu (-1) 5
  ·go_enter Tryz.func48,Tryz.ntmps48
   go_wp2_with (first | (go_at_call 59;refine (ZU _ _ _ _).mono ?_;rintro e w' ⟨rfl,rfl⟩) | (go_at_call 102;refine (YM _ _).mono ?_;rintro e w' ⟨rfl,rfl⟩) | (go_at_call 78;refine (YD _ _ _).mono ?_;rintro e w' ⟨rfl,rfl⟩))
   go_ret;exact ⟨rfl,(ba _ _)⟩
  cases h5:Ya lo hi
  ·go_enter Tryz.func48,Tryz.ntmps48
   go_wp2_with (first | (go_at_call 59;refine (ZU _ _ _ _).mono ?_;rintro e w' ⟨rfl,rfl⟩) | (go_at_call 102;refine (YM _ _).mono ?_;rintro e w' ⟨rfl,rfl⟩) | (go_at_call 78;refine (YD _ _ _).mono ?_;rintro e w' ⟨rfl,rfl⟩))
   go_ret;exact ⟨rfl,(ba _ _)⟩
  cases h6:inB hd (-1000000000000) 1000000000000
  ·go_enter Tryz.func48,Tryz.ntmps48
   go_wp2_with (first | (go_at_call 59;refine (ZU _ _ _ _).mono ?_;rintro e w' ⟨rfl,rfl⟩) | (go_at_call 102;refine (YM _ _).mono ?_;rintro e w' ⟨rfl,rfl⟩) | (go_at_call 78;refine (YD _ _ _).mono ?_;rintro e w' ⟨rfl,rfl⟩))
   go_quiet (first | exact Yf (ZU _ _ _ _) | exact Yf (WX _ _) | exact Yf (Yw (uh Hw) _) | exact Yf (X8 _ _));go_wp2_with fail;go_ret;exact ⟨rfl,Yl ((ba _ _)) _⟩
  cases h7:inB ca 0 (x-1)
  ·go_enter Tryz.func48,Tryz.ntmps48
   go_wp2_with (first | (go_at_call 59;refine (ZU _ _ _ _).mono ?_;rintro e w' ⟨rfl,rfl⟩) | (go_at_call 102;refine (YM _ _).mono ?_;rintro e w' ⟨rfl,rfl⟩) | (go_at_call 78;refine (YD _ _ _).mono ?_;rintro e w' ⟨rfl,rfl⟩))
   go_quiet (first | exact Yf (ZU _ _ _ _) | exact Yf (WX _ _) | exact Yf (Yw (uh Hw) _) | exact Yf (X8 _ _));go_wp2_with fail;go_ret;exact ⟨rfl,Yl ((ba _ _)) _⟩
  cases h8:inB ut 0 1024
  ·go_enter Tryz.func48,Tryz.ntmps48
   go_wp2_with (first | (go_at_call 59;refine (ZU _ _ _ _).mono ?_;rintro e w' ⟨rfl,rfl⟩) | (go_at_call 102;refine (YM _ _).mono ?_;rintro e w' ⟨rfl,rfl⟩) | (go_at_call 78;refine (YD _ _ _).mono ?_;rintro e w' ⟨rfl,rfl⟩))
   go_quiet (first | exact Yf (ZU _ _ _ _) | exact Yf (WX _ _) | exact Yf (Yw (uh Hw) _) | exact Yf (X8 _ _));go_wp2_with fail;go_ret;exact ⟨rfl,Yl ((ba _ _)) _⟩
  cases h9:inB wk 0 100000000000
  ·go_enter Tryz.func48,Tryz.ntmps48
   go_wp2_with (first | (go_at_call 59;refine (ZU _ _ _ _).mono ?_;rintro e w' ⟨rfl,rfl⟩) | (go_at_call 102;refine (YM _ _).mono ?_;rintro e w' ⟨rfl,rfl⟩) | (go_at_call 78;refine (YD _ _ _).mono ?_;rintro e w' ⟨rfl,rfl⟩))
   go_quiet (first | exact Yf (ZU _ _ _ _) | exact Yf (WX _ _) | exact Yf (Yw (uh Hw) _) | exact Yf (X8 _ _));go_wp2_with fail;go_ret;exact ⟨rfl,Yl ((ba _ _)) _⟩
  go_enter Tryz.func48,Tryz.ntmps48;go_wp2_with (first | (go_at_call 59;refine (ZU _ _ _ _).mono ?_;rintro e w' ⟨rfl,rfl⟩) | (go_at_call 102;refine (YM _ _).mono ?_;rintro e w' ⟨rfl,rfl⟩) | (go_at_call 78;refine (YD _ _ _).mono ?_;rintro e w' ⟨rfl,rfl⟩))
  go_quiet (first | exact Yf (ZU _ _ _ _) | exact Yf (WX _ _) | exact Yf (Yw (uh Hw) _) | exact Yf (X8 _ _));go_wp2_with fail;go_ret;exact ⟨rfl,Yl ((ba _ _)) _⟩
end Go.Proofs.YtamgfpdahadnfaaGreatDoor
namespace Go.Proofs.YtamgfpdahadnfaaGreatDoor
open Go.ChangeShapes Go.WideShapes Go.ChangeAt Go.RowKit Go.Sort
set_option linter.unusedVariables false
theorem BL:∀ k:Fin 256,(VD (k.val:Int) != -1)=inB (k.val:Int) 1 255:=by decide +kernel
theorem BM (s:Int):(VD s != -1)=inB s 1 255:=by
 cases h:inB s 0 255
 ·have hf:VD s= -1:=by unfold VD SA;rw [KE h];rfl
  have h2:s<0\/255<s:=by
   rcases Int.lt_or_le s 0 with h1 | h1
   ·exact .inl h1
   ·rcases Int.lt_or_le 255 s with h2 | h2
    ·exact .inr h2
    ·rw [Zp h1 h2] at h;cases h
  rw [hf,Wy (by omega)];rfl
 ·obtain ⟨h0,h1⟩:=ZJ h
  obtain ⟨n,rfl⟩:=Int.eq_ofNat_of_zero_le h0;exact BL ⟨n,by omega⟩
theorem KT {s f:Int} (h:VD s=f) (w:World):Calls Tryz.prog 193 #[.int .i64 s] w fun e w'=>e= .returned (.int .i64 f)/\Below w.heap.size w w':=by
 have:=NF s w;rw [h] at this;exact this
theorem BV (s:Int) (w:World):Calls Tryz.prog 135 #[.int .i64 s] w fun e w'=>e= .returned (.bool (inB s 1 255))/\Below w.heap.size w w':=by
 have hf:=BM s;obtain ⟨f,hv⟩:∃ f,VD s=f:=⟨_,rfl⟩
 have Hv:=Z9 hv;rw [hv] at hf;have Hf:=Z9 hf;clear hf hv;go_enter Tryz.func135,Tryz.ntmps135;go_wp2_with fail;refine ck (KT (uh Hv) _) fun w1 hb=> ?_;go_wp2_with fail;go_ret;exact ⟨Z5 (uh Hf),hb⟩
theorem Gq (c r:Int) (w:World):Calls Tryz.prog 261 #[.int .i64 c,.int .i64 r] w fun e w'=>e= .returned (.bool (inB c 0 (Zh r-1)))/\w'=w:=by
 obtain ⟨x,hv⟩:∃ x,Zh r=x:=⟨_,rfl⟩
 have Hv:=Z9 hv;rw [hv];clear hv;by_cases h0:0<=c
 ·by_cases h1:c<x
  ·rw [Zp (x:=c) (lo:=0) (hi:=x-1) h0 (by omega)]
   go_enter Tryz.func261,Tryz.ntmps261;go_wp2_with (go_at_call 190;refine (Rp (uh Hv) _).mono ?_;rintro e w' ⟨rfl,rfl⟩)
   go_ret;exact ⟨rfl,rfl⟩
  ·rw [Wy (x:=c) (lo:=0) (hi:=x-1) (by omega)]
   go_enter Tryz.func261,Tryz.ntmps261;go_wp2_with (go_at_call 190;refine (Rp (uh Hv) _).mono ?_;rintro e w' ⟨rfl,rfl⟩)
   go_ret;exact ⟨Z5 (b:=false) (by rw [decide_eq_false_iff_not];omega),rfl⟩
 ·rw [Wy (x:=c) (lo:=0) (hi:=x-1) (by omega)]
  go_enter Tryz.func261,Tryz.ntmps261;go_wp2_with fail;go_ret;exact ⟨rfl,rfl⟩
theorem PN (n:Int) (w:World):Calls Tryz.prog 260 #[.int .i64 n] w fun e w'=>e= .returned (.bool (inB n (-1000000000000) 1000000000000))/\w'=w:=by
 go_enter Tryz.func260,Tryz.ntmps260;go_wp2_with (go_at_call 181;refine (Zw _ _ _ _).mono ?_;rintro e w' ⟨rfl,rfl⟩)
 go_ret;exact ⟨rfl,rfl⟩
theorem JW {c r:Int} {q:Bool} (h:inB c 0 (Zh r-1)=q) (w:World):Calls Tryz.prog 261 #[.int .i64 c,.int .i64 r] w fun e w'=>e= .returned (.bool q)/\w'=w:=by
 have:=Gq c r w;rw [h] at this;exact this
theorem Ad (x:Int):inB x 0 (0-1)=false:=by
 refine Wy ?_
 rcases Int.lt_or_le x 0 with h | h
 ·exact .inl h
 ·exact .inr (by omega)
theorem AF (st be rk my gu lo hi hd ca ut wk:Int):YY (st,be,rk,my,gu,lo,hi,hd,ca,ut,wk)=(inB st 1 3 && (inB be 0 7 && (inB my 1 255 && (inB gu (-1) 5 && (Ya lo hi && (inB hd (-1000000000000) 1000000000000 && (inB ca 0 (Zh rk-1) && (inB ut 0 1024 && (inB wk 0 100000000000))))))))):=by
 unfold YY;simp only;cases hr:inB rk (-5) 5
 ·rw [VM hr,show inB ca 0 (0-1)=false from Ad ca]
  simp
 ·simp only [Bool.true_and]
theorem Qq (st be rk my gu lo hi hd ca ut wk:Int) (w:World):Calls Tryz.prog 217 #[.agg (I11 st be rk my gu lo hi hd ca ut wk)] w fun e w'=>e= .returned (.bool (YY (st,be,rk,my,gu,lo,hi,hd,ca,ut,wk)))/\Below w.heap.size w w':=by
 rw [AF];obtain ⟨qc,hqc⟩:∃ q,inB ca 0 (Zh rk-1)=q:=⟨_,rfl⟩
 have Hc:=Z9 hqc;rw [hqc];clear hqc;cases h_st:inB st 1 3;rotate_left;cases h_be:inB be 0 7;rotate_left;cases h_my:inB my 1 255;rotate_left;cases h_gu:inB gu (-1) 5;rotate_left;cases h_pr:Ya lo hi;rotate_left;cases h_hd:inB hd (-1000000000000) 1000000000000;rotate_left;cases qc;rotate_left;cases h_ut:inB ut 0 1024;rotate_left;cases h_wk:inB wk 0 100000000000
 all_goals
  go_enter Tryz.func217,Tryz.ntmps217;go_wp2_with (first | (go_at_call 181;refine (Zw _ _ _ _).mono ?_;rintro e w' ⟨rfl,rfl⟩) | (go_at_call 195;refine (U4 _ _).mono ?_;rintro e w' ⟨rfl,rfl⟩) | (go_at_call 139;refine (TA _ _ _).mono ?_;rintro e w' ⟨rfl,rfl⟩) | (go_at_call 260;refine (PN _ _).mono ?_;rintro e w' ⟨rfl,rfl⟩) | (go_at_call 261;refine (JW (uh Hc) _).mono ?_;rintro e w' ⟨rfl,rfl⟩) | (go_at_call 262;refine (Mn _ _).mono ?_;rintro e w' ⟨rfl,rfl⟩))
  try
   refine ck (BV _ _) fun w1 hb=> ?_;have c2:w1.cell? ⟨w.heap.size,2,none⟩=some (.int .i64 rk):=(hb.cell (p:=⟨w.heap.size,2,none⟩) (by simp)).trans (Ze _ rfl);have c4:w1.cell? ⟨w.heap.size,4,none⟩=some (.int .i64 gu):=(hb.cell (p:=⟨w.heap.size,4,none⟩) (by simp)).trans (Ze _ rfl);have c5:w1.cell? ⟨w.heap.size,5,none⟩=some (.int .i64 lo):=(hb.cell (p:=⟨w.heap.size,5,none⟩) (by simp)).trans (Ze _ rfl);have c6:w1.cell? ⟨w.heap.size,6,none⟩=some (.int .i64 hi):=(hb.cell (p:=⟨w.heap.size,6,none⟩) (by simp)).trans (Ze _ rfl);have c7:w1.cell? ⟨w.heap.size,7,none⟩=some (.int .i64 hd):=(hb.cell (p:=⟨w.heap.size,7,none⟩) (by simp)).trans (Ze _ rfl);have c8:w1.cell? ⟨w.heap.size,8,none⟩=some (.int .i64 ca):=(hb.cell (p:=⟨w.heap.size,8,none⟩) (by simp)).trans (Ze _ rfl);have c9:w1.cell? ⟨w.heap.size,9,none⟩=some (.int .i64 ut):=(hb.cell (p:=⟨w.heap.size,9,none⟩) (by simp)).trans (Ze _ rfl);have c10:w1.cell? ⟨w.heap.size,10,none⟩=some (.int .i64 wk):=(hb.cell (p:=⟨w.heap.size,10,none⟩) (by simp)).trans (Ze _ rfl);have Hb:=Z9 (((Z1 w.heap.size w).alloc (Z2 _) _).trans (hb.mono (by simp)));clear hb;go_wp2_with (first | (go_at_call 181;refine (Zw _ _ _ _).mono ?_;rintro e w' ⟨rfl,rfl⟩) | (go_at_call 195;refine (U4 _ _).mono ?_;rintro e w' ⟨rfl,rfl⟩) | (go_at_call 139;refine (TA _ _ _).mono ?_;rintro e w' ⟨rfl,rfl⟩) | (go_at_call 260;refine (PN _ _).mono ?_;rintro e w' ⟨rfl,rfl⟩) | (go_at_call 261;refine (JW (uh Hc) _).mono ?_;rintro e w' ⟨rfl,rfl⟩) | (go_at_call 262;refine (Mn _ _).mono ?_;rintro e w' ⟨rfl,rfl⟩))
  go_ret
  first | exact ⟨rfl,uh Hb⟩ | exact ⟨rfl,(ba _ _)⟩
attribute [local go_sem ↓] Ks O4
theorem Jw (w:World):Calls Tryz.prog 163 #[.agg E11] w fun e w'=>e= .returned (.iface 212 (.agg #[]))/\Below w.heap.size w w':=by
 have hz:To (0,0,0,0,0,0,0,0,0,0,0) (0,0,0,0,0,0,0,0,0,0,0)=true:=rfl;go_enter Tryz.func163,Tryz.ntmps163;go_wp2_with fail;go_ret;exact ⟨rfl,(ba _ _)⟩
theorem Jy {st be rk my gu lo hi hd ca ut wk:Int} (hg:U1 (st,be,rk,my,gu,lo,hi,hd,ca,ut,wk)=false) (hp:YY (st,be,rk,my,gu,lo,hi,hd,ca,ut,wk)=true) (w:World):Calls Tryz.prog 163 #[.agg (I11 st be rk my gu lo hi hd ca ut wk)] w fun e w'=>e= .returned (.iface 214 (.agg (I11 st be rk my gu lo hi hd ca ut wk)))/\Below w.heap.size w w':=by
 have hz:To (st,be,rk,my,gu,lo,hi,hd,ca,ut,wk) (0,0,0,0,0,0,0,0,0,0,0)=false:=hg;have Hp:=Z9 hp;clear hg hp;go_enter Tryz.func163,Tryz.ntmps163;go_wp2_with fail;refine (Qq st be rk my gu lo hi hd ca ut wk _).mono ?_;rw [uh Hp];rintro e w1 ⟨rfl,hb⟩;have c0:w1.cell? ⟨w.heap.size,0,none⟩=some (.int .i64 st):=(hb.cell (p:=⟨w.heap.size,0,none⟩) (by simp)).trans (Ze _ rfl);have c1:w1.cell? ⟨w.heap.size,1,none⟩=some (.int .i64 be):=(hb.cell (p:=⟨w.heap.size,1,none⟩) (by simp)).trans (Ze _ rfl);have c2:w1.cell? ⟨w.heap.size,2,none⟩=some (.int .i64 rk):=(hb.cell (p:=⟨w.heap.size,2,none⟩) (by simp)).trans (Ze _ rfl);have c3:w1.cell? ⟨w.heap.size,3,none⟩=some (.int .i64 my):=(hb.cell (p:=⟨w.heap.size,3,none⟩) (by simp)).trans (Ze _ rfl);have c4:w1.cell? ⟨w.heap.size,4,none⟩=some (.int .i64 gu):=(hb.cell (p:=⟨w.heap.size,4,none⟩) (by simp)).trans (Ze _ rfl);have c5:w1.cell? ⟨w.heap.size,5,none⟩=some (.int .i64 lo):=(hb.cell (p:=⟨w.heap.size,5,none⟩) (by simp)).trans (Ze _ rfl);have c6:w1.cell? ⟨w.heap.size,6,none⟩=some (.int .i64 hi):=(hb.cell (p:=⟨w.heap.size,6,none⟩) (by simp)).trans (Ze _ rfl);have c7:w1.cell? ⟨w.heap.size,7,none⟩=some (.int .i64 hd):=(hb.cell (p:=⟨w.heap.size,7,none⟩) (by simp)).trans (Ze _ rfl);have c8:w1.cell? ⟨w.heap.size,8,none⟩=some (.int .i64 ca):=(hb.cell (p:=⟨w.heap.size,8,none⟩) (by simp)).trans (Ze _ rfl);have c9:w1.cell? ⟨w.heap.size,9,none⟩=some (.int .i64 ut):=(hb.cell (p:=⟨w.heap.size,9,none⟩) (by simp)).trans (Ze _ rfl);have c10:w1.cell? ⟨w.heap.size,10,none⟩=some (.int .i64 wk):=(hb.cell (p:=⟨w.heap.size,10,none⟩) (by simp)).trans (Ze _ rfl);have Hb:=Z9 (((Z1 w.heap.size w).alloc (Z2 _) _).trans (hb.mono (by simp)));clear hb;go_wp2_with fail;go_ret;exact ⟨rfl,uh Hb⟩
theorem Lj {st be rk my gu lo hi hd ca ut wk:Int} (hg:U1 (st,be,rk,my,gu,lo,hi,hd,ca,ut,wk)=false) (hp:YY (st,be,rk,my,gu,lo,hi,hd,ca,ut,wk)=false) (w:World):Calls Tryz.prog 163 #[.agg (I11 st be rk my gu lo hi hd ca ut wk)] w fun e w'=>e= .returned (.iface 215 (.agg #[]))/\Below w.heap.size w w':=by
 have hz:To (st,be,rk,my,gu,lo,hi,hd,ca,ut,wk) (0,0,0,0,0,0,0,0,0,0,0)=false:=hg;have Hp:=Z9 hp;clear hg hp;go_enter Tryz.func163,Tryz.ntmps163;go_wp2_with fail;refine (Qq st be rk my gu lo hi hd ca ut wk _).mono ?_;rw [uh Hp];rintro e w1 ⟨rfl,hb⟩;have Hb:=Z9 (((Z1 w.heap.size w).alloc (Z2 _) _).trans (hb.mono (by simp)));clear hb;go_wp2_with fail;go_ret;exact ⟨rfl,uh Hb⟩
theorem yd (w : World) : (method 428 212 (.agg #[]) "loop.example/g00553/impl.isSmith").run Tryz.prog w = .ok (359, .agg #[]) w := by kernel_rfl
theorem zb (w : World) : (method 428 215 (.agg #[]) "loop.example/g00553/impl.isSmith").run Tryz.prog w = .ok (361, .agg #[]) w := by kernel_rfl
theorem ye (st be rk my gu lo hi hd ca ut wk : Int) (w : World) : (method 428 214 (.agg (I11 st be rk my gu lo hi hd ca ut wk)) "loop.example/g00553/impl.isSmith").run Tryz.prog w = .ok (360, .agg (I11 st be rk my gu lo hi hd ca ut wk)) w := by kernel_rfl
theorem Ed (w:World):Calls Tryz.prog 359 #[.agg #[]] w fun e w'=>e= .returned (.bool true)/\Below w.heap.size w w':=by
 go_enter Tryz.func359,Tryz.ntmps359;go_wp2_with fail;go_ret;exact ⟨rfl,(ba _ _)⟩
theorem IJ (w:World):Calls Tryz.prog 361 #[.agg #[]] w fun e w'=>e= .returned (.bool false)/\Below w.heap.size w w':=by
 go_enter Tryz.func361,Tryz.ntmps361;go_wp2_with fail;go_ret;exact ⟨rfl,(ba _ _)⟩
theorem EO (st be rk my gu lo hi hd ca ut wk:Int) (w:World):Calls Tryz.prog 360 #[.agg (I11 st be rk my gu lo hi hd ca ut wk)] w fun e w'=>e= .returned (.bool true)/\Below w.heap.size w w':=by
 go_enter Tryz.func360,Tryz.ntmps360;go_wp2_with fail;go_ret;exact ⟨rfl,(ba _ _)⟩
attribute [local go_sem] yd zb ye
theorem NI (st be rk my gu lo hi hd ca ut wk:Int) (w:World):Calls Tryz.prog 96 #[.agg (I11 st be rk my gu lo hi hd ca ut wk)] w fun e w'=>e= .returned (.bool (Zs (st,be,rk,my,gu,lo,hi,hd,ca,ut,wk)))/\Below w.heap.size w w':=by
 unfold Zs;cases hg:U1 (st,be,rk,my,gu,lo,hi,hd,ca,ut,wk)
 ·cases hp:YY (st,be,rk,my,gu,lo,hi,hd,ca,ut,wk)
  ·rw [show (false || false)=false from rfl]
   have Hg:=Z9 hg;have Hp:=Z9 hp;clear hg hp;go_enter Tryz.func96,Tryz.ntmps96;go_wp2_with fail;refine ck (Lj (uh Hg) (uh Hp) _) fun w1 hb=> ?_;have B1:=Z9 (((Z1 w.heap.size w).alloc (Z2 _) _).trans (hb.mono (by simp)));clear hb;go_wp2_with fail;refine ck (IJ _) fun w2 hb=> ?_;have B2:=Z9 ((uh B1).trans (hb.mono (uh B1).size));clear hb;go_wp2_with fail;go_ret;exact ⟨rfl,uh B2⟩
  ·rw [show (false || true)=true from rfl]
   have Hg:=Z9 hg;have Hp:=Z9 hp;clear hg hp;go_enter Tryz.func96,Tryz.ntmps96;go_wp2_with fail;refine ck (Jy (uh Hg) (uh Hp) _) fun w1 hb=> ?_;have B1:=Z9 (((Z1 w.heap.size w).alloc (Z2 _) _).trans (hb.mono (by simp)));clear hb;go_wp2_with fail;refine ck (EO _ _ _ _ _ _ _ _ _ _ _ _) fun w2 hb=> ?_;have B2:=Z9 ((uh B1).trans (hb.mono (uh B1).size));clear hb;go_wp2_with fail;go_ret;exact ⟨rfl,uh B2⟩
 ·rw [Bool.true_or]
  cases U2 hg;clear hg;go_enter Tryz.func96,Tryz.ntmps96;go_wp2_with fail;refine ck (Jw _) fun w1 hb=> ?_;have B1:=Z9 (((Z1 w.heap.size w).alloc (Z2 _) _).trans (hb.mono (by simp)));clear hb;go_wp2_with fail;refine ck (Ed _) fun w2 hb=> ?_;have B2:=Z9 ((uh B1).trans (hb.mono (uh B1).size));clear hb;go_wp2_with fail;go_ret;exact ⟨rfl,uh B2⟩
end Go.Proofs.YtamgfpdahadnfaaGreatDoor
namespace Go.Proofs.YtamgfpdahadnfaaGreatDoor
open Go.ChangeShapes Go.WideShapes Go.ChangeAt Go.RowKit Go.Sort Go.Deep
set_option linter.unusedVariables false
set_option linter.unusedSimpArgs false
theorem PR {a b c n l:Int} (h:Wl a b c=true) (hn:SJ a b c=n) (hl:SI a b c=l) (w:World):Calls Tryz.prog 301 #[.int .i64 a,.int .i64 b,.int .i64 c] w fun e w'=>e= .returned (.tuple #[.int .i64 n,.int .i64 l])/\ ∃ m,w'=w.drewN m:=by
 obtain ⟨h1,h2⟩:=Kq h;rw [<-hn,<-hl,h1,h2];clear h1 h2 hn hl;obtain ⟨a0,a1,b0,b1,c0,c1⟩:=EI h;have ha:inB a 0 1000000000=true:=Zp a0 a1;have hb:inB b 1 100000=true:=Zp b0 b1;have hc:inB c 0 (b-1)=true:=Zp c0 (by omega);go_enter Tryz.func301,Tryz.ntmps301;go_wp2_with (first | (go_at_call 309;refine (Te _ _).mono ?_;rintro e w' ⟨rfl,rfl⟩) | (go_at_call 59;refine (ZU _ _ _ _).mono ?_;rintro e w' ⟨rfl,rfl⟩))
 go_quiet (fail);go_wp2_with fail
 go_ret2
 exact ⟨rfl,_,rfl⟩
theorem Fd (work:Int) (w:World):Calls Tryz.prog 279 #[.agg E11,.int .i64 work] w fun e w'=>e= .returned (.tuple #[.agg E11,.bool false])/\Below w.heap.size w w':=by
 have Hs:Hid (Zs (0,0,0,0,0,0,0,0,0,0,0)=true):=Z9 rfl;go_enter Tryz.func279,Tryz.ntmps279;go_wp2_with fail;refine (Zm 0 0 0 0 0 0 0 0 0 0 0 _).mono ?_;rw [uh Hs];rintro e w1 ⟨rfl,hb⟩;have kb:Blk w1 w.heap.size 40 E11:=((Blk.new w 40 E11).alloc _).below hb (by simp;omega)
 have ko:Blk w1 (w.heap.size+1) 40 E11:=by
  have k:=Blk.new (w.alloc (.cells E11 40)) 40 E11;rw [Y8] at k;exact k.below hb (by simp)
 have hsz:w.heap.size+2<=w1.heap.size:=by have:=hb.size;simp at this;omega
 have hl0:w.heap.size<w1.heap.size:=by omega
 have hl1:w.heap.size+1<w1.heap.size:=by omega
 have B1:=Z9 ((((Z1 w.heap.size w).alloc (Z2 _) _).alloc (by simp) _).trans (hb.mono (by simp;omega)));have Kb:=Z9 kb;have Ko:=Z9 ko;obtain ⟨c0,c1,c2,c3,c4,c5,c6,c7,c8,c9,c10⟩:=kb.c11;obtain ⟨o0,o1,o2,o3,o4,o5,o6,o7,o8,o9,o10⟩:=ko.c11;obtain ⟨of0,of1,of2,of3,of4,of5,of6,of7,of8,of9,of10⟩:=ko.f11;clear hb kb ko;go_wp2_with fail;refine ZQ (v:= .tuple #[.agg E11,.bool false]) (by simp [results,Tryz.results279,go_sem,o0,o1,o2,o3,o4,o5,o6,o7,o8,o9,o10]) rfl ⟨rfl,?_⟩
 iterate 11 (refine YF ?_ (by simp) _)
 exact uh B1
theorem In {st be rk my gu lo hi hd ca ut wk:Int} (work:Int) (w:World) (hs:Zs (st,be,rk,my,gu,lo,hi,hd,ca,ut,wk)=false):Calls Tryz.prog 279 #[.agg (I11 st be rk my gu lo hi hd ca ut wk),.int .i64 work] w fun e w'=>e= .returned (.tuple #[.agg E11,.bool false])/\Below w.heap.size w w':=by
 have Hs:=Z9 hs;clear hs;go_enter Tryz.func279,Tryz.ntmps279;go_wp2_with fail;refine (Zm st be rk my gu lo hi hd ca ut wk _).mono ?_;rw [uh Hs];rintro e w1 ⟨rfl,hb⟩;have kb:Blk w1 w.heap.size 40 (I11 st be rk my gu lo hi hd ca ut wk):=((Blk.new w 40 (I11 st be rk my gu lo hi hd ca ut wk)).alloc _).below hb (by simp;omega)
 have ko:Blk w1 (w.heap.size+1) 40 E11:=by
  have k:=Blk.new (w.alloc (.cells (I11 st be rk my gu lo hi hd ca ut wk) 40)) 40 E11;rw [Y8] at k;exact k.below hb (by simp)
 have hsz:w.heap.size+2<=w1.heap.size:=by have:=hb.size;simp at this;omega
 have hl0:w.heap.size<w1.heap.size:=by omega
 have hl1:w.heap.size+1<w1.heap.size:=by omega
 have B1:=Z9 ((((Z1 w.heap.size w).alloc (Z2 _) _).alloc (by simp) _).trans (hb.mono (by simp;omega)));have Kb:=Z9 kb;have Ko:=Z9 ko;obtain ⟨c0,c1,c2,c3,c4,c5,c6,c7,c8,c9,c10⟩:=kb.c11;obtain ⟨o0,o1,o2,o3,o4,o5,o6,o7,o8,o9,o10⟩:=ko.c11;obtain ⟨of0,of1,of2,of3,of4,of5,of6,of7,of8,of9,of10⟩:=ko.f11;clear hb kb ko;go_wp2_with fail;refine ZQ (v:= .tuple #[.agg E11,.bool false]) (by simp [results,Tryz.results279,go_sem,o0,o1,o2,o3,o4,o5,o6,o7,o8,o9,o10]) rfl ⟨rfl,?_⟩
 iterate 11 (refine YF ?_ (by simp) _)
 exact uh B1
theorem A5 {st be rk my gu lo hi hd ca ut wk:Int} (work:Int) (w:World) (hs:Zs (st,be,rk,my,gu,lo,hi,hd,ca,ut,wk)=true) (hst:(st ==0)=false) (hw:inB work 0 100000=false):Calls Tryz.prog 279 #[.agg (I11 st be rk my gu lo hi hd ca ut wk),.int .i64 work] w fun e w'=>e= .returned (.tuple #[.agg (I11 st be rk my gu lo hi hd ca ut wk),.bool false])/\Below w.heap.size w w':=by
 have Hs:=Z9 hs;clear hs;go_enter Tryz.func279,Tryz.ntmps279;go_wp2_with fail;refine (Zm st be rk my gu lo hi hd ca ut wk _).mono ?_;rw [uh Hs];rintro e w1 ⟨rfl,hb⟩;have kb:Blk w1 w.heap.size 40 (I11 st be rk my gu lo hi hd ca ut wk):=((Blk.new w 40 (I11 st be rk my gu lo hi hd ca ut wk)).alloc _).below hb (by simp;omega)
 have ko:Blk w1 (w.heap.size+1) 40 E11:=by
  have k:=Blk.new (w.alloc (.cells (I11 st be rk my gu lo hi hd ca ut wk) 40)) 40 E11;rw [Y8] at k;exact k.below hb (by simp)
 have hsz:w.heap.size+2<=w1.heap.size:=by have:=hb.size;simp at this;omega
 have hl0:w.heap.size<w1.heap.size:=by omega
 have hl1:w.heap.size+1<w1.heap.size:=by omega
 have B1:=Z9 ((((Z1 w.heap.size w).alloc (Z2 _) _).alloc (by simp) _).trans (hb.mono (by simp;omega)));have Kb:=Z9 kb;have Ko:=Z9 ko;obtain ⟨c0,c1,c2,c3,c4,c5,c6,c7,c8,c9,c10⟩:=kb.c11;obtain ⟨o0,o1,o2,o3,o4,o5,o6,o7,o8,o9,o10⟩:=ko.c11;obtain ⟨of0,of1,of2,of3,of4,of5,of6,of7,of8,of9,of10⟩:=ko.f11;clear hb kb ko;go_wp2_with (go_at_call 59;refine (ZU _ _ _ _).mono ?_;rintro e w' ⟨rfl,h9⟩;subst w')
 refine ZQ (v:= .tuple #[.agg (I11 st be rk my gu lo hi hd ca ut wk),.bool false]) (by simp [results,Tryz.results279,go_sem,o0,o1,o2,o3,o4,o5,o6,o7,o8,o9,o10]) rfl ⟨rfl,?_⟩
 iterate 11 (refine YF ?_ (by simp) _)
 exact uh B1
theorem CE {st be rk my gu lo hi hd ca ut wk:Int} {work x n l:Int} {w:World} (hx:Zh rk=x) (hok:Wl work x ca=true) (hn:SJ work x ca=n) (hl:SI work x ca=l) (n0:0<=n) (n1:n<=400000)
  (d0 : -1000000000000<=hd) (d1:hd<=1000000000000) (k0:0<=wk) (k1:wk<=100000000000) (v0:0<=work) (v1:work<=100000) (hs:Zs (st,be,rk,my,gu,lo,hi,hd,ca,ut,wk)=true) (hst:(st ==0)=false) (h2:Zs (st,be,rk,my,gu,lo,hi,(hd+n),l,ut,(wk+work))=true):Calls Tryz.prog 279 #[.agg (I11 st be rk my gu lo hi hd ca ut wk),.int .i64 work] w fun e w'=>e= .returned (.tuple #[.agg (I11 st be rk my gu lo hi (hd+n) l ut (wk+work)),.bool true])/\Below w.heap.size w w':=by
 have Hs:=Z9 hs;have H2:=Z9 h2;have Hx:=Z9 hx;have Hok:=Z9 hok;have Hn:=Z9 hn;have Hl:=Z9 hl;have hw:inB work 0 100000=true:=Zp v0 v1;clear hx hok hn hl hs h2;go_enter Tryz.func279,Tryz.ntmps279;go_wp2_with fail;refine (Zm st be rk my gu lo hi hd ca ut wk _).mono ?_;rw [uh Hs];rintro e w1 ⟨rfl,hb⟩;have kb:Blk w1 w.heap.size 40 (I11 st be rk my gu lo hi hd ca ut wk):=((Blk.new w 40 (I11 st be rk my gu lo hi hd ca ut wk)).alloc _).below hb (by simp;omega)
 have ko:Blk w1 (w.heap.size+1) 40 E11:=by
  have k:=Blk.new (w.alloc (.cells (I11 st be rk my gu lo hi hd ca ut wk) 40)) 40 E11;rw [Y8] at k;exact k.below hb (by simp)
 have hsz:w.heap.size+2<=w1.heap.size:=by have:=hb.size;simp at this;omega
 have hl0:w.heap.size<w1.heap.size:=by omega
 have hl1:w.heap.size+1<w1.heap.size:=by omega
 have B1:=Z9 ((((Z1 w.heap.size w).alloc (Z2 _) _).alloc (by simp) _).trans (hb.mono (by simp;omega)));have Kb:=Z9 kb;have Ko:=Z9 ko;obtain ⟨c0,c1,c2,c3,c4,c5,c6,c7,c8,c9,c10⟩:=kb.c11;obtain ⟨o0,o1,o2,o3,o4,o5,o6,o7,o8,o9,o10⟩:=ko.c11;obtain ⟨of0,of1,of2,of3,of4,of5,of6,of7,of8,of9,of10⟩:=ko.f11;clear hb kb ko;go_wp2_with (go_at_call 59;refine (ZU _ _ _ _).mono ?_;rintro e w' ⟨rfl,h9⟩;subst w')
 go_quiet (first | exact Yf (Yw (uh Hx) _) | exact Calls.quiet_of (PR (uh Hok) (uh Hn) (uh Hl) _));have kb:Blk (w1.drewN nq) w.heap.size 40 (I11 st be rk my gu lo hi hd ca ut wk):=uh Kb;have ko:Blk (w1.drewN nq) (w.heap.size+1) 40 E11:=uh Ko;have b1:=Yl (uh B1) nq;clear c0 o0 of0 c1 o1 of1 c2 o2 of2 c3 o3 of3 c4 o4 of4 c5 o5 of5 c6 o6 of6 c7 o7 of7 c8 o8 of8 c9 o9 of9 c10 o10 of10 Kb Ko B1 hl0 hl1;rw [show w1.heap.size=(w1.drewN nq).heap.size from rfl] at hsz;generalize w1.drewN nq=W1 at *;have hl0:w.heap.size<W1.heap.size:=by omega
 have hl1:w.heap.size+1<W1.heap.size:=by omega
 have Kb:=Z9 kb;have Ko:=Z9 ko;have B1:=Z9 b1;obtain ⟨c0,c1,c2,c3,c4,c5,c6,c7,c8,c9,c10⟩:=kb.c11;obtain ⟨o0,o1,o2,o3,o4,o5,o6,o7,o8,o9,o10⟩:=ko.c11;obtain ⟨of0,of1,of2,of3,of4,of5,of6,of7,of8,of9,of10⟩:=ko.f11;clear kb ko b1;go_wp2_with fail;refine (Zm st be rk my gu lo hi (hd+n) l ut (wk+work) _).mono ?_;rw [uh H2];rintro e w2 ⟨rfl,hb⟩;have kb:Blk w2 w.heap.size 40 (I11 st be rk my gu lo hi hd ca ut wk):=(hb.block w.heap.size (by simp;omega)).trans ((uh Kb).alloc (.cells (I11 st be rk my gu lo hi (hd+n) l ut (wk+work)) 40));have ko:Blk w2 (w.heap.size+1) 40 E11:=(hb.block (w.heap.size+1) (by simp;omega)).trans ((uh Ko).alloc (.cells (I11 st be rk my gu lo hi (hd+n) l ut (wk+work)) 40));have kn:Blk w2 W1.heap.size 40 (I11 st be rk my gu lo hi (hd+n) l ut (wk+work)):=(hb.block W1.heap.size (by simp)).trans (Blk.new W1 40 (I11 st be rk my gu lo hi (hd+n) l ut (wk+work)));have B2:Hid (Below w.heap.size w w2):=Z9 (((uh B1).alloc (by omega) (.cells (I11 st be rk my gu lo hi (hd+n) l ut (wk+work)) 40)).trans (hb.mono (by simp;omega)));clear c0 o0 of0 c1 o1 of1 c2 o2 of2 c3 o3 of3 c4 o4 of4 c5 o5 of5 c6 o6 of6 c7 o7 of7 c8 o8 of8 c9 o9 of9 c10 o10 of10 Kb Ko;obtain ⟨p0,p1,p2,p3,p4,p5,p6,p7,p8,p9,p10⟩:=kn.c11;obtain ⟨o0,o1,o2,o3,o4,o5,o6,o7,o8,o9,o10⟩:=ko.c11;obtain ⟨of0,of1,of2,of3,of4,of5,of6,of7,of8,of9,of10⟩:=ko.f11;clear hb kb ko kn;go_wp2_with fail;refine ZQ (v:= .tuple #[.agg (I11 st be rk my gu lo hi (hd+n) l ut (wk+work)),.bool true]) (by simp [results,Tryz.results279,go_sem,o0,o1,o2,o3,o4,o5,o6,o7,o8,o9,o10]) rfl ⟨rfl,?_⟩
 iterate 11 (refine YF ?_ (by simp) _)
 exact uh B2
theorem Fe {st be rk my gu lo hi hd ca ut wk:Int} {work x n l:Int} {w:World} (hx:Zh rk=x) (hok:Wl work x ca=true) (hn:SJ work x ca=n) (hl:SI work x ca=l) (n0:0<=n) (n1:n<=400000)
  (d0 : -1000000000000<=hd) (d1:hd<=1000000000000) (k0:0<=wk) (k1:wk<=100000000000) (v0:0<=work) (v1:work<=100000) (hs:Zs (st,be,rk,my,gu,lo,hi,hd,ca,ut,wk)=true) (hst:(st ==0)=false) (h2:Zs (st,be,rk,my,gu,lo,hi,(hd+n),l,ut,(wk+work))=false):Calls Tryz.prog 279 #[.agg (I11 st be rk my gu lo hi hd ca ut wk),.int .i64 work] w fun e w'=>e= .returned (.tuple #[.agg (I11 st be rk my gu lo hi hd ca ut wk),.bool false])/\Below w.heap.size w w':=by
 have Hs:=Z9 hs;have H2:=Z9 h2;have Hx:=Z9 hx;have Hok:=Z9 hok;have Hn:=Z9 hn;have Hl:=Z9 hl;have hw:inB work 0 100000=true:=Zp v0 v1;clear hx hok hn hl hs h2;go_enter Tryz.func279,Tryz.ntmps279;go_wp2_with fail;refine (Zm st be rk my gu lo hi hd ca ut wk _).mono ?_;rw [uh Hs];rintro e w1 ⟨rfl,hb⟩;have kb:Blk w1 w.heap.size 40 (I11 st be rk my gu lo hi hd ca ut wk):=((Blk.new w 40 (I11 st be rk my gu lo hi hd ca ut wk)).alloc _).below hb (by simp;omega)
 have ko:Blk w1 (w.heap.size+1) 40 E11:=by
  have k:=Blk.new (w.alloc (.cells (I11 st be rk my gu lo hi hd ca ut wk) 40)) 40 E11;rw [Y8] at k;exact k.below hb (by simp)
 have hsz:w.heap.size+2<=w1.heap.size:=by have:=hb.size;simp at this;omega
 have hl0:w.heap.size<w1.heap.size:=by omega
 have hl1:w.heap.size+1<w1.heap.size:=by omega
 have B1:=Z9 ((((Z1 w.heap.size w).alloc (Z2 _) _).alloc (by simp) _).trans (hb.mono (by simp;omega)));have Kb:=Z9 kb;have Ko:=Z9 ko;obtain ⟨c0,c1,c2,c3,c4,c5,c6,c7,c8,c9,c10⟩:=kb.c11;obtain ⟨o0,o1,o2,o3,o4,o5,o6,o7,o8,o9,o10⟩:=ko.c11;obtain ⟨of0,of1,of2,of3,of4,of5,of6,of7,of8,of9,of10⟩:=ko.f11;clear hb kb ko;go_wp2_with (go_at_call 59;refine (ZU _ _ _ _).mono ?_;rintro e w' ⟨rfl,h9⟩;subst w')
 go_quiet (first | exact Yf (Yw (uh Hx) _) | exact Calls.quiet_of (PR (uh Hok) (uh Hn) (uh Hl) _));have kb:Blk (w1.drewN nq) w.heap.size 40 (I11 st be rk my gu lo hi hd ca ut wk):=uh Kb;have ko:Blk (w1.drewN nq) (w.heap.size+1) 40 E11:=uh Ko;have b1:=Yl (uh B1) nq;clear c0 o0 of0 c1 o1 of1 c2 o2 of2 c3 o3 of3 c4 o4 of4 c5 o5 of5 c6 o6 of6 c7 o7 of7 c8 o8 of8 c9 o9 of9 c10 o10 of10 Kb Ko B1 hl0 hl1;rw [show w1.heap.size=(w1.drewN nq).heap.size from rfl] at hsz;generalize w1.drewN nq=W1 at *;have hl0:w.heap.size<W1.heap.size:=by omega
 have hl1:w.heap.size+1<W1.heap.size:=by omega
 have Kb:=Z9 kb;have Ko:=Z9 ko;have B1:=Z9 b1;obtain ⟨c0,c1,c2,c3,c4,c5,c6,c7,c8,c9,c10⟩:=kb.c11;obtain ⟨o0,o1,o2,o3,o4,o5,o6,o7,o8,o9,o10⟩:=ko.c11;obtain ⟨of0,of1,of2,of3,of4,of5,of6,of7,of8,of9,of10⟩:=ko.f11;clear kb ko b1;go_wp2_with fail;refine (Zm st be rk my gu lo hi (hd+n) l ut (wk+work) _).mono ?_;rw [uh H2];rintro e w2 ⟨rfl,hb⟩;have kb:Blk w2 w.heap.size 40 (I11 st be rk my gu lo hi hd ca ut wk):=(hb.block w.heap.size (by simp;omega)).trans ((uh Kb).alloc (.cells (I11 st be rk my gu lo hi (hd+n) l ut (wk+work)) 40));have ko:Blk w2 (w.heap.size+1) 40 E11:=(hb.block (w.heap.size+1) (by simp;omega)).trans ((uh Ko).alloc (.cells (I11 st be rk my gu lo hi (hd+n) l ut (wk+work)) 40));have kn:Blk w2 W1.heap.size 40 (I11 st be rk my gu lo hi (hd+n) l ut (wk+work)):=(hb.block W1.heap.size (by simp)).trans (Blk.new W1 40 (I11 st be rk my gu lo hi (hd+n) l ut (wk+work)));have B2:Hid (Below w.heap.size w w2):=Z9 (((uh B1).alloc (by omega) (.cells (I11 st be rk my gu lo hi (hd+n) l ut (wk+work)) 40)).trans (hb.mono (by simp;omega)));clear c0 o0 of0 c1 o1 of1 c2 o2 of2 c3 o3 of3 c4 o4 of4 c5 o5 of5 c6 o6 of6 c7 o7 of7 c8 o8 of8 c9 o9 of9 c10 o10 of10 Kb Ko;obtain ⟨p0,p1,p2,p3,p4,p5,p6,p7,p8,p9,p10⟩:=kb.c11;obtain ⟨o0,o1,o2,o3,o4,o5,o6,o7,o8,o9,o10⟩:=ko.c11;obtain ⟨of0,of1,of2,of3,of4,of5,of6,of7,of8,of9,of10⟩:=ko.f11;clear hb kb ko kn;go_wp2_with fail;refine ZQ (v:= .tuple #[.agg (I11 st be rk my gu lo hi hd ca ut wk),.bool false]) (by simp [results,Tryz.results279,go_sem,o0,o1,o2,o3,o4,o5,o6,o7,o8,o9,o10]) rfl ⟨rfl,?_⟩
 iterate 11 (refine YF ?_ (by simp) _)
 exact uh B2
theorem SL {x:Z3} (h:YY x=true):Zs x=true:=by unfold Zs;rw [h,Bool.or_true]
theorem MS {x:Z3} (h:x.1 ≠ 0):Zs x=YY x:=by unfold Zs;rw [Rk h,Bool.false_or]
theorem LC {x:Z3} (work:Int) (hg:U1 x=true):WO x work=(Uv,false):=by
 have e:=U2 hg;subst e;rfl
theorem Nz {x:Z3} (work:Int) (hg:U1 x=false) (hp:YY x=false):WO x work=(Uv,false):=by unfold WO;rw [hp,hg];rfl
theorem I3 {x:Z3} {work:Int} (hp:YY x=true) (hw:inB work 0 100000=false):WO x work=(x,false):=by unfold WO;rw [hp,hw];rfl
theorem Po {x:Z3} {work:Int} {q:Bool} (hp:YY x=true) (hw:inB work 0 100000=true) (hq:YY (MH x work)=q):WO x work=(if q then MH x work else x,q):=by unfold WO;rw [hp,hw,hq];cases q<;>rfl
theorem Fg {st:Int} (h:1<=st):(st ==0)=false:=by simp;omega
theorem Lm {x y:Z3} {work:Int} {q:Bool} (h:WO x work=(y,q)) (w:World):Calls Tryz.prog 279 #[.agg (ZV x).toArray,.int .i64 work] w fun e w'=>e= .returned (.tuple #[.agg (ZV y).toArray,.bool q])/\Below w.heap.size w w':=by
 obtain ⟨st,be,rk,my,gu,lo,hi,hd,ca,ut,wk⟩:=x;cases hg:U1 (st,be,rk,my,gu,lo,hi,hd,ca,ut,wk)
 ·cases hp:YY (st,be,rk,my,gu,lo,hi,hd,ca,ut,wk)
  ·rw [Nz work hg hp] at h
   obtain ⟨rfl,rfl⟩:=Prod.mk.inj h;exact In work w (by unfold Zs;rw [hg,hp];rfl)
  ·cases hw:inB work 0 100000
   ·rw [I3 hp hw] at h
    obtain ⟨rfl,rfl⟩:=Prod.mk.inj h;exact A5 work w (SL hp) (Fg (Zj hp).1.1) hw
   ·obtain ⟨v0,v1⟩:=ZJ hw
    obtain ⟨⟨s0,s1⟩,_,hr,_,_,_,⟨d0,d1⟩,⟨a0,a1⟩,_,⟨k0,k1⟩⟩:=Zj hp;have hr0:=Vw hr;have hr1:=(Tx rk).2;have a2:ca<=3125:=by omega
    obtain ⟨hok,n0,n1,_,_,_⟩:=AZ v0 v1 hr0 hr1 a0 a1;cases hq:YY (MH (st,be,rk,my,gu,lo,hi,hd,ca,ut,wk) work)
    ·rw [Po hp hw hq] at h
     obtain ⟨rfl,rfl⟩:=Prod.mk.inj h;exact Fe rfl hok rfl rfl n0 n1 d0 d1 k0 k1 v0 v1 (SL hp) (Fg s0) ((MS (x:=MH (st,be,rk,my,gu,lo,hi,hd,ca,ut,wk) work) (show st ≠ 0 by omega)).trans hq)
    ·rw [Po hp hw hq] at h
     obtain ⟨rfl,rfl⟩:=Prod.mk.inj h;exact CE rfl hok rfl rfl n0 n1 d0 d1 k0 k1 v0 v1 (SL hp) (Fg s0) ((MS (x:=MH (st,be,rk,my,gu,lo,hi,hd,ca,ut,wk) work) (show st ≠ 0 by omega)).trans hq)
 ·rw [LC work hg] at h
  obtain ⟨rfl,rfl⟩:=Prod.mk.inj h;cases U2 hg;exact Fd work w
end Go.Proofs.YtamgfpdahadnfaaGreatDoor
