/- Part 12 of what the proof rests on. No condition but those that a theorem names. -/
import Derived.Test.YtgdpaigcmoifbaaGreatDoorXr02
import Derived.Test.YtgdpaigcmoifbaaGreatDoorXr09
import Derived.Test.YtgdpaigcmoifbaaGreatDoorXr10
import Derived.Test.YtgdpaigcmoifbaaGreatDoorXr11
set_option maxHeartbeats 8000000
set_option maxRecDepth 100000
namespace Go.Proofs.YtgdpaigcmoifbaaGreatDoor
open Go.ChangeShapes Go.WideShapes Go.ChangeAt Go.RowKit Go.Sort
set_option linter.unusedVariables false
def Xe (x:ZZ):Bool:=
 inB x.1 1 3 && (inB x.2.1 0 7 && (inB x.2.2.1 (-5) 5 && (inB x.2.2.2.1 1 255 && (inB x.2.2.2.2.1 (-1) 5 && (Yq x.2.2.2.2.2.1 x.2.2.2.2.2.2.1 && (inB x.2.2.2.2.2.2.2.1 (-1000000000000) 1000000000000 &&
  (inB x.2.2.2.2.2.2.2.2.1 0 (YM x.2.2.1-1) && (inB x.2.2.2.2.2.2.2.2.2.1 0 1024 && inB x.2.2.2.2.2.2.2.2.2.2 0 100000000000))))))))
def TF:ZZ:=(0,0,0,0,0,0,0,0,0,0,0)
def UG (x y:ZZ):Bool:=x.1 ==y.1 && (x.2.1 ==y.2.1 && (x.2.2.1 ==y.2.2.1 && (x.2.2.2.1 ==y.2.2.2.1 && (x.2.2.2.2.1 ==y.2.2.2.2.1 && (x.2.2.2.2.2.1 ==y.2.2.2.2.2.1 && (x.2.2.2.2.2.2.1 ==y.2.2.2.2.2.2.1 && (x.2.2.2.2.2.2.2.1 ==y.2.2.2.2.2.2.2.1 && (x.2.2.2.2.2.2.2.2.1 ==y.2.2.2.2.2.2.2.2.1 && (x.2.2.2.2.2.2.2.2.2.1 ==y.2.2.2.2.2.2.2.2.2.1 && (x.2.2.2.2.2.2.2.2.2.2 ==y.2.2.2.2.2.2.2.2.2.2))))))))))
theorem IS (x:ZZ):UG x x=true:=by unfold UG;simp
theorem EE {x y:ZZ} (h:UG x y=true):x=y:=by
 obtain ⟨x0,x1,x2,x3,x4,x5,x6,x7,x8,x9,x10⟩:=x;obtain ⟨y0,y1,y2,y3,y4,y5,y6,y7,y8,y9,y10⟩:=y;unfold UG at h;simp only [ZJ,beq_iff_eq] at h;obtain ⟨rfl,rfl,rfl,rfl,rfl,rfl,rfl,rfl,rfl,rfl,rfl⟩:=h;rfl
def Rh (x:ZZ):Bool:=UG x TF
def Zi (x:ZZ):Bool:=Rh x || Xe x
theorem Gh (r:Int):0<=YM r/\YM r<=3125:=by
 cases h:inB r (-5) 5
 ·rw [VK h];omega
 ·rcases Db h with rfl | rfl | rfl | rfl | rfl | rfl | rfl | rfl | rfl | rfl | rfl<;>decide
theorem Xu {st be rk my gu lo hi hd ca ut wk:Int} (h:Xe (st,be,rk,my,gu,lo,hi,hd,ca,ut,wk)=true):(1<=st/\st<=3)/\(0<=be/\be<=7)/\inB rk (-5) 5=true/\(1<=my/\my<=255)/\(-1<=gu/\gu<=5)/\Yq lo hi=true/\(-1000000000000<=hd/\hd<=1000000000000)/\(0<=ca/\ca<=YM rk-1)/\(0<=ut/\ut<=1024)/\(0<=wk/\wk<=100000000000):=by
 unfold Xe at h;simp only [ZJ] at h;obtain ⟨h0,h1,h2,h3,h4,h5,h6,h7,h8,h9⟩:=h;exact ⟨ZO h0,ZO h1,h2,ZO h3,ZO h4,h5,ZO h6,ZO h7,ZO h8,ZO h9⟩
theorem Ri {x:ZZ} (h:Rh x=true):x=TF:=EE h
theorem Ia:Rh TF=true:=IS _
theorem Rj {x:ZZ} (h:x.1 ≠ 0):Rh x=false:=by
 cases hg:Rh x
 ·rfl
 ·exact absurd (show x.1=0 by rw [Ri hg];rfl) h
theorem Kw {x:ZZ} (h:x.1=0):Xe x=false:=by
 unfold Xe;rw [h];rfl
open Go.ChangeShapes Go.WideShapes Go.ChangeAt Go.RowKit Go.Sort Go.Proofs.Tryz
theorem Qq (x0 x1 x2 x3 x4 x5 x6 x7 x8 x9 x10 y0 y1 y2 y3 y4 y5 y6 y7 y8 y9 y10:Int) (w:World):(Op.equalIn 10000 59 (.agg (I11 x0 x1 x2 x3 x4 x5 x6 x7 x8 x9 x10)) (.agg (I11 y0 y1 y2 y3 y4 y5 y6 y7 y8 y9 y10))).run prog w= .ok (UG (x0,x1,x2,x3,x4,x5,x6,x7,x8,x9,x10) (y0,y1,y2,y3,y4,y5,y6,y7,y8,y9,y10)) w:=by
 have u:=underlying2;have a:=Tryz.isAgg2;have z:=Tryz.sizeOf2;have hS:prog.underlying 59=some (.struct (prog.fieldsOf 59)):=by kernel_rfl
 have hp:prog.stoodInHeld 59=false:=by kernel_rfl
 rw [show (10000:Nat)=9999+1 from rfl,run_equalIn_agg w 9999 59 _ _ hS hp];simp only [Program.fieldsOf,underlying59];go_simp;unfold UG;by_cases h0:x0=y0;rotate_left
 ·simp [h0]
 subst h0;by_cases h1:x1=y1;rotate_left
 ·simp [h1]
 subst h1;by_cases h2:x2=y2;rotate_left
 ·simp [h2]
 subst h2;by_cases h3:x3=y3;rotate_left
 ·simp [h3]
 subst h3;by_cases h4:x4=y4;rotate_left
 ·simp [h4]
 subst h4;by_cases h5:x5=y5;rotate_left
 ·simp [h5]
 subst h5;by_cases h6:x6=y6;rotate_left
 ·simp [h6]
 subst h6;by_cases h7:x7=y7;rotate_left
 ·simp [h7]
 subst h7;by_cases h8:x8=y8;rotate_left
 ·simp [h8]
 subst h8;by_cases h9:x9=y9;rotate_left
 ·simp [h9]
 subst h9;by_cases h10:x10=y10;rotate_left
 ·simp [h10]
 subst h10;simp
theorem Ng (x0 x1 x2 x3 x4 x5 x6 x7 x8 x9 x10 y0 y1 y2 y3 y4 y5 y6 y7 y8 y9 y10:Int) (w:World):(binOp .eql 59 (.agg (I11 x0 x1 x2 x3 x4 x5 x6 x7 x8 x9 x10)) (.agg (I11 y0 y1 y2 y3 y4 y5 y6 y7 y8 y9 y10))).run prog w= .ok (.bool (UG (x0,x1,x2,x3,x4,x5,x6,x7,x8,x9,x10) (y0,y1,y2,y3,y4,y5,y6,y7,y8,y9,y10))) w:=by
 rw [run_eql_struct,Qq];rfl
theorem Nh (x0 x1 x2 x3 x4 x5 x6 x7 x8 x9 x10 y0 y1 y2 y3 y4 y5 y6 y7 y8 y9 y10:Int) (w:World):(binOp .neq 59 (.agg (I11 x0 x1 x2 x3 x4 x5 x6 x7 x8 x9 x10)) (.agg (I11 y0 y1 y2 y3 y4 y5 y6 y7 y8 y9 y10))).run prog w= .ok (.bool (!UG (x0,x1,x2,x3,x4,x5,x6,x7,x8,x9,x10) (y0,y1,y2,y3,y4,y5,y6,y7,y8,y9,y10))) w:=by
 rw [run_neq_struct,Qq];rfl
theorem Tb {r x:Int} (h:YM r=x) (w:World):cE 245 #[.int .i64 r] w (.int .i64 x):=by
 have:=QM r w;rw [h] at this;exact this
theorem Xv {r x:Int} (h:YM r=x) (w:World):cE 110 #[.int .i64 r] w (.int .i64 x):=by
 have:=Q4 r w;rw [h] at this;exact this
attribute [local go_sem ↓] Ng Nh
theorem XU (n:Int) (w:World):cE 96 #[.int .i64 n] w (.bool (inB n (-1000000000000) 1000000000000)):=by
 go_enter func96,ntmps96;go_wp2_with (go_at_call 70;refine (ZT _ _ _ _).mono ?_;rintro e w' ⟨rfl,rfl⟩)
 go_ret;exact ⟨rfl,rfl⟩
theorem TO (st be rk my gu lo hi hd ca ut wk:Int) (w:World):cB 64 #[.agg (I11 st be rk my gu lo hi hd ca ut wk)] w (.bool (Zi (st,be,rk,my,gu,lo,hi,hd,ca,ut,wk))):=by
 by_cases hst:st=0
 ·subst hst
  unfold Zi;rw [Kw rfl,Bool.or_false];obtain ⟨q,hq⟩:=ZI (Rh (0,be,rk,my,gu,lo,hi,hd,ca,ut,wk));rw [hq];have hz:UG (0,be,rk,my,gu,lo,hi,hd,ca,ut,wk) (0,0,0,0,0,0,0,0,0,0,0)=q:=hq;clear hq;go_enter func64,ntmps64;go_wp2_with fail;go_ret;exact ⟨rfl,(ba _ _)⟩
 ·have hne:(st ==0)=false:=by simpa using hst
  unfold Zi;rw [Rj hst,Bool.false_or];unfold Xe;simp only;obtain ⟨x0,x1⟩:=Gh rk;obtain ⟨x,hx⟩:=ZI (YM rk);rw [hx] at x0 x1 ⊢;have Hw:=Z9 hx;have hwr:IntKind.i64.wrap (x-1)=x-1:=by rw [IntKind.wrap_i64];omega
  clear hx hst;cases h0:inB st 1 3
  ·go_enter func64,ntmps64
   go_wp2_with (first | (go_at_call 70;refine (ZT _ _ _ _).mono ?_;rintro e w' ⟨rfl,rfl⟩) | (go_at_call 108;refine (Y0 _ _).mono ?_;rintro e w' ⟨rfl,rfl⟩) | (go_at_call 109;refine (Y1 _ _ _).mono ?_;rintro e w' ⟨rfl,rfl⟩))
   go_ret;exact ⟨rfl,(ba _ _)⟩
  cases h1:inB be 0 7
  ·go_enter func64,ntmps64
   go_wp2_with (first | (go_at_call 70;refine (ZT _ _ _ _).mono ?_;rintro e w' ⟨rfl,rfl⟩) | (go_at_call 108;refine (Y0 _ _).mono ?_;rintro e w' ⟨rfl,rfl⟩) | (go_at_call 109;refine (Y1 _ _ _).mono ?_;rintro e w' ⟨rfl,rfl⟩))
   go_ret;exact ⟨rfl,(ba _ _)⟩
  cases h2:inB rk (-5) 5
  ·go_enter func64,ntmps64
   go_wp2_with (first | (go_at_call 70;refine (ZT _ _ _ _).mono ?_;rintro e w' ⟨rfl,rfl⟩) | (go_at_call 108;refine (Y0 _ _).mono ?_;rintro e w' ⟨rfl,rfl⟩) | (go_at_call 109;refine (Y1 _ _ _).mono ?_;rintro e w' ⟨rfl,rfl⟩))
   go_ret;exact ⟨rfl,(ba _ _)⟩
  cases h3:inB my 1 255
  ·go_enter func64,ntmps64
   go_wp2_with (first | (go_at_call 70;refine (ZT _ _ _ _).mono ?_;rintro e w' ⟨rfl,rfl⟩) | (go_at_call 108;refine (Y0 _ _).mono ?_;rintro e w' ⟨rfl,rfl⟩) | (go_at_call 109;refine (Y1 _ _ _).mono ?_;rintro e w' ⟨rfl,rfl⟩))
   go_ret;exact ⟨rfl,(ba _ _)⟩
  cases h4:inB gu (-1) 5
  ·go_enter func64,ntmps64
   go_wp2_with (first | (go_at_call 70;refine (ZT _ _ _ _).mono ?_;rintro e w' ⟨rfl,rfl⟩) | (go_at_call 108;refine (Y0 _ _).mono ?_;rintro e w' ⟨rfl,rfl⟩) | (go_at_call 109;refine (Y1 _ _ _).mono ?_;rintro e w' ⟨rfl,rfl⟩))
   go_ret;exact ⟨rfl,(ba _ _)⟩
  cases h5:Yq lo hi
  ·go_enter func64,ntmps64
   go_wp2_with (first | (go_at_call 70;refine (ZT _ _ _ _).mono ?_;rintro e w' ⟨rfl,rfl⟩) | (go_at_call 108;refine (Y0 _ _).mono ?_;rintro e w' ⟨rfl,rfl⟩) | (go_at_call 109;refine (Y1 _ _ _).mono ?_;rintro e w' ⟨rfl,rfl⟩))
   go_ret;exact ⟨rfl,(ba _ _)⟩
  cases h6:inB hd (-1000000000000) 1000000000000
  ·go_enter func64,ntmps64
   go_wp2_with (first | (go_at_call 70;refine (ZT _ _ _ _).mono ?_;rintro e w' ⟨rfl,rfl⟩) | (go_at_call 108;refine (Y0 _ _).mono ?_;rintro e w' ⟨rfl,rfl⟩) | (go_at_call 109;refine (Y1 _ _ _).mono ?_;rintro e w' ⟨rfl,rfl⟩))
   go_quiet (first | exact YD (ZT _ _ _ _) | exact YD (XU _ _) | exact YD (Xv (uh Hw) _) | exact YD (YE _ _));go_wp2_with fail;go_ret;exact ⟨rfl,Yw ((ba _ _)) _⟩
  cases h7:inB ca 0 (x-1)
  ·go_enter func64,ntmps64
   go_wp2_with (first | (go_at_call 70;refine (ZT _ _ _ _).mono ?_;rintro e w' ⟨rfl,rfl⟩) | (go_at_call 108;refine (Y0 _ _).mono ?_;rintro e w' ⟨rfl,rfl⟩) | (go_at_call 109;refine (Y1 _ _ _).mono ?_;rintro e w' ⟨rfl,rfl⟩))
   go_quiet (first | exact YD (ZT _ _ _ _) | exact YD (XU _ _) | exact YD (Xv (uh Hw) _) | exact YD (YE _ _));go_wp2_with fail;go_ret;exact ⟨rfl,Yw ((ba _ _)) _⟩
  cases h8:inB ut 0 1024
  ·go_enter func64,ntmps64
   go_wp2_with (first | (go_at_call 70;refine (ZT _ _ _ _).mono ?_;rintro e w' ⟨rfl,rfl⟩) | (go_at_call 108;refine (Y0 _ _).mono ?_;rintro e w' ⟨rfl,rfl⟩) | (go_at_call 109;refine (Y1 _ _ _).mono ?_;rintro e w' ⟨rfl,rfl⟩))
   go_quiet (first | exact YD (ZT _ _ _ _) | exact YD (XU _ _) | exact YD (Xv (uh Hw) _) | exact YD (YE _ _));go_wp2_with fail;go_ret;exact ⟨rfl,Yw ((ba _ _)) _⟩
  cases h9:inB wk 0 100000000000
  ·go_enter func64,ntmps64
   go_wp2_with (first | (go_at_call 70;refine (ZT _ _ _ _).mono ?_;rintro e w' ⟨rfl,rfl⟩) | (go_at_call 108;refine (Y0 _ _).mono ?_;rintro e w' ⟨rfl,rfl⟩) | (go_at_call 109;refine (Y1 _ _ _).mono ?_;rintro e w' ⟨rfl,rfl⟩))
   go_quiet (first | exact YD (ZT _ _ _ _) | exact YD (XU _ _) | exact YD (Xv (uh Hw) _) | exact YD (YE _ _));go_wp2_with fail;go_ret;exact ⟨rfl,Yw ((ba _ _)) _⟩
  go_enter func64,ntmps64;go_wp2_with (first | (go_at_call 70;refine (ZT _ _ _ _).mono ?_;rintro e w' ⟨rfl,rfl⟩) | (go_at_call 108;refine (Y0 _ _).mono ?_;rintro e w' ⟨rfl,rfl⟩) | (go_at_call 109;refine (Y1 _ _ _).mono ?_;rintro e w' ⟨rfl,rfl⟩))
  go_quiet (first | exact YD (ZT _ _ _ _) | exact YD (XU _ _) | exact YD (Xv (uh Hw) _) | exact YD (YE _ _));go_wp2_with fail;go_ret;exact ⟨rfl,Yw ((ba _ _)) _⟩
end Go.Proofs.YtgdpaigcmoifbaaGreatDoor
namespace Go.Proofs.YtgdpaigcmoifbaaGreatDoor
open Go.ChangeShapes Go.WideShapes Go.ChangeAt Go.RowKit Go.Sort Go.Proofs.Tryz
set_option linter.unusedVariables false
theorem Fs:∀ k:Fin 256,(Wv (k.val:Int) != -1)=inB (k.val:Int) 1 255:=by decide +kernel
theorem Ft (s:Int):(Wv s != -1)=inB s 1 255:=by
 cases h:inB s 0 255
 ·have hf:Wv s= -1:=by unfold Wv Uf;rw [Nn h];rfl
  have h2:s<0\/255<s:=by
   rcases Int.lt_or_le s 0 with h1 | h1
   ·exact .inl h1
   ·rcases Int.lt_or_le 255 s with h2 | h2
    ·exact .inr h2
    ·rw [Zf h1 h2] at h;cases h
  rw [hf,Xt (by omega)];rfl
 ·obtain ⟨h0,h1⟩:=ZO h
  obtain ⟨n,rfl⟩:=Int.eq_ofNat_of_zero_le h0;exact Fs ⟨n,by omega⟩
theorem NH {s f:Int} (h:Wv s=f) (w:World):cB 244 #[.int .i64 s] w (.int .i64 f):=by
 have:=PQ s w;rw [h] at this;exact this
theorem Fz (s:Int) (w:World):cB 210 #[.int .i64 s] w (.bool (inB s 1 255)):=by
 have hf:=Ft s;obtain ⟨f,hv⟩:=ZI (Wv s);have Hv:=Z9 hv;rw [hv] at hf;have Hf:=Z9 hf;clear hf hv;go_enter func210,ntmps210;go_wp2_with fail;refine ck (NH (uh Hv) _) fun w1 hb=> ?_;go_wp2_with fail;go_ret;exact ⟨Z5 (uh Hf),hb⟩
theorem JY (c r:Int) (w:World):cE 213 #[.int .i64 c,.int .i64 r] w (.bool (inB c 0 (YM r-1))):=by
 obtain ⟨x,hv⟩:=ZI (YM r);have Hv:=Z9 hv;rw [hv];clear hv;by_cases h0:0<=c
 ·by_cases h1:c<x
  ·rw [Zf (x:=c) (lo:=0) (hi:=x-1) h0 (by omega)]
   go_enter func213,ntmps213;go_wp2_with (go_at_call 245;refine (Tb (uh Hv) _).mono ?_;rintro e w' ⟨rfl,rfl⟩)
   go_ret;exact ⟨rfl,rfl⟩
  ·rw [Xt (x:=c) (lo:=0) (hi:=x-1) (by omega)]
   go_enter func213,ntmps213;go_wp2_with (go_at_call 245;refine (Tb (uh Hv) _).mono ?_;rintro e w' ⟨rfl,rfl⟩)
   go_ret;exact ⟨Z5 (b:=false) (by rw [decide_eq_false_iff_not];omega),rfl⟩
 ·rw [Xt (x:=c) (lo:=0) (hi:=x-1) (by omega)]
  go_enter func213,ntmps213;go_wp2_with fail;go_ret;exact ⟨rfl,rfl⟩
theorem Rz (n:Int) (w:World):cE 212 #[.int .i64 n] w (.bool (inB n (-1000000000000) 1000000000000)):=by
 go_enter func212,ntmps212;go_wp2_with (go_at_call 192;refine (ZL _ _ _ _).mono ?_;rintro e w' ⟨rfl,rfl⟩)
 go_ret;exact ⟨rfl,rfl⟩
theorem MN {c r:Int} {q:Bool} (h:inB c 0 (YM r-1)=q) (w:World):cE 213 #[.int .i64 c,.int .i64 r] w (.bool q):=by
 have:=JY c r w;rw [h] at this;exact this
theorem Ec (x:Int):inB x 0 (0-1)=false:=by
 refine Xt ?_
 rcases Int.lt_or_le x 0 with h | h
 ·exact .inl h
 ·exact .inr (by omega)
theorem Ey (st be rk my gu lo hi hd ca ut wk:Int):Xe (st,be,rk,my,gu,lo,hi,hd,ca,ut,wk)=(inB st 1 3 && (inB be 0 7 && (inB my 1 255 && (inB gu (-1) 5 && (Yq lo hi && (inB hd (-1000000000000) 1000000000000 && (inB ca 0 (YM rk-1) && (inB ut 0 1024 && (inB wk 0 100000000000))))))))):=by
 unfold Xe;simp only;cases hr:inB rk (-5) 5
 ·rw [VK hr,show inB ca 0 (0-1)=false from Ec ca]
  simp
 ·simp only [Bool.true_and]
theorem Sh (st be rk my gu lo hi hd ca ut wk:Int) (w:World):cB 182 #[.agg (I11 st be rk my gu lo hi hd ca ut wk)] w (.bool (Xe (st,be,rk,my,gu,lo,hi,hd,ca,ut,wk))):=by
 rw [Ey];obtain ⟨qc,hqc⟩:=ZI (inB ca 0 (YM rk-1));have Hc:=Z9 hqc;rw [hqc];clear hqc;cases h_st:inB st 1 3;rotate_left;cases h_be:inB be 0 7;rotate_left;cases h_my:inB my 1 255;rotate_left;cases h_gu:inB gu (-1) 5;rotate_left;cases h_pr:Yq lo hi;rotate_left;cases h_hd:inB hd (-1000000000000) 1000000000000;rotate_left;cases qc;rotate_left;cases h_ut:inB ut 0 1024;rotate_left;cases h_wk:inB wk 0 100000000000
 all_goals
  go_enter func182,ntmps182;go_wp2_with (first | (go_at_call 192;refine (ZL _ _ _ _).mono ?_;rintro e w' ⟨rfl,rfl⟩) | (go_at_call 209;refine (V2 _ _).mono ?_;rintro e w' ⟨rfl,rfl⟩) | (go_at_call 211;refine (UO _ _ _).mono ?_;rintro e w' ⟨rfl,rfl⟩) | (go_at_call 212;refine (Rz _ _).mono ?_;rintro e w' ⟨rfl,rfl⟩) | (go_at_call 213;refine (MN (uh Hc) _).mono ?_;rintro e w' ⟨rfl,rfl⟩) | (go_at_call 214;refine (OH _ _).mono ?_;rintro e w' ⟨rfl,rfl⟩))
  try
   refine ck (Fz _ _) fun w1 hb=> ?_;have c2:w1.cell? ⟨w.heap.size,2,none⟩=some (.int .i64 rk):=(hb.cell (p:=⟨w.heap.size,2,none⟩) (by simp)).trans (Zv _ rfl);have c4:w1.cell? ⟨w.heap.size,4,none⟩=some (.int .i64 gu):=(hb.cell (p:=⟨w.heap.size,4,none⟩) (by simp)).trans (Zv _ rfl);have c5:w1.cell? ⟨w.heap.size,5,none⟩=some (.int .i64 lo):=(hb.cell (p:=⟨w.heap.size,5,none⟩) (by simp)).trans (Zv _ rfl);have c6:w1.cell? ⟨w.heap.size,6,none⟩=some (.int .i64 hi):=(hb.cell (p:=⟨w.heap.size,6,none⟩) (by simp)).trans (Zv _ rfl);have c7:w1.cell? ⟨w.heap.size,7,none⟩=some (.int .i64 hd):=(hb.cell (p:=⟨w.heap.size,7,none⟩) (by simp)).trans (Zv _ rfl);have c8:w1.cell? ⟨w.heap.size,8,none⟩=some (.int .i64 ca):=(hb.cell (p:=⟨w.heap.size,8,none⟩) (by simp)).trans (Zv _ rfl);have c9:w1.cell? ⟨w.heap.size,9,none⟩=some (.int .i64 ut):=(hb.cell (p:=⟨w.heap.size,9,none⟩) (by simp)).trans (Zv _ rfl);have c10:w1.cell? ⟨w.heap.size,10,none⟩=some (.int .i64 wk):=(hb.cell (p:=⟨w.heap.size,10,none⟩) (by simp)).trans (Zv _ rfl);have Hb:=Z9 (((Z0 w.heap.size w).alloc (ZY _) _).trans (hb.mono (by simp)));clear hb;go_wp2_with (first | (go_at_call 192;refine (ZL _ _ _ _).mono ?_;rintro e w' ⟨rfl,rfl⟩) | (go_at_call 209;refine (V2 _ _).mono ?_;rintro e w' ⟨rfl,rfl⟩) | (go_at_call 211;refine (UO _ _ _).mono ?_;rintro e w' ⟨rfl,rfl⟩) | (go_at_call 212;refine (Rz _ _).mono ?_;rintro e w' ⟨rfl,rfl⟩) | (go_at_call 213;refine (MN (uh Hc) _).mono ?_;rintro e w' ⟨rfl,rfl⟩) | (go_at_call 214;refine (OH _ _).mono ?_;rintro e w' ⟨rfl,rfl⟩))
  go_ret
  first | exact ⟨rfl,uh Hb⟩ | exact ⟨rfl,(ba _ _)⟩
attribute [local go_sem ↓] Ng Nh
theorem Mq (w:World):cB 151 #[.agg E11] w (.iface 213 (.agg #[])):=by
 have hz:UG (0,0,0,0,0,0,0,0,0,0,0) (0,0,0,0,0,0,0,0,0,0,0)=true:=rfl;go_enter func151,ntmps151;go_wp2_with fail;go_ret;exact ⟨rfl,(ba _ _)⟩
theorem Mr {st be rk my gu lo hi hd ca ut wk:Int} (hg:Rh (st,be,rk,my,gu,lo,hi,hd,ca,ut,wk)=false) (hp:Xe (st,be,rk,my,gu,lo,hi,hd,ca,ut,wk)=true) (w:World):cB 151 #[.agg (I11 st be rk my gu lo hi hd ca ut wk)] w (.iface 215 (.agg (I11 st be rk my gu lo hi hd ca ut wk))):=by
 have hz:UG (st,be,rk,my,gu,lo,hi,hd,ca,ut,wk) (0,0,0,0,0,0,0,0,0,0,0)=false:=hg;have Hp:=Z9 hp;clear hg hp;go_enter func151,ntmps151;go_wp2_with fail;refine (Sh st be rk my gu lo hi hd ca ut wk _).mono ?_;rw [uh Hp];rintro e w1 ⟨rfl,hb⟩;have c0:w1.cell? ⟨w.heap.size,0,none⟩=some (.int .i64 st):=(hb.cell (p:=⟨w.heap.size,0,none⟩) (by simp)).trans (Zv _ rfl);have c1:w1.cell? ⟨w.heap.size,1,none⟩=some (.int .i64 be):=(hb.cell (p:=⟨w.heap.size,1,none⟩) (by simp)).trans (Zv _ rfl);have c2:w1.cell? ⟨w.heap.size,2,none⟩=some (.int .i64 rk):=(hb.cell (p:=⟨w.heap.size,2,none⟩) (by simp)).trans (Zv _ rfl);have c3:w1.cell? ⟨w.heap.size,3,none⟩=some (.int .i64 my):=(hb.cell (p:=⟨w.heap.size,3,none⟩) (by simp)).trans (Zv _ rfl);have c4:w1.cell? ⟨w.heap.size,4,none⟩=some (.int .i64 gu):=(hb.cell (p:=⟨w.heap.size,4,none⟩) (by simp)).trans (Zv _ rfl);have c5:w1.cell? ⟨w.heap.size,5,none⟩=some (.int .i64 lo):=(hb.cell (p:=⟨w.heap.size,5,none⟩) (by simp)).trans (Zv _ rfl);have c6:w1.cell? ⟨w.heap.size,6,none⟩=some (.int .i64 hi):=(hb.cell (p:=⟨w.heap.size,6,none⟩) (by simp)).trans (Zv _ rfl);have c7:w1.cell? ⟨w.heap.size,7,none⟩=some (.int .i64 hd):=(hb.cell (p:=⟨w.heap.size,7,none⟩) (by simp)).trans (Zv _ rfl);have c8:w1.cell? ⟨w.heap.size,8,none⟩=some (.int .i64 ca):=(hb.cell (p:=⟨w.heap.size,8,none⟩) (by simp)).trans (Zv _ rfl);have c9:w1.cell? ⟨w.heap.size,9,none⟩=some (.int .i64 ut):=(hb.cell (p:=⟨w.heap.size,9,none⟩) (by simp)).trans (Zv _ rfl);have c10:w1.cell? ⟨w.heap.size,10,none⟩=some (.int .i64 wk):=(hb.cell (p:=⟨w.heap.size,10,none⟩) (by simp)).trans (Zv _ rfl);have Hb:=Z9 (((Z0 w.heap.size w).alloc (ZY _) _).trans (hb.mono (by simp)));clear hb;go_wp2_with fail;go_ret;exact ⟨rfl,uh Hb⟩
theorem NS {st be rk my gu lo hi hd ca ut wk:Int} (hg:Rh (st,be,rk,my,gu,lo,hi,hd,ca,ut,wk)=false) (hp:Xe (st,be,rk,my,gu,lo,hi,hd,ca,ut,wk)=false) (w:World):cB 151 #[.agg (I11 st be rk my gu lo hi hd ca ut wk)] w (.iface 216 (.agg #[])):=by
 have hz:UG (st,be,rk,my,gu,lo,hi,hd,ca,ut,wk) (0,0,0,0,0,0,0,0,0,0,0)=false:=hg;have Hp:=Z9 hp;clear hg hp;go_enter func151,ntmps151;go_wp2_with fail;refine (Sh st be rk my gu lo hi hd ca ut wk _).mono ?_;rw [uh Hp];rintro e w1 ⟨rfl,hb⟩;have Hb:=Z9 (((Z0 w.heap.size w).alloc (ZY _) _).trans (hb.mono (by simp)));clear hb;go_wp2_with fail;go_ret;exact ⟨rfl,uh Hb⟩
theorem CE (w : World) : (method 430 213 (.agg #[]) "loop.example/g00553/impl.isSmith").run prog w = .ok (325, .agg #[]) w := by kernel_rfl
theorem Dp (w : World) : (method 430 216 (.agg #[]) "loop.example/g00553/impl.isSmith").run prog w = .ok (327, .agg #[]) w := by kernel_rfl
theorem CF (st be rk my gu lo hi hd ca ut wk : Int) (w : World) : (method 430 215 (.agg (I11 st be rk my gu lo hi hd ca ut wk)) "loop.example/g00553/impl.isSmith").run prog w = .ok (326, .agg (I11 st be rk my gu lo hi hd ca ut wk)) w := by kernel_rfl
theorem Ib (w:World):cB 325 #[.agg #[]] w (.bool true):=by
 go_enter func325,ntmps325;go_wp2_with fail;go_ret;exact ⟨rfl,(ba _ _)⟩
theorem Lq (w:World):cB 327 #[.agg #[]] w (.bool false):=by
 go_enter func327,ntmps327;go_wp2_with fail;go_ret;exact ⟨rfl,(ba _ _)⟩
theorem IF (st be rk my gu lo hi hd ca ut wk:Int) (w:World):cB 326 #[.agg (I11 st be rk my gu lo hi hd ca ut wk)] w (.bool true):=by
 go_enter func326,ntmps326;go_wp2_with fail;go_ret;exact ⟨rfl,(ba _ _)⟩
attribute [local go_sem] CE Dp CF
theorem TI (st be rk my gu lo hi hd ca ut wk:Int) (w:World):cB 112 #[.agg (I11 st be rk my gu lo hi hd ca ut wk)] w (.bool (Zi (st,be,rk,my,gu,lo,hi,hd,ca,ut,wk))):=by
 unfold Zi;cases hg:Rh (st,be,rk,my,gu,lo,hi,hd,ca,ut,wk)
 ·cases hp:Xe (st,be,rk,my,gu,lo,hi,hd,ca,ut,wk)
  ·rw [show (false || false)=false from rfl]
   have Hg:=Z9 hg;have Hp:=Z9 hp;clear hg hp;go_enter func112,ntmps112;go_wp2_with fail;refine ck (NS (uh Hg) (uh Hp) _) fun w1 hb=> ?_;have B1:=Z9 (((Z0 w.heap.size w).alloc (ZY _) _).trans (hb.mono (by simp)));clear hb;go_wp2_with fail;refine ck (Lq _) fun w2 hb=> ?_;have B2:=Z9 ((uh B1).trans (hb.mono (uh B1).size));clear hb;go_wp2_with fail;go_ret;exact ⟨rfl,uh B2⟩
  ·rw [show (false || true)=true from rfl]
   have Hg:=Z9 hg;have Hp:=Z9 hp;clear hg hp;go_enter func112,ntmps112;go_wp2_with fail;refine ck (Mr (uh Hg) (uh Hp) _) fun w1 hb=> ?_;have B1:=Z9 (((Z0 w.heap.size w).alloc (ZY _) _).trans (hb.mono (by simp)));clear hb;go_wp2_with fail;refine ck (IF _ _ _ _ _ _ _ _ _ _ _ _) fun w2 hb=> ?_;have B2:=Z9 ((uh B1).trans (hb.mono (uh B1).size));clear hb;go_wp2_with fail;go_ret;exact ⟨rfl,uh B2⟩
 ·rw [Bool.true_or]
  cases Ri hg;clear hg;go_enter func112,ntmps112;go_wp2_with fail;refine ck (Mq _) fun w1 hb=> ?_;have B1:=Z9 (((Z0 w.heap.size w).alloc (ZY _) _).trans (hb.mono (by simp)));clear hb;go_wp2_with fail;refine ck (Ib _) fun w2 hb=> ?_;have B2:=Z9 ((uh B1).trans (hb.mono (uh B1).size));clear hb;go_wp2_with fail;go_ret;exact ⟨rfl,uh B2⟩
end Go.Proofs.YtgdpaigcmoifbaaGreatDoor
