/- Part 12 of what the proof rests on. No condition but those that a theorem names. -/
import Derived.Test.YtlcpgkakdieeaaaGreatXk05
import Derived.Test.YtlcpgkakdieeaaaGreatXk09
import Derived.Test.YtlcpgkakdieeaaaGreatXk10
set_option maxHeartbeats 8000000
set_option maxRecDepth 100000
namespace Go.Proofs.YtlcpgkakdieeaaaGreat
open Go.ChangeShapes Go.WideShapes Go.ChangeAt Go.RowKit Go.Sort Go.Proofs.Tryz
set_option linter.unusedVariables false
theorem PK (x0 x1 x2 x3 x4 x5 x6 x7 x8 x9 x10 y0 y1 y2 y3 y4 y5 y6 y7 y8 y9 y10:Int) (w:World):(Op.equalIn 10000 42 (.agg (I11 x0 x1 x2 x3 x4 x5 x6 x7 x8 x9 x10)) (.agg (I11 y0 y1 y2 y3 y4 y5 y6 y7 y8 y9 y10))).run prog w= .ok (TU (x0,x1,x2,x3,x4,x5,x6,x7,x8,x9,x10) (y0,y1,y2,y3,y4,y5,y6,y7,y8,y9,y10)) w:=by
 have u:=underlying2;have a:=Tryz.isAgg2;have z:=Tryz.sizeOf2;have hS:prog.underlying 42=some (.struct (prog.fieldsOf 42)):=by kernel_rfl
 have hp:prog.stoodInHeld 42=false:=by kernel_rfl
 rw [show (10000:Nat)=9999+1 from rfl,run_equalIn_agg w 9999 42 _ _ hS hp];simp only [Program.fieldsOf,underlying42];go_simp;unfold TU;by_cases h0:x0=y0;rotate_left
 ·simp [h0]
 subst h0;by_cases h1:x1=y1;rotate_left
 ·simp [h1]
 subst h1;by_cases h2:x2=y2;rotate_left
 ·simp [h2]
 subst h2;by_cases h3:x3=y3;rotate_left
 ·simp [h3]
 subst h3;by_cases h4:x4=y4;rotate_left
 ·simp [h4]
 subst h4;by_cases h5:x5=y5;rotate_left
 ·simp [h5]
 subst h5;by_cases h6:x6=y6;rotate_left
 ·simp [h6]
 subst h6;by_cases h7:x7=y7;rotate_left
 ·simp [h7]
 subst h7;by_cases h8:x8=y8;rotate_left
 ·simp [h8]
 subst h8;by_cases h9:x9=y9;rotate_left
 ·simp [h9]
 subst h9;by_cases h10:x10=y10;rotate_left
 ·simp [h10]
 subst h10;simp
theorem Mi (x0 x1 x2 x3 x4 x5 x6 x7 x8 x9 x10 y0 y1 y2 y3 y4 y5 y6 y7 y8 y9 y10:Int) (w:World):(binOp .eql 42 (.agg (I11 x0 x1 x2 x3 x4 x5 x6 x7 x8 x9 x10)) (.agg (I11 y0 y1 y2 y3 y4 y5 y6 y7 y8 y9 y10))).run prog w= .ok (.bool (TU (x0,x1,x2,x3,x4,x5,x6,x7,x8,x9,x10) (y0,y1,y2,y3,y4,y5,y6,y7,y8,y9,y10))) w:=by
 rw [run_eql_struct,PK];rfl
theorem Qo (x0 x1 x2 x3 x4 x5 x6 x7 x8 x9 x10 y0 y1 y2 y3 y4 y5 y6 y7 y8 y9 y10:Int) (w:World):(binOp .neq 42 (.agg (I11 x0 x1 x2 x3 x4 x5 x6 x7 x8 x9 x10)) (.agg (I11 y0 y1 y2 y3 y4 y5 y6 y7 y8 y9 y10))).run prog w= .ok (.bool (!TU (x0,x1,x2,x3,x4,x5,x6,x7,x8,x9,x10) (y0,y1,y2,y3,y4,y5,y6,y7,y8,y9,y10))) w:=by
 rw [run_neq_struct,PK];rfl
theorem Sq {r x:Int} (h:Zm r=x) (w:World):cE 237 #[.int .i64 r] w (.int .i64 x):=by
 have:=P8 r w;rw [h] at this;exact this
theorem YK {r x:Int} (h:Zm r=x) (w:World):cE 125 #[.int .i64 r] w (.int .i64 x):=by
 have:=Qr r w;rw [h] at this;exact this
attribute [local go_sem ↓] Mi Qo
theorem Xv (n:Int) (w:World):cE 119 #[.int .i64 n] w (.bool (inB n (-1000000000000) 1000000000000)):=by
 go_enter func119,ntmps119;go_wp2_with (go_at_call 64;refine (ZV _ _ _ _).mono ?_;rintro e w' ⟨rfl,rfl⟩)
 go_ret;exact ⟨rfl,rfl⟩
theorem Zn (st be rk my gu lo hi hd ca ut wk:Int) (w:World):cB 90 #[.agg (I11 st be rk my gu lo hi hd ca ut wk)] w (.bool (Zt (st,be,rk,my,gu,lo,hi,hd,ca,ut,wk))):=by
 by_cases hst:st=0
 ·subst hst
  unfold Zt;rw [Og rfl,Bool.or_false];obtain ⟨q,hq⟩:=ZL (Vk (0,be,rk,my,gu,lo,hi,hd,ca,ut,wk));rw [hq];have hz:TU (0,be,rk,my,gu,lo,hi,hd,ca,ut,wk) (0,0,0,0,0,0,0,0,0,0,0)=q:=hq;clear hq;go_enter func90,ntmps90;go_wp2_with fail;go_ret;exact ⟨rfl,(ba _ _)⟩
 ·have hne:(st ==0)=false:=by simpa using hst
  unfold Zt;rw [Sj hst,Bool.false_or];unfold YY;simp only;obtain ⟨x0,x1⟩:=Ua rk;obtain ⟨x,hx⟩:=ZL (Zm rk);rw [hx] at x0 x1 ⊢;have Hw:=Z9 hx;have hwr:IntKind.i64.wrap (x-1)=x-1:=by rw [IntKind.wrap_i64];omega
  clear hx hst;cases h0:inB st 1 3
  ·go_enter func90,ntmps90
   go_wp2_with (first | (go_at_call 64;refine (ZV _ _ _ _).mono ?_;rintro e w' ⟨rfl,rfl⟩) | (go_at_call 124;refine (YV _ _).mono ?_;rintro e w' ⟨rfl,rfl⟩) | (go_at_call 123;refine (YQ _ _ _).mono ?_;rintro e w' ⟨rfl,rfl⟩))
   go_ret;exact ⟨rfl,(ba _ _)⟩
  cases h1:inB be 0 7
  ·go_enter func90,ntmps90
   go_wp2_with (first | (go_at_call 64;refine (ZV _ _ _ _).mono ?_;rintro e w' ⟨rfl,rfl⟩) | (go_at_call 124;refine (YV _ _).mono ?_;rintro e w' ⟨rfl,rfl⟩) | (go_at_call 123;refine (YQ _ _ _).mono ?_;rintro e w' ⟨rfl,rfl⟩))
   go_ret;exact ⟨rfl,(ba _ _)⟩
  cases h2:inB rk (-5) 5
  ·go_enter func90,ntmps90
   go_wp2_with (first | (go_at_call 64;refine (ZV _ _ _ _).mono ?_;rintro e w' ⟨rfl,rfl⟩) | (go_at_call 124;refine (YV _ _).mono ?_;rintro e w' ⟨rfl,rfl⟩) | (go_at_call 123;refine (YQ _ _ _).mono ?_;rintro e w' ⟨rfl,rfl⟩))
   go_ret;exact ⟨rfl,(ba _ _)⟩
  cases h3:inB my 1 255
  ·go_enter func90,ntmps90
   go_wp2_with (first | (go_at_call 64;refine (ZV _ _ _ _).mono ?_;rintro e w' ⟨rfl,rfl⟩) | (go_at_call 124;refine (YV _ _).mono ?_;rintro e w' ⟨rfl,rfl⟩) | (go_at_call 123;refine (YQ _ _ _).mono ?_;rintro e w' ⟨rfl,rfl⟩))
   go_ret;exact ⟨rfl,(ba _ _)⟩
  cases h4:inB gu (-1) 5
  ·go_enter func90,ntmps90
   go_wp2_with (first | (go_at_call 64;refine (ZV _ _ _ _).mono ?_;rintro e w' ⟨rfl,rfl⟩) | (go_at_call 124;refine (YV _ _).mono ?_;rintro e w' ⟨rfl,rfl⟩) | (go_at_call 123;refine (YQ _ _ _).mono ?_;rintro e w' ⟨rfl,rfl⟩))
   go_ret;exact ⟨rfl,(ba _ _)⟩
  cases h5:Ys lo hi
  ·go_enter func90,ntmps90
   go_wp2_with (first | (go_at_call 64;refine (ZV _ _ _ _).mono ?_;rintro e w' ⟨rfl,rfl⟩) | (go_at_call 124;refine (YV _ _).mono ?_;rintro e w' ⟨rfl,rfl⟩) | (go_at_call 123;refine (YQ _ _ _).mono ?_;rintro e w' ⟨rfl,rfl⟩))
   go_ret;exact ⟨rfl,(ba _ _)⟩
  cases h6:inB hd (-1000000000000) 1000000000000
  ·go_enter func90,ntmps90
   go_wp2_with (first | (go_at_call 64;refine (ZV _ _ _ _).mono ?_;rintro e w' ⟨rfl,rfl⟩) | (go_at_call 124;refine (YV _ _).mono ?_;rintro e w' ⟨rfl,rfl⟩) | (go_at_call 123;refine (YQ _ _ _).mono ?_;rintro e w' ⟨rfl,rfl⟩))
   go_quiet (first | exact Yw (ZV _ _ _ _) | exact Yw (Xv _ _) | exact Yw (YK (uh Hw) _) | exact Yw (Yr _ _));go_wp2_with fail;go_ret;exact ⟨rfl,YC ((ba _ _)) _⟩
  cases h7:inB ca 0 (x-1)
  ·go_enter func90,ntmps90
   go_wp2_with (first | (go_at_call 64;refine (ZV _ _ _ _).mono ?_;rintro e w' ⟨rfl,rfl⟩) | (go_at_call 124;refine (YV _ _).mono ?_;rintro e w' ⟨rfl,rfl⟩) | (go_at_call 123;refine (YQ _ _ _).mono ?_;rintro e w' ⟨rfl,rfl⟩))
   go_quiet (first | exact Yw (ZV _ _ _ _) | exact Yw (Xv _ _) | exact Yw (YK (uh Hw) _) | exact Yw (Yr _ _));go_wp2_with fail;go_ret;exact ⟨rfl,YC ((ba _ _)) _⟩
  cases h8:inB ut 0 1024
  ·go_enter func90,ntmps90
   go_wp2_with (first | (go_at_call 64;refine (ZV _ _ _ _).mono ?_;rintro e w' ⟨rfl,rfl⟩) | (go_at_call 124;refine (YV _ _).mono ?_;rintro e w' ⟨rfl,rfl⟩) | (go_at_call 123;refine (YQ _ _ _).mono ?_;rintro e w' ⟨rfl,rfl⟩))
   go_quiet (first | exact Yw (ZV _ _ _ _) | exact Yw (Xv _ _) | exact Yw (YK (uh Hw) _) | exact Yw (Yr _ _));go_wp2_with fail;go_ret;exact ⟨rfl,YC ((ba _ _)) _⟩
  cases h9:inB wk 0 100000000000
  ·go_enter func90,ntmps90
   go_wp2_with (first | (go_at_call 64;refine (ZV _ _ _ _).mono ?_;rintro e w' ⟨rfl,rfl⟩) | (go_at_call 124;refine (YV _ _).mono ?_;rintro e w' ⟨rfl,rfl⟩) | (go_at_call 123;refine (YQ _ _ _).mono ?_;rintro e w' ⟨rfl,rfl⟩))
   go_quiet (first | exact Yw (ZV _ _ _ _) | exact Yw (Xv _ _) | exact Yw (YK (uh Hw) _) | exact Yw (Yr _ _));go_wp2_with fail;go_ret;exact ⟨rfl,YC ((ba _ _)) _⟩
  go_enter func90,ntmps90;go_wp2_with (first | (go_at_call 64;refine (ZV _ _ _ _).mono ?_;rintro e w' ⟨rfl,rfl⟩) | (go_at_call 124;refine (YV _ _).mono ?_;rintro e w' ⟨rfl,rfl⟩) | (go_at_call 123;refine (YQ _ _ _).mono ?_;rintro e w' ⟨rfl,rfl⟩))
  go_quiet (first | exact Yw (ZV _ _ _ _) | exact Yw (Xv _ _) | exact Yw (YK (uh Hw) _) | exact Yw (Yr _ _));go_wp2_with fail;go_ret;exact ⟨rfl,YC ((ba _ _)) _⟩
end Go.Proofs.YtlcpgkakdieeaaaGreat
namespace Go.Proofs.YtlcpgkakdieeaaaGreat
open Go.ChangeShapes Go.WideShapes Go.ChangeAt Go.RowKit Go.Sort Go.Proofs.Tryz
set_option linter.unusedVariables false
theorem DU:∀ k:Fin 256,(VP (k.val:Int) != -1)=inB (k.val:Int) 1 255:=by decide +kernel
theorem DV (s:Int):(VP s != -1)=inB s 1 255:=by
 cases h:inB s 0 255
 ·have hf:VP s= -1:=by unfold VP Jo;rw [Mq h];rfl
  have h2:s<0\/255<s:=by
   rcases Int.lt_or_le s 0 with h1 | h1
   ·exact .inl h1
   ·rcases Int.lt_or_le 255 s with h2 | h2
    ·exact .inr h2
    ·rw [Zo h1 h2] at h;cases h
  rw [hf,Vd (by omega)];rfl
 ·obtain ⟨h0,h1⟩:=ZN h
  obtain ⟨n,rfl⟩:=Int.eq_ofNat_of_zero_le h0;exact DU ⟨n,by omega⟩
theorem MA {s f:Int} (h:VP s=f) (w:World):cB 236 #[.int .i64 s] w (.int .i64 f):=by
 have:=O8 s w;rw [h] at this;exact this
theorem Ed (s:Int) (w:World):cB 225 #[.int .i64 s] w (.bool (inB s 1 255)):=by
 have hf:=DV s;obtain ⟨f,hv⟩:=ZL (VP s);have Hv:=Z9 hv;rw [hv] at hf;have Hf:=Z9 hf;clear hf hv;go_enter func225,ntmps225;go_wp2_with fail;refine ck (MA (uh Hv) _) fun w1 hb=> ?_;go_wp2_with fail;go_ret;exact ⟨Z5 (uh Hf),hb⟩
theorem I8 (c r:Int) (w:World):cE 226 #[.int .i64 c,.int .i64 r] w (.bool (inB c 0 (Zm r-1))):=by
 obtain ⟨x,hv⟩:=ZL (Zm r);have Hv:=Z9 hv;rw [hv];clear hv;by_cases h0:0<=c
 ·by_cases h1:c<x
  ·rw [Zo (x:=c) (lo:=0) (hi:=x-1) h0 (by omega)]
   go_enter func226,ntmps226;go_wp2_with (go_at_call 237;refine (Sq (uh Hv) _).mono ?_;rintro e w' ⟨rfl,rfl⟩)
   go_ret;exact ⟨rfl,rfl⟩
  ·rw [Vd (x:=c) (lo:=0) (hi:=x-1) (by omega)]
   go_enter func226,ntmps226;go_wp2_with (go_at_call 237;refine (Sq (uh Hv) _).mono ?_;rintro e w' ⟨rfl,rfl⟩)
   go_ret;exact ⟨Z5 (b:=false) (by rw [decide_eq_false_iff_not];omega),rfl⟩
 ·rw [Vd (x:=c) (lo:=0) (hi:=x-1) (by omega)]
  go_enter func226,ntmps226;go_wp2_with fail;go_ret;exact ⟨rfl,rfl⟩
theorem Q2 (n:Int) (w:World):cE 195 #[.int .i64 n] w (.bool (inB n (-1000000000000) 1000000000000)):=by
 go_enter func195,ntmps195;go_wp2_with (go_at_call 99;refine (Zq _ _ _ _).mono ?_;rintro e w' ⟨rfl,rfl⟩)
 go_ret;exact ⟨rfl,rfl⟩
theorem LH {c r:Int} {q:Bool} (h:inB c 0 (Zm r-1)=q) (w:World):cE 226 #[.int .i64 c,.int .i64 r] w (.bool q):=by
 have:=I8 c r w;rw [h] at this;exact this
theorem CC (x:Int):inB x 0 (0-1)=false:=by
 refine Vd ?_
 rcases Int.lt_or_le x 0 with h | h
 ·exact .inl h
 ·exact .inr (by omega)
theorem Da (st be rk my gu lo hi hd ca ut wk:Int):YY (st,be,rk,my,gu,lo,hi,hd,ca,ut,wk)=(inB st 1 3 && (inB be 0 7 && (inB my 1 255 && (inB gu (-1) 5 && (Ys lo hi && (inB hd (-1000000000000) 1000000000000 && (inB ca 0 (Zm rk-1) && (inB ut 0 1024 && (inB wk 0 100000000000))))))))):=by
 unfold YY;simp only;cases hr:inB rk (-5) 5
 ·rw [Wb hr,show inB ca 0 (0-1)=false from CC ca]
  simp
 ·simp only [Bool.true_and]
theorem RC (st be rk my gu lo hi hd ca ut wk:Int) (w:World):cB 214 #[.agg (I11 st be rk my gu lo hi hd ca ut wk)] w (.bool (YY (st,be,rk,my,gu,lo,hi,hd,ca,ut,wk))):=by
 rw [Da];obtain ⟨qc,hqc⟩:=ZL (inB ca 0 (Zm rk-1));have Hc:=Z9 hqc;rw [hqc];clear hqc;cases h_st:inB st 1 3;rotate_left;cases h_be:inB be 0 7;rotate_left;cases h_my:inB my 1 255;rotate_left;cases h_gu:inB gu (-1) 5;rotate_left;cases h_pr:Ys lo hi;rotate_left;cases h_hd:inB hd (-1000000000000) 1000000000000;rotate_left;cases qc;rotate_left;cases h_ut:inB ut 0 1024;rotate_left;cases h_wk:inB wk 0 100000000000
 all_goals
  go_enter func214,ntmps214;go_wp2_with (first | (go_at_call 99;refine (Zq _ _ _ _).mono ?_;rintro e w' ⟨rfl,rfl⟩) | (go_at_call 118;refine (Vm _ _).mono ?_;rintro e w' ⟨rfl,rfl⟩) | (go_at_call 184;refine (Ud _ _ _).mono ?_;rintro e w' ⟨rfl,rfl⟩) | (go_at_call 195;refine (Q2 _ _).mono ?_;rintro e w' ⟨rfl,rfl⟩) | (go_at_call 226;refine (LH (uh Hc) _).mono ?_;rintro e w' ⟨rfl,rfl⟩) | (go_at_call 227;refine (NP _ _).mono ?_;rintro e w' ⟨rfl,rfl⟩))
  try
   refine ck (Ed _ _) fun w1 hb=> ?_;have c2:w1.cell? ⟨w.heap.size,2,none⟩=some (.int .i64 rk):=(hb.cell (p:=⟨w.heap.size,2,none⟩) (by simp)).trans (Zh _ rfl);have c4:w1.cell? ⟨w.heap.size,4,none⟩=some (.int .i64 gu):=(hb.cell (p:=⟨w.heap.size,4,none⟩) (by simp)).trans (Zh _ rfl);have c5:w1.cell? ⟨w.heap.size,5,none⟩=some (.int .i64 lo):=(hb.cell (p:=⟨w.heap.size,5,none⟩) (by simp)).trans (Zh _ rfl);have c6:w1.cell? ⟨w.heap.size,6,none⟩=some (.int .i64 hi):=(hb.cell (p:=⟨w.heap.size,6,none⟩) (by simp)).trans (Zh _ rfl);have c7:w1.cell? ⟨w.heap.size,7,none⟩=some (.int .i64 hd):=(hb.cell (p:=⟨w.heap.size,7,none⟩) (by simp)).trans (Zh _ rfl);have c8:w1.cell? ⟨w.heap.size,8,none⟩=some (.int .i64 ca):=(hb.cell (p:=⟨w.heap.size,8,none⟩) (by simp)).trans (Zh _ rfl);have c9:w1.cell? ⟨w.heap.size,9,none⟩=some (.int .i64 ut):=(hb.cell (p:=⟨w.heap.size,9,none⟩) (by simp)).trans (Zh _ rfl);have c10:w1.cell? ⟨w.heap.size,10,none⟩=some (.int .i64 wk):=(hb.cell (p:=⟨w.heap.size,10,none⟩) (by simp)).trans (Zh _ rfl);have Hb:=Z9 (((ZZ w.heap.size w).alloc (Z0 _) _).trans (hb.mono (by simp)));clear hb;go_wp2_with (first | (go_at_call 99;refine (Zq _ _ _ _).mono ?_;rintro e w' ⟨rfl,rfl⟩) | (go_at_call 118;refine (Vm _ _).mono ?_;rintro e w' ⟨rfl,rfl⟩) | (go_at_call 184;refine (Ud _ _ _).mono ?_;rintro e w' ⟨rfl,rfl⟩) | (go_at_call 195;refine (Q2 _ _).mono ?_;rintro e w' ⟨rfl,rfl⟩) | (go_at_call 226;refine (LH (uh Hc) _).mono ?_;rintro e w' ⟨rfl,rfl⟩) | (go_at_call 227;refine (NP _ _).mono ?_;rintro e w' ⟨rfl,rfl⟩))
  go_ret
  first | exact ⟨rfl,uh Hb⟩ | exact ⟨rfl,(ba _ _)⟩
attribute [local go_sem ↓] Mi Qo
theorem Ld (w:World):cB 185 #[.agg E11] w (.iface 195 (.agg #[])):=by
 have hz:TU (0,0,0,0,0,0,0,0,0,0,0) (0,0,0,0,0,0,0,0,0,0,0)=true:=rfl;go_enter func185,ntmps185;go_wp2_with fail;go_ret;exact ⟨rfl,(ba _ _)⟩
theorem Le {st be rk my gu lo hi hd ca ut wk:Int} (hg:Vk (st,be,rk,my,gu,lo,hi,hd,ca,ut,wk)=false) (hp:YY (st,be,rk,my,gu,lo,hi,hd,ca,ut,wk)=true) (w:World):cB 185 #[.agg (I11 st be rk my gu lo hi hd ca ut wk)] w (.iface 197 (.agg (I11 st be rk my gu lo hi hd ca ut wk))):=by
 have hz:TU (st,be,rk,my,gu,lo,hi,hd,ca,ut,wk) (0,0,0,0,0,0,0,0,0,0,0)=false:=hg;have Hp:=Z9 hp;clear hg hp;go_enter func185,ntmps185;go_wp2_with fail;refine (RC st be rk my gu lo hi hd ca ut wk _).mono ?_;rw [uh Hp];rintro e w1 ⟨rfl,hb⟩;have c0:w1.cell? ⟨w.heap.size,0,none⟩=some (.int .i64 st):=(hb.cell (p:=⟨w.heap.size,0,none⟩) (by simp)).trans (Zh _ rfl);have c1:w1.cell? ⟨w.heap.size,1,none⟩=some (.int .i64 be):=(hb.cell (p:=⟨w.heap.size,1,none⟩) (by simp)).trans (Zh _ rfl);have c2:w1.cell? ⟨w.heap.size,2,none⟩=some (.int .i64 rk):=(hb.cell (p:=⟨w.heap.size,2,none⟩) (by simp)).trans (Zh _ rfl);have c3:w1.cell? ⟨w.heap.size,3,none⟩=some (.int .i64 my):=(hb.cell (p:=⟨w.heap.size,3,none⟩) (by simp)).trans (Zh _ rfl);have c4:w1.cell? ⟨w.heap.size,4,none⟩=some (.int .i64 gu):=(hb.cell (p:=⟨w.heap.size,4,none⟩) (by simp)).trans (Zh _ rfl);have c5:w1.cell? ⟨w.heap.size,5,none⟩=some (.int .i64 lo):=(hb.cell (p:=⟨w.heap.size,5,none⟩) (by simp)).trans (Zh _ rfl);have c6:w1.cell? ⟨w.heap.size,6,none⟩=some (.int .i64 hi):=(hb.cell (p:=⟨w.heap.size,6,none⟩) (by simp)).trans (Zh _ rfl);have c7:w1.cell? ⟨w.heap.size,7,none⟩=some (.int .i64 hd):=(hb.cell (p:=⟨w.heap.size,7,none⟩) (by simp)).trans (Zh _ rfl);have c8:w1.cell? ⟨w.heap.size,8,none⟩=some (.int .i64 ca):=(hb.cell (p:=⟨w.heap.size,8,none⟩) (by simp)).trans (Zh _ rfl);have c9:w1.cell? ⟨w.heap.size,9,none⟩=some (.int .i64 ut):=(hb.cell (p:=⟨w.heap.size,9,none⟩) (by simp)).trans (Zh _ rfl);have c10:w1.cell? ⟨w.heap.size,10,none⟩=some (.int .i64 wk):=(hb.cell (p:=⟨w.heap.size,10,none⟩) (by simp)).trans (Zh _ rfl);have Hb:=Z9 (((ZZ w.heap.size w).alloc (Z0 _) _).trans (hb.mono (by simp)));clear hb;go_wp2_with fail;go_ret;exact ⟨rfl,uh Hb⟩
theorem MT {st be rk my gu lo hi hd ca ut wk:Int} (hg:Vk (st,be,rk,my,gu,lo,hi,hd,ca,ut,wk)=false) (hp:YY (st,be,rk,my,gu,lo,hi,hd,ca,ut,wk)=false) (w:World):cB 185 #[.agg (I11 st be rk my gu lo hi hd ca ut wk)] w (.iface 198 (.agg #[])):=by
 have hz:TU (st,be,rk,my,gu,lo,hi,hd,ca,ut,wk) (0,0,0,0,0,0,0,0,0,0,0)=false:=hg;have Hp:=Z9 hp;clear hg hp;go_enter func185,ntmps185;go_wp2_with fail;refine (RC st be rk my gu lo hi hd ca ut wk _).mono ?_;rw [uh Hp];rintro e w1 ⟨rfl,hb⟩;have Hb:=Z9 (((ZZ w.heap.size w).alloc (Z0 _) _).trans (hb.mono (by simp)));clear hb;go_wp2_with fail;go_ret;exact ⟨rfl,uh Hb⟩
theorem A7 (w : World) : (method 340 195 (.agg #[]) "loop.example/g00553/impl.isSmith").run prog w = .ok (279, .agg #[]) w := by kernel_rfl
theorem BK (w : World) : (method 340 198 (.agg #[]) "loop.example/g00553/impl.isSmith").run prog w = .ok (281, .agg #[]) w := by kernel_rfl
theorem A8 (st be rk my gu lo hi hd ca ut wk : Int) (w : World) : (method 340 197 (.agg (I11 st be rk my gu lo hi hd ca ut wk)) "loop.example/g00553/impl.isSmith").run prog w = .ok (280, .agg (I11 st be rk my gu lo hi hd ca ut wk)) w := by kernel_rfl
theorem Gb (w:World):cB 279 #[.agg #[]] w (.bool true):=by
 go_enter func279,ntmps279;go_wp2_with fail;go_ret;exact ⟨rfl,(ba _ _)⟩
theorem Kn (w:World):cB 281 #[.agg #[]] w (.bool false):=by
 go_enter func281,ntmps281;go_wp2_with fail;go_ret;exact ⟨rfl,(ba _ _)⟩
theorem GJ (st be rk my gu lo hi hd ca ut wk:Int) (w:World):cB 280 #[.agg (I11 st be rk my gu lo hi hd ca ut wk)] w (.bool true):=by
 go_enter func280,ntmps280;go_wp2_with fail;go_ret;exact ⟨rfl,(ba _ _)⟩
attribute [local go_sem] A7 BK A8
theorem Pa (st be rk my gu lo hi hd ca ut wk:Int) (w:World):cB 156 #[.agg (I11 st be rk my gu lo hi hd ca ut wk)] w (.bool (Zt (st,be,rk,my,gu,lo,hi,hd,ca,ut,wk))):=by
 unfold Zt;cases hg:Vk (st,be,rk,my,gu,lo,hi,hd,ca,ut,wk)
 ·cases hp:YY (st,be,rk,my,gu,lo,hi,hd,ca,ut,wk)
  ·rw [show (false || false)=false from rfl]
   have Hg:=Z9 hg;have Hp:=Z9 hp;clear hg hp;go_enter func156,ntmps156;go_wp2_with fail;refine ck (MT (uh Hg) (uh Hp) _) fun w1 hb=> ?_;have B1:=Z9 (((ZZ w.heap.size w).alloc (Z0 _) _).trans (hb.mono (by simp)));clear hb;go_wp2_with fail;refine ck (Kn _) fun w2 hb=> ?_;have B2:=Z9 ((uh B1).trans (hb.mono (uh B1).size));clear hb;go_wp2_with fail;go_ret;exact ⟨rfl,uh B2⟩
  ·rw [show (false || true)=true from rfl]
   have Hg:=Z9 hg;have Hp:=Z9 hp;clear hg hp;go_enter func156,ntmps156;go_wp2_with fail;refine ck (Le (uh Hg) (uh Hp) _) fun w1 hb=> ?_;have B1:=Z9 (((ZZ w.heap.size w).alloc (Z0 _) _).trans (hb.mono (by simp)));clear hb;go_wp2_with fail;refine ck (GJ _ _ _ _ _ _ _ _ _ _ _ _) fun w2 hb=> ?_;have B2:=Z9 ((uh B1).trans (hb.mono (uh B1).size));clear hb;go_wp2_with fail;go_ret;exact ⟨rfl,uh B2⟩
 ·rw [Bool.true_or]
  cases Vl hg;clear hg;go_enter func156,ntmps156;go_wp2_with fail;refine ck (Ld _) fun w1 hb=> ?_;have B1:=Z9 (((ZZ w.heap.size w).alloc (Z0 _) _).trans (hb.mono (by simp)));clear hb;go_wp2_with fail;refine ck (Gb _) fun w2 hb=> ?_;have B2:=Z9 ((uh B1).trans (hb.mono (uh B1).size));clear hb;go_wp2_with fail;go_ret;exact ⟨rfl,uh B2⟩
end Go.Proofs.YtlcpgkakdieeaaaGreat
namespace Go.Proofs.YtlcpgkakdieeaaaGreat
open Go.ChangeShapes Go.WideShapes Go.ChangeAt Go.RowKit Go.Sort Go.Deep Go.Proofs.Tryz
set_option linter.unusedVariables false
set_option linter.unusedSimpArgs false
theorem Q7 {a b c n l:Int} (h:WK a b c=true) (hn:Tv a b c=n) (hl:Tu a b c=l) (w:World):Calls prog 233 #[.int .i64 a,.int .i64 b,.int .i64 c] w fun e w'=>e= .returned (.tuple #[.int .i64 n,.int .i64 l])/\ ∃ m,w'=w.drewN m:=by
 obtain ⟨h1,h2⟩:=Mh h;rw [<-hn,<-hl,h1,h2];clear h1 h2 hn hl;obtain ⟨a0,a1,b0,b1,c0,c1⟩:=GD h;have ha:inB a 0 1000000000=true:=Zo a0 a1;have hb:inB b 1 100000=true:=Zo b0 b1;have hc:inB c 0 (b-1)=true:=Zo c0 (by omega);go_enter func233,ntmps233;go_wp2_with (first | (go_at_call 240;refine (TL _ _).mono ?_;rintro e w' ⟨rfl,rfl⟩) | (go_at_call 64;refine (ZV _ _ _ _).mono ?_;rintro e w' ⟨rfl,rfl⟩))
 go_quiet (fail);go_wp2_with fail
 go_ret2
 exact ⟨rfl,_,rfl⟩
theorem G0 (work:Int) (w:World):cB 221 #[.agg E11,.int .i64 work] w (.tuple #[.agg E11,.bool false]):=by
 have Hs:Hid (Zt (0,0,0,0,0,0,0,0,0,0,0)=true):=Z9 rfl;go_enter func221,ntmps221;go_wp2_with fail;refine (Zn 0 0 0 0 0 0 0 0 0 0 0 _).mono ?_;rw [uh Hs];rintro e w1 ⟨rfl,hb⟩;have kb:Blk w1 w.heap.size 42 E11:=((Blk.new w 42 E11).alloc _).below hb (by simp;omega)
 have ko:Blk w1 (w.heap.size+1) 42 E11:=by
  have k:=Blk.new (w.alloc (.cells E11 42)) 42 E11;rw [Yy] at k;exact k.below hb (by simp)
 have hsz:w.heap.size+2<=w1.heap.size:=by have:=hb.size;simp at this;omega
 have hl0:w.heap.size<w1.heap.size:=by omega
 have hl1:w.heap.size+1<w1.heap.size:=by omega
 have B1:=Z9 ((((ZZ w.heap.size w).alloc (Z0 _) _).alloc (by simp) _).trans (hb.mono (by simp;omega)));have Kb:=Z9 kb;have Ko:=Z9 ko;obtain ⟨c0,c1,c2,c3,c4,c5,c6,c7,c8,c9,c10⟩:=kb.c11;obtain ⟨o0,o1,o2,o3,o4,o5,o6,o7,o8,o9,o10⟩:=ko.c11;obtain ⟨of0,of1,of2,of3,of4,of5,of6,of7,of8,of9,of10⟩:=ko.f11;clear hb kb ko;go_wp2_with fail;refine ZE (v:= .tuple #[.agg E11,.bool false]) (by simp [results,results221,go_sem,o0,o1,o2,o3,o4,o5,o6,o7,o8,o9,o10]) rfl ⟨rfl,?_⟩
 iterate 11 (refine XI ?_ (by simp) _)
 exact uh B1
theorem J1 {st be rk my gu lo hi hd ca ut wk:Int} (work:Int) (w:World) (hs:Zt (st,be,rk,my,gu,lo,hi,hd,ca,ut,wk)=false):cB 221 #[.agg (I11 st be rk my gu lo hi hd ca ut wk),.int .i64 work] w (.tuple #[.agg E11,.bool false]):=by
 have Hs:=Z9 hs;clear hs;go_enter func221,ntmps221;go_wp2_with fail;refine (Zn st be rk my gu lo hi hd ca ut wk _).mono ?_;rw [uh Hs];rintro e w1 ⟨rfl,hb⟩;have kb:Blk w1 w.heap.size 42 (I11 st be rk my gu lo hi hd ca ut wk):=((Blk.new w 42 (I11 st be rk my gu lo hi hd ca ut wk)).alloc _).below hb (by simp;omega)
 have ko:Blk w1 (w.heap.size+1) 42 E11:=by
  have k:=Blk.new (w.alloc (.cells (I11 st be rk my gu lo hi hd ca ut wk) 42)) 42 E11;rw [Yy] at k;exact k.below hb (by simp)
 have hsz:w.heap.size+2<=w1.heap.size:=by have:=hb.size;simp at this;omega
 have hl0:w.heap.size<w1.heap.size:=by omega
 have hl1:w.heap.size+1<w1.heap.size:=by omega
 have B1:=Z9 ((((ZZ w.heap.size w).alloc (Z0 _) _).alloc (by simp) _).trans (hb.mono (by simp;omega)));have Kb:=Z9 kb;have Ko:=Z9 ko;obtain ⟨c0,c1,c2,c3,c4,c5,c6,c7,c8,c9,c10⟩:=kb.c11;obtain ⟨o0,o1,o2,o3,o4,o5,o6,o7,o8,o9,o10⟩:=ko.c11;obtain ⟨of0,of1,of2,of3,of4,of5,of6,of7,of8,of9,of10⟩:=ko.f11;clear hb kb ko;go_wp2_with fail;refine ZE (v:= .tuple #[.agg E11,.bool false]) (by simp [results,results221,go_sem,o0,o1,o2,o3,o4,o5,o6,o7,o8,o9,o10]) rfl ⟨rfl,?_⟩
 iterate 11 (refine XI ?_ (by simp) _)
 exact uh B1
theorem Dw {st be rk my gu lo hi hd ca ut wk:Int} (work:Int) (w:World) (hs:Zt (st,be,rk,my,gu,lo,hi,hd,ca,ut,wk)=true) (hst:(st ==0)=false) (hw:inB work 0 100000=false):cB 221 #[.agg (I11 st be rk my gu lo hi hd ca ut wk),.int .i64 work] w (.tuple #[.agg (I11 st be rk my gu lo hi hd ca ut wk),.bool false]):=by
 have Hs:=Z9 hs;clear hs;go_enter func221,ntmps221;go_wp2_with fail;refine (Zn st be rk my gu lo hi hd ca ut wk _).mono ?_;rw [uh Hs];rintro e w1 ⟨rfl,hb⟩;have kb:Blk w1 w.heap.size 42 (I11 st be rk my gu lo hi hd ca ut wk):=((Blk.new w 42 (I11 st be rk my gu lo hi hd ca ut wk)).alloc _).below hb (by simp;omega)
 have ko:Blk w1 (w.heap.size+1) 42 E11:=by
  have k:=Blk.new (w.alloc (.cells (I11 st be rk my gu lo hi hd ca ut wk) 42)) 42 E11;rw [Yy] at k;exact k.below hb (by simp)
 have hsz:w.heap.size+2<=w1.heap.size:=by have:=hb.size;simp at this;omega
 have hl0:w.heap.size<w1.heap.size:=by omega
 have hl1:w.heap.size+1<w1.heap.size:=by omega
 have B1:=Z9 ((((ZZ w.heap.size w).alloc (Z0 _) _).alloc (by simp) _).trans (hb.mono (by simp;omega)));have Kb:=Z9 kb;have Ko:=Z9 ko;obtain ⟨c0,c1,c2,c3,c4,c5,c6,c7,c8,c9,c10⟩:=kb.c11;obtain ⟨o0,o1,o2,o3,o4,o5,o6,o7,o8,o9,o10⟩:=ko.c11;obtain ⟨of0,of1,of2,of3,of4,of5,of6,of7,of8,of9,of10⟩:=ko.f11;clear hb kb ko;go_wp2_with (go_at_call 64;refine (ZV _ _ _ _).mono ?_;rintro e w' ⟨rfl,h9⟩;subst w')
 refine ZE (v:= .tuple #[.agg (I11 st be rk my gu lo hi hd ca ut wk),.bool false]) (by simp [results,results221,go_sem,o0,o1,o2,o3,o4,o5,o6,o7,o8,o9,o10]) rfl ⟨rfl,?_⟩
 iterate 11 (refine XI ?_ (by simp) _)
 exact uh B1
theorem EO {st be rk my gu lo hi hd ca ut wk:Int} {work x n l:Int} {w:World} (hx:Zm rk=x) (hok:WK work x ca=true) (hn:Tv work x ca=n) (hl:Tu work x ca=l) (n0:0<=n) (n1:n<=400000)
  (d0 : -1000000000000<=hd) (d1:hd<=1000000000000) (k0:0<=wk) (k1:wk<=100000000000) (v0:0<=work) (v1:work<=100000) (hs:Zt (st,be,rk,my,gu,lo,hi,hd,ca,ut,wk)=true) (hst:(st ==0)=false) (h2:Zt (st,be,rk,my,gu,lo,hi,(hd+n),l,ut,(wk+work))=true):cB 221 #[.agg (I11 st be rk my gu lo hi hd ca ut wk),.int .i64 work] w (.tuple #[.agg (I11 st be rk my gu lo hi (hd+n) l ut (wk+work)),.bool true]):=by
 have Hs:=Z9 hs;have H2:=Z9 h2;have Hx:=Z9 hx;have Hok:=Z9 hok;have Hn:=Z9 hn;have Hl:=Z9 hl;have hw:inB work 0 100000=true:=Zo v0 v1;clear hx hok hn hl hs h2;go_enter func221,ntmps221;go_wp2_with fail;refine (Zn st be rk my gu lo hi hd ca ut wk _).mono ?_;rw [uh Hs];rintro e w1 ⟨rfl,hb⟩;have kb:Blk w1 w.heap.size 42 (I11 st be rk my gu lo hi hd ca ut wk):=((Blk.new w 42 (I11 st be rk my gu lo hi hd ca ut wk)).alloc _).below hb (by simp;omega)
 have ko:Blk w1 (w.heap.size+1) 42 E11:=by
  have k:=Blk.new (w.alloc (.cells (I11 st be rk my gu lo hi hd ca ut wk) 42)) 42 E11;rw [Yy] at k;exact k.below hb (by simp)
 have hsz:w.heap.size+2<=w1.heap.size:=by have:=hb.size;simp at this;omega
 have hl0:w.heap.size<w1.heap.size:=by omega
 have hl1:w.heap.size+1<w1.heap.size:=by omega
 have B1:=Z9 ((((ZZ w.heap.size w).alloc (Z0 _) _).alloc (by simp) _).trans (hb.mono (by simp;omega)));have Kb:=Z9 kb;have Ko:=Z9 ko;obtain ⟨c0,c1,c2,c3,c4,c5,c6,c7,c8,c9,c10⟩:=kb.c11;obtain ⟨o0,o1,o2,o3,o4,o5,o6,o7,o8,o9,o10⟩:=ko.c11;obtain ⟨of0,of1,of2,of3,of4,of5,of6,of7,of8,of9,of10⟩:=ko.f11;clear hb kb ko;go_wp2_with (go_at_call 64;refine (ZV _ _ _ _).mono ?_;rintro e w' ⟨rfl,h9⟩;subst w')
 go_quiet (first | exact Yw (YK (uh Hx) _) | exact Calls.quiet_of (Q7 (uh Hok) (uh Hn) (uh Hl) _));have kb:Blk (w1.drewN nq) w.heap.size 42 (I11 st be rk my gu lo hi hd ca ut wk):=uh Kb;have ko:Blk (w1.drewN nq) (w.heap.size+1) 42 E11:=uh Ko;have b1:=YC (uh B1) nq;clear c0 o0 of0 c1 o1 of1 c2 o2 of2 c3 o3 of3 c4 o4 of4 c5 o5 of5 c6 o6 of6 c7 o7 of7 c8 o8 of8 c9 o9 of9 c10 o10 of10 Kb Ko B1 hl0 hl1;rw [show w1.heap.size=(w1.drewN nq).heap.size from rfl] at hsz;generalize w1.drewN nq=W1 at *;have hl0:w.heap.size<W1.heap.size:=by omega
 have hl1:w.heap.size+1<W1.heap.size:=by omega
 have Kb:=Z9 kb;have Ko:=Z9 ko;have B1:=Z9 b1;obtain ⟨c0,c1,c2,c3,c4,c5,c6,c7,c8,c9,c10⟩:=kb.c11;obtain ⟨o0,o1,o2,o3,o4,o5,o6,o7,o8,o9,o10⟩:=ko.c11;obtain ⟨of0,of1,of2,of3,of4,of5,of6,of7,of8,of9,of10⟩:=ko.f11;clear kb ko b1;go_wp2_with fail;refine (Zn st be rk my gu lo hi (hd+n) l ut (wk+work) _).mono ?_;rw [uh H2];rintro e w2 ⟨rfl,hb⟩;have kb:Blk w2 w.heap.size 42 (I11 st be rk my gu lo hi hd ca ut wk):=(hb.block w.heap.size (by simp;omega)).trans ((uh Kb).alloc (.cells (I11 st be rk my gu lo hi (hd+n) l ut (wk+work)) 42));have ko:Blk w2 (w.heap.size+1) 42 E11:=(hb.block (w.heap.size+1) (by simp;omega)).trans ((uh Ko).alloc (.cells (I11 st be rk my gu lo hi (hd+n) l ut (wk+work)) 42));have kn:Blk w2 W1.heap.size 42 (I11 st be rk my gu lo hi (hd+n) l ut (wk+work)):=(hb.block W1.heap.size (by simp)).trans (Blk.new W1 42 (I11 st be rk my gu lo hi (hd+n) l ut (wk+work)));have B2:Hid (Below w.heap.size w w2):=Z9 (((uh B1).alloc (by omega) (.cells (I11 st be rk my gu lo hi (hd+n) l ut (wk+work)) 42)).trans (hb.mono (by simp;omega)));clear c0 o0 of0 c1 o1 of1 c2 o2 of2 c3 o3 of3 c4 o4 of4 c5 o5 of5 c6 o6 of6 c7 o7 of7 c8 o8 of8 c9 o9 of9 c10 o10 of10 Kb Ko;obtain ⟨p0,p1,p2,p3,p4,p5,p6,p7,p8,p9,p10⟩:=kn.c11;obtain ⟨o0,o1,o2,o3,o4,o5,o6,o7,o8,o9,o10⟩:=ko.c11;obtain ⟨of0,of1,of2,of3,of4,of5,of6,of7,of8,of9,of10⟩:=ko.f11;clear hb kb ko kn;go_wp2_with fail;refine ZE (v:= .tuple #[.agg (I11 st be rk my gu lo hi (hd+n) l ut (wk+work)),.bool true]) (by simp [results,results221,go_sem,o0,o1,o2,o3,o4,o5,o6,o7,o8,o9,o10]) rfl ⟨rfl,?_⟩
 iterate 11 (refine XI ?_ (by simp) _)
 exact uh B2
theorem G5 {st be rk my gu lo hi hd ca ut wk:Int} {work x n l:Int} {w:World} (hx:Zm rk=x) (hok:WK work x ca=true) (hn:Tv work x ca=n) (hl:Tu work x ca=l) (n0:0<=n) (n1:n<=400000)
  (d0 : -1000000000000<=hd) (d1:hd<=1000000000000) (k0:0<=wk) (k1:wk<=100000000000) (v0:0<=work) (v1:work<=100000) (hs:Zt (st,be,rk,my,gu,lo,hi,hd,ca,ut,wk)=true) (hst:(st ==0)=false) (h2:Zt (st,be,rk,my,gu,lo,hi,(hd+n),l,ut,(wk+work))=false):cB 221 #[.agg (I11 st be rk my gu lo hi hd ca ut wk),.int .i64 work] w (.tuple #[.agg (I11 st be rk my gu lo hi hd ca ut wk),.bool false]):=by
 have Hs:=Z9 hs;have H2:=Z9 h2;have Hx:=Z9 hx;have Hok:=Z9 hok;have Hn:=Z9 hn;have Hl:=Z9 hl;have hw:inB work 0 100000=true:=Zo v0 v1;clear hx hok hn hl hs h2;go_enter func221,ntmps221;go_wp2_with fail;refine (Zn st be rk my gu lo hi hd ca ut wk _).mono ?_;rw [uh Hs];rintro e w1 ⟨rfl,hb⟩;have kb:Blk w1 w.heap.size 42 (I11 st be rk my gu lo hi hd ca ut wk):=((Blk.new w 42 (I11 st be rk my gu lo hi hd ca ut wk)).alloc _).below hb (by simp;omega)
 have ko:Blk w1 (w.heap.size+1) 42 E11:=by
  have k:=Blk.new (w.alloc (.cells (I11 st be rk my gu lo hi hd ca ut wk) 42)) 42 E11;rw [Yy] at k;exact k.below hb (by simp)
 have hsz:w.heap.size+2<=w1.heap.size:=by have:=hb.size;simp at this;omega
 have hl0:w.heap.size<w1.heap.size:=by omega
 have hl1:w.heap.size+1<w1.heap.size:=by omega
 have B1:=Z9 ((((ZZ w.heap.size w).alloc (Z0 _) _).alloc (by simp) _).trans (hb.mono (by simp;omega)));have Kb:=Z9 kb;have Ko:=Z9 ko;obtain ⟨c0,c1,c2,c3,c4,c5,c6,c7,c8,c9,c10⟩:=kb.c11;obtain ⟨o0,o1,o2,o3,o4,o5,o6,o7,o8,o9,o10⟩:=ko.c11;obtain ⟨of0,of1,of2,of3,of4,of5,of6,of7,of8,of9,of10⟩:=ko.f11;clear hb kb ko;go_wp2_with (go_at_call 64;refine (ZV _ _ _ _).mono ?_;rintro e w' ⟨rfl,h9⟩;subst w')
 go_quiet (first | exact Yw (YK (uh Hx) _) | exact Calls.quiet_of (Q7 (uh Hok) (uh Hn) (uh Hl) _));have kb:Blk (w1.drewN nq) w.heap.size 42 (I11 st be rk my gu lo hi hd ca ut wk):=uh Kb;have ko:Blk (w1.drewN nq) (w.heap.size+1) 42 E11:=uh Ko;have b1:=YC (uh B1) nq;clear c0 o0 of0 c1 o1 of1 c2 o2 of2 c3 o3 of3 c4 o4 of4 c5 o5 of5 c6 o6 of6 c7 o7 of7 c8 o8 of8 c9 o9 of9 c10 o10 of10 Kb Ko B1 hl0 hl1;rw [show w1.heap.size=(w1.drewN nq).heap.size from rfl] at hsz;generalize w1.drewN nq=W1 at *;have hl0:w.heap.size<W1.heap.size:=by omega
 have hl1:w.heap.size+1<W1.heap.size:=by omega
 have Kb:=Z9 kb;have Ko:=Z9 ko;have B1:=Z9 b1;obtain ⟨c0,c1,c2,c3,c4,c5,c6,c7,c8,c9,c10⟩:=kb.c11;obtain ⟨o0,o1,o2,o3,o4,o5,o6,o7,o8,o9,o10⟩:=ko.c11;obtain ⟨of0,of1,of2,of3,of4,of5,of6,of7,of8,of9,of10⟩:=ko.f11;clear kb ko b1;go_wp2_with fail;refine (Zn st be rk my gu lo hi (hd+n) l ut (wk+work) _).mono ?_;rw [uh H2];rintro e w2 ⟨rfl,hb⟩;have kb:Blk w2 w.heap.size 42 (I11 st be rk my gu lo hi hd ca ut wk):=(hb.block w.heap.size (by simp;omega)).trans ((uh Kb).alloc (.cells (I11 st be rk my gu lo hi (hd+n) l ut (wk+work)) 42));have ko:Blk w2 (w.heap.size+1) 42 E11:=(hb.block (w.heap.size+1) (by simp;omega)).trans ((uh Ko).alloc (.cells (I11 st be rk my gu lo hi (hd+n) l ut (wk+work)) 42));have kn:Blk w2 W1.heap.size 42 (I11 st be rk my gu lo hi (hd+n) l ut (wk+work)):=(hb.block W1.heap.size (by simp)).trans (Blk.new W1 42 (I11 st be rk my gu lo hi (hd+n) l ut (wk+work)));have B2:Hid (Below w.heap.size w w2):=Z9 (((uh B1).alloc (by omega) (.cells (I11 st be rk my gu lo hi (hd+n) l ut (wk+work)) 42)).trans (hb.mono (by simp;omega)));clear c0 o0 of0 c1 o1 of1 c2 o2 of2 c3 o3 of3 c4 o4 of4 c5 o5 of5 c6 o6 of6 c7 o7 of7 c8 o8 of8 c9 o9 of9 c10 o10 of10 Kb Ko;obtain ⟨p0,p1,p2,p3,p4,p5,p6,p7,p8,p9,p10⟩:=kb.c11;obtain ⟨o0,o1,o2,o3,o4,o5,o6,o7,o8,o9,o10⟩:=ko.c11;obtain ⟨of0,of1,of2,of3,of4,of5,of6,of7,of8,of9,of10⟩:=ko.f11;clear hb kb ko kn;go_wp2_with fail;refine ZE (v:= .tuple #[.agg (I11 st be rk my gu lo hi hd ca ut wk),.bool false]) (by simp [results,results221,go_sem,o0,o1,o2,o3,o4,o5,o6,o7,o8,o9,o10]) rfl ⟨rfl,?_⟩
 iterate 11 (refine XI ?_ (by simp) _)
 exact uh B2
theorem Tx {x:Z2} (h:YY x=true):Zt x=true:=by unfold Zt;rw [h,Bool.or_true]
theorem Ov {x:Z2} (h:x.1 ≠ 0):Zt x=YY x:=by unfold Zt;rw [Sj h,Bool.false_or]
theorem Nj {x:Z2} (work:Int) (hg:Vk x=true):Xj x work=(Ub,false):=by
 have e:=Vl hg;subst e;rfl
theorem O4 {x:Z2} (work:Int) (hg:Vk x=false) (hp:YY x=false):Xj x work=(Ub,false):=by unfold Xj;rw [hp,hg];rfl
theorem KE {x:Z2} {work:Int} (hp:YY x=true) (hw:inB work 0 100000=false):Xj x work=(x,false):=by unfold Xj;rw [hp,hw];rfl
theorem QB {x:Z2} {work:Int} {q:Bool} (hp:YY x=true) (hw:inB work 0 100000=true) (hq:YY (Oh x work)=q):Xj x work=(if q then Oh x work else x,q):=by unfold Xj;rw [hp,hw,hq];cases q<;>rfl
theorem G7 {st:Int} (h:1<=st):(st ==0)=false:=by simp;omega
theorem MV {x y:Z2} {work:Int} {q:Bool} (h:Xj x work=(y,q)) (w:World):cB 221 #[.agg (ZS x).toArray,.int .i64 work] w (.tuple #[.agg (ZS y).toArray,.bool q]):=by
 obtain ⟨st,be,rk,my,gu,lo,hi,hd,ca,ut,wk⟩:=x;cases hg:Vk (st,be,rk,my,gu,lo,hi,hd,ca,ut,wk)
 ·cases hp:YY (st,be,rk,my,gu,lo,hi,hd,ca,ut,wk)
  ·rw [O4 work hg hp] at h
   obtain ⟨rfl,rfl⟩:=Prod.mk.inj h;exact J1 work w (by unfold Zt;rw [hg,hp];rfl)
  ·cases hw:inB work 0 100000
   ·rw [KE hp hw] at h
    obtain ⟨rfl,rfl⟩:=Prod.mk.inj h;exact Dw work w (Tx hp) (G7 (Zd hp).1.1) hw
   ·obtain ⟨v0,v1⟩:=ZN hw
    obtain ⟨⟨s0,s1⟩,_,hr,_,_,_,⟨d0,d1⟩,⟨a0,a1⟩,_,⟨k0,k1⟩⟩:=Zd hp;have hr0:=VI hr;have hr1:=(Ua rk).2;have a2:ca<=3125:=by omega
    obtain ⟨hok,n0,n1,_,_,_⟩:=Dp v0 v1 hr0 hr1 a0 a1;cases hq:YY (Oh (st,be,rk,my,gu,lo,hi,hd,ca,ut,wk) work)
    ·rw [QB hp hw hq] at h
     obtain ⟨rfl,rfl⟩:=Prod.mk.inj h;exact G5 rfl hok rfl rfl n0 n1 d0 d1 k0 k1 v0 v1 (Tx hp) (G7 s0) ((Ov (x:=Oh (st,be,rk,my,gu,lo,hi,hd,ca,ut,wk) work) (show st ≠ 0 by omega)).trans hq)
    ·rw [QB hp hw hq] at h
     obtain ⟨rfl,rfl⟩:=Prod.mk.inj h;exact EO rfl hok rfl rfl n0 n1 d0 d1 k0 k1 v0 v1 (Tx hp) (G7 s0) ((Ov (x:=Oh (st,be,rk,my,gu,lo,hi,hd,ca,ut,wk) work) (show st ≠ 0 by omega)).trans hq)
 ·rw [Nj work hg] at h
  obtain ⟨rfl,rfl⟩:=Prod.mk.inj h;cases Vl hg;exact G0 work w
end Go.Proofs.YtlcpgkakdieeaaaGreat
