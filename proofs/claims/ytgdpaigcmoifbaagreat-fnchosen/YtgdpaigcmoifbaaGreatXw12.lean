/- Part 12 of what the proof rests on. No condition but those that a theorem names. -/
import Derived.Test.YtgdpaigcmoifbaaGreatXw09
import Derived.Test.YtgdpaigcmoifbaaGreatXw10
set_option maxHeartbeats 8000000
set_option maxRecDepth 100000
namespace Go.Proofs.YtgdpaigcmoifbaaGreat
open Go.ChangeShapes Go.WideShapes Go.ChangeAt Go.RowKit Go.Sort Go.Proofs.Tryz
set_option linter.unusedVariables false
theorem Oy (x0 x1 x2 x3 x4 x5 x6 x7 x8 x9 x10 y0 y1 y2 y3 y4 y5 y6 y7 y8 y9 y10:Int) (w:World):(Op.equalIn 10000 38 (.agg (I11 x0 x1 x2 x3 x4 x5 x6 x7 x8 x9 x10)) (.agg (I11 y0 y1 y2 y3 y4 y5 y6 y7 y8 y9 y10))).run prog w= .ok (Ta (x0,x1,x2,x3,x4,x5,x6,x7,x8,x9,x10) (y0,y1,y2,y3,y4,y5,y6,y7,y8,y9,y10)) w:=by
 have u:=underlying2;have a:=Tryz.isAgg2;have z:=Tryz.sizeOf2;have hS:prog.underlying 38=some (.struct (prog.fieldsOf 38)):=by kernel_rfl
 have hp:prog.stoodInHeld 38=false:=by kernel_rfl
 rw [show (10000:Nat)=9999+1 from rfl,run_equalIn_agg w 9999 38 _ _ hS hp];simp only [Program.fieldsOf,underlying38];go_simp;unfold Ta;by_cases h0:x0=y0;rotate_left
 ·simp [h0]
 subst h0;by_cases h1:x1=y1;rotate_left
 ·simp [h1]
 subst h1;by_cases h2:x2=y2;rotate_left
 ·simp [h2]
 subst h2;by_cases h3:x3=y3;rotate_left
 ·simp [h3]
 subst h3;by_cases h4:x4=y4;rotate_left
 ·simp [h4]
 subst h4;by_cases h5:x5=y5;rotate_left
 ·simp [h5]
 subst h5;by_cases h6:x6=y6;rotate_left
 ·simp [h6]
 subst h6;by_cases h7:x7=y7;rotate_left
 ·simp [h7]
 subst h7;by_cases h8:x8=y8;rotate_left
 ·simp [h8]
 subst h8;by_cases h9:x9=y9;rotate_left
 ·simp [h9]
 subst h9;by_cases h10:x10=y10;rotate_left
 ·simp [h10]
 subst h10;simp
theorem Kp (x0 x1 x2 x3 x4 x5 x6 x7 x8 x9 x10 y0 y1 y2 y3 y4 y5 y6 y7 y8 y9 y10:Int) (w:World):(binOp .eql 38 (.agg (I11 x0 x1 x2 x3 x4 x5 x6 x7 x8 x9 x10)) (.agg (I11 y0 y1 y2 y3 y4 y5 y6 y7 y8 y9 y10))).run prog w= .ok (.bool (Ta (x0,x1,x2,x3,x4,x5,x6,x7,x8,x9,x10) (y0,y1,y2,y3,y4,y5,y6,y7,y8,y9,y10))) w:=by
 rw [run_eql_struct,Oy];rfl
theorem Kq (x0 x1 x2 x3 x4 x5 x6 x7 x8 x9 x10 y0 y1 y2 y3 y4 y5 y6 y7 y8 y9 y10:Int) (w:World):(binOp .neq 38 (.agg (I11 x0 x1 x2 x3 x4 x5 x6 x7 x8 x9 x10)) (.agg (I11 y0 y1 y2 y3 y4 y5 y6 y7 y8 y9 y10))).run prog w= .ok (.bool (!Ta (x0,x1,x2,x3,x4,x5,x6,x7,x8,x9,x10) (y0,y1,y2,y3,y4,y5,y6,y7,y8,y9,y10))) w:=by
 rw [run_neq_struct,Oy];rfl
theorem Rf {r x:Int} (h:Zb r=x) (w:World):cE 331 #[.int .i64 r] w (.int .i64 x):=by
 have:=OX r w;rw [h] at this;exact this
theorem Yu {r x:Int} (h:Zb r=x) (w:World):cE 196 #[.int .i64 r] w (.int .i64 x):=by
 have:=Ph r w;rw [h] at this;exact this
attribute [local go_sem ↓] Kp Kq
theorem WY (n:Int) (w:World):cE 195 #[.int .i64 n] w (.bool (inB n (-1000000000000) 1000000000000)):=by
 go_enter func195,ntmps195;go_wp2_with (go_at_call 129;refine (ZV _ _ _ _).mono ?_;rintro e w' ⟨rfl,rfl⟩)
 go_ret;exact ⟨rfl,rfl⟩
theorem Zd (st be rk my gu lo hi hd ca ut wk:Int) (w:World):cB 134 #[.agg (I11 st be rk my gu lo hi hd ca ut wk)] w (.bool (Zm (st,be,rk,my,gu,lo,hi,hd,ca,ut,wk))):=by
 by_cases hst:st=0
 ·subst hst
  unfold Zm;rw [MD rfl,Bool.or_false];obtain ⟨q,hq⟩:=ZJ (US (0,be,rk,my,gu,lo,hi,hd,ca,ut,wk));rw [hq];have hz:Ta (0,be,rk,my,gu,lo,hi,hd,ca,ut,wk) (0,0,0,0,0,0,0,0,0,0,0)=q:=hq;clear hq;go_enter func134,ntmps134;go_wp2_with fail;go_ret;exact ⟨rfl,(ba _ _)⟩
 ·have hne:(st ==0)=false:=by simpa using hst
  unfold Zm;rw [Q9 hst,Bool.false_or];unfold YN;simp only;obtain ⟨x0,x1⟩:=Te rk;obtain ⟨x,hx⟩:=ZJ (Zb rk);rw [hx] at x0 x1 ⊢;have Hw:=Z9 hx;have hwr:IntKind.i64.wrap (x-1)=x-1:=by rw [IntKind.wrap_i64];omega
  clear hx hst;cases h0:inB st 1 3
  ·go_enter func134,ntmps134
   go_wp2_with (first | (go_at_call 129;refine (ZV _ _ _ _).mono ?_;rintro e w' ⟨rfl,rfl⟩) | (go_at_call 194;refine (YG _ _).mono ?_;rintro e w' ⟨rfl,rfl⟩) | (go_at_call 193;refine (Yz _ _ _).mono ?_;rintro e w' ⟨rfl,rfl⟩))
   go_ret;exact ⟨rfl,(ba _ _)⟩
  cases h1:inB be 0 7
  ·go_enter func134,ntmps134
   go_wp2_with (first | (go_at_call 129;refine (ZV _ _ _ _).mono ?_;rintro e w' ⟨rfl,rfl⟩) | (go_at_call 194;refine (YG _ _).mono ?_;rintro e w' ⟨rfl,rfl⟩) | (go_at_call 193;refine (Yz _ _ _).mono ?_;rintro e w' ⟨rfl,rfl⟩))
   go_ret;exact ⟨rfl,(ba _ _)⟩
  cases h2:inB rk (-5) 5
  ·go_enter func134,ntmps134
   go_wp2_with (first | (go_at_call 129;refine (ZV _ _ _ _).mono ?_;rintro e w' ⟨rfl,rfl⟩) | (go_at_call 194;refine (YG _ _).mono ?_;rintro e w' ⟨rfl,rfl⟩) | (go_at_call 193;refine (Yz _ _ _).mono ?_;rintro e w' ⟨rfl,rfl⟩))
   go_ret;exact ⟨rfl,(ba _ _)⟩
  cases h3:inB my 1 255
  ·go_enter func134,ntmps134
   go_wp2_with (first | (go_at_call 129;refine (ZV _ _ _ _).mono ?_;rintro e w' ⟨rfl,rfl⟩) | (go_at_call 194;refine (YG _ _).mono ?_;rintro e w' ⟨rfl,rfl⟩) | (go_at_call 193;refine (Yz _ _ _).mono ?_;rintro e w' ⟨rfl,rfl⟩))
   go_ret;exact ⟨rfl,(ba _ _)⟩
  cases h4:inB gu (-1) 5
  ·go_enter func134,ntmps134
   go_wp2_with (first | (go_at_call 129;refine (ZV _ _ _ _).mono ?_;rintro e w' ⟨rfl,rfl⟩) | (go_at_call 194;refine (YG _ _).mono ?_;rintro e w' ⟨rfl,rfl⟩) | (go_at_call 193;refine (Yz _ _ _).mono ?_;rintro e w' ⟨rfl,rfl⟩))
   go_ret;exact ⟨rfl,(ba _ _)⟩
  cases h5:Ye lo hi
  ·go_enter func134,ntmps134
   go_wp2_with (first | (go_at_call 129;refine (ZV _ _ _ _).mono ?_;rintro e w' ⟨rfl,rfl⟩) | (go_at_call 194;refine (YG _ _).mono ?_;rintro e w' ⟨rfl,rfl⟩) | (go_at_call 193;refine (Yz _ _ _).mono ?_;rintro e w' ⟨rfl,rfl⟩))
   go_ret;exact ⟨rfl,(ba _ _)⟩
  cases h6:inB hd (-1000000000000) 1000000000000
  ·go_enter func134,ntmps134
   go_wp2_with (first | (go_at_call 129;refine (ZV _ _ _ _).mono ?_;rintro e w' ⟨rfl,rfl⟩) | (go_at_call 194;refine (YG _ _).mono ?_;rintro e w' ⟨rfl,rfl⟩) | (go_at_call 193;refine (Yz _ _ _).mono ?_;rintro e w' ⟨rfl,rfl⟩))
   go_quiet (first | exact Yi (ZV _ _ _ _) | exact Yi (WY _ _) | exact Yi (Yu (uh Hw) _) | exact Yi (Yd _ _));go_wp2_with fail;go_ret;exact ⟨rfl,Ym ((ba _ _)) _⟩
  cases h7:inB ca 0 (x-1)
  ·go_enter func134,ntmps134
   go_wp2_with (first | (go_at_call 129;refine (ZV _ _ _ _).mono ?_;rintro e w' ⟨rfl,rfl⟩) | (go_at_call 194;refine (YG _ _).mono ?_;rintro e w' ⟨rfl,rfl⟩) | (go_at_call 193;refine (Yz _ _ _).mono ?_;rintro e w' ⟨rfl,rfl⟩))
   go_quiet (first | exact Yi (ZV _ _ _ _) | exact Yi (WY _ _) | exact Yi (Yu (uh Hw) _) | exact Yi (Yd _ _));go_wp2_with fail;go_ret;exact ⟨rfl,Ym ((ba _ _)) _⟩
  cases h8:inB ut 0 1024
  ·go_enter func134,ntmps134
   go_wp2_with (first | (go_at_call 129;refine (ZV _ _ _ _).mono ?_;rintro e w' ⟨rfl,rfl⟩) | (go_at_call 194;refine (YG _ _).mono ?_;rintro e w' ⟨rfl,rfl⟩) | (go_at_call 193;refine (Yz _ _ _).mono ?_;rintro e w' ⟨rfl,rfl⟩))
   go_quiet (first | exact Yi (ZV _ _ _ _) | exact Yi (WY _ _) | exact Yi (Yu (uh Hw) _) | exact Yi (Yd _ _));go_wp2_with fail;go_ret;exact ⟨rfl,Ym ((ba _ _)) _⟩
  cases h9:inB wk 0 100000000000
  ·go_enter func134,ntmps134
   go_wp2_with (first | (go_at_call 129;refine (ZV _ _ _ _).mono ?_;rintro e w' ⟨rfl,rfl⟩) | (go_at_call 194;refine (YG _ _).mono ?_;rintro e w' ⟨rfl,rfl⟩) | (go_at_call 193;refine (Yz _ _ _).mono ?_;rintro e w' ⟨rfl,rfl⟩))
   go_quiet (first | exact Yi (ZV _ _ _ _) | exact Yi (WY _ _) | exact Yi (Yu (uh Hw) _) | exact Yi (Yd _ _));go_wp2_with fail;go_ret;exact ⟨rfl,Ym ((ba _ _)) _⟩
  go_enter func134,ntmps134;go_wp2_with (first | (go_at_call 129;refine (ZV _ _ _ _).mono ?_;rintro e w' ⟨rfl,rfl⟩) | (go_at_call 194;refine (YG _ _).mono ?_;rintro e w' ⟨rfl,rfl⟩) | (go_at_call 193;refine (Yz _ _ _).mono ?_;rintro e w' ⟨rfl,rfl⟩))
  go_quiet (first | exact Yi (ZV _ _ _ _) | exact Yi (WY _ _) | exact Yi (Yu (uh Hw) _) | exact Yi (Yd _ _));go_wp2_with fail;go_ret;exact ⟨rfl,Ym ((ba _ _)) _⟩
end Go.Proofs.YtgdpaigcmoifbaaGreat
namespace Go.Proofs.YtgdpaigcmoifbaaGreat
open Go.ChangeShapes Go.WideShapes Go.ChangeAt Go.RowKit Go.Sort Go.Proofs.Tryz
set_option linter.unusedVariables false
theorem BI:∀ k:Fin 256,(Vy (k.val:Int) != -1)=inB (k.val:Int) 1 255:=by decide +kernel
theorem BJ (s:Int):(Vy s != -1)=inB s 1 255:=by
 cases h:inB s 0 255
 ·have hf:Vy s= -1:=by unfold Vy Sq;rw [Ky h];rfl
  have h2:s<0\/255<s:=by
   rcases Int.lt_or_le s 0 with h1 | h1
   ·exact .inl h1
   ·rcases Int.lt_or_le 255 s with h2 | h2
    ·exact .inr h2
    ·rw [Zn h1 h2] at h;cases h
  rw [hf,Wk (by omega)];rfl
 ·obtain ⟨h0,h1⟩:=ZN h
  obtain ⟨n,rfl⟩:=Int.eq_ofNat_of_zero_le h0;exact BI ⟨n,by omega⟩
theorem KN {s f:Int} (h:Vy s=f) (w:World):cB 330 #[.int .i64 s] w (.int .i64 f):=by
 have:=NO s w;rw [h] at this;exact this
theorem BS (s:Int) (w:World):cB 327 #[.int .i64 s] w (.bool (inB s 1 255)):=by
 have hf:=BJ s;obtain ⟨f,hv⟩:=ZJ (Vy s);have Hv:=Z9 hv;rw [hv] at hf;have Hf:=Z9 hf;clear hf hv;go_enter func327,ntmps327;go_wp2_with fail;refine ck (KN (uh Hv) _) fun w1 hb=> ?_;go_wp2_with fail;go_ret;exact ⟨Z5 (uh Hf),hb⟩
theorem Gp (c r:Int) (w:World):cE 328 #[.int .i64 c,.int .i64 r] w (.bool (inB c 0 (Zb r-1))):=by
 obtain ⟨x,hv⟩:=ZJ (Zb r);have Hv:=Z9 hv;rw [hv];clear hv;by_cases h0:0<=c
 ·by_cases h1:c<x
  ·rw [Zn (x:=c) (lo:=0) (hi:=x-1) h0 (by omega)]
   go_enter func328,ntmps328;go_wp2_with (go_at_call 331;refine (Rf (uh Hv) _).mono ?_;rintro e w' ⟨rfl,rfl⟩)
   go_ret;exact ⟨rfl,rfl⟩
  ·rw [Wk (x:=c) (lo:=0) (hi:=x-1) (by omega)]
   go_enter func328,ntmps328;go_wp2_with (go_at_call 331;refine (Rf (uh Hv) _).mono ?_;rintro e w' ⟨rfl,rfl⟩)
   go_ret;exact ⟨Z5 (b:=false) (by rw [decide_eq_false_iff_not];omega),rfl⟩
 ·rw [Wk (x:=c) (lo:=0) (hi:=x-1) (by omega)]
  go_enter func328,ntmps328;go_wp2_with fail;go_ret;exact ⟨rfl,rfl⟩
theorem PO (n:Int) (w:World):cE 301 #[.int .i64 n] w (.bool (inB n (-1000000000000) 1000000000000)):=by
 go_enter func301,ntmps301;go_wp2_with (go_at_call 219;refine (Zy _ _ _ _).mono ?_;rintro e w' ⟨rfl,rfl⟩)
 go_ret;exact ⟨rfl,rfl⟩
theorem JV {c r:Int} {q:Bool} (h:inB c 0 (Zb r-1)=q) (w:World):cE 328 #[.int .i64 c,.int .i64 r] w (.bool q):=by
 have:=Gp c r w;rw [h] at this;exact this
theorem Aj (x:Int):inB x 0 (0-1)=false:=by
 refine Wk ?_
 rcases Int.lt_or_le x 0 with h | h
 ·exact .inl h
 ·exact .inr (by omega)
theorem AN (st be rk my gu lo hi hd ca ut wk:Int):YN (st,be,rk,my,gu,lo,hi,hd,ca,ut,wk)=(inB st 1 3 && (inB be 0 7 && (inB my 1 255 && (inB gu (-1) 5 && (Ye lo hi && (inB hd (-1000000000000) 1000000000000 && (inB ca 0 (Zb rk-1) && (inB ut 0 1024 && (inB wk 0 100000000000))))))))):=by
 unfold YN;simp only;cases hr:inB rk (-5) 5
 ·rw [VG hr,show inB ca 0 (0-1)=false from Aj ca]
  simp
 ·simp only [Bool.true_and]
theorem Qo (st be rk my gu lo hi hd ca ut wk:Int) (w:World):cB 322 #[.agg (I11 st be rk my gu lo hi hd ca ut wk)] w (.bool (YN (st,be,rk,my,gu,lo,hi,hd,ca,ut,wk))):=by
 rw [AN];obtain ⟨qc,hqc⟩:=ZJ (inB ca 0 (Zb rk-1));have Hc:=Z9 hqc;rw [hqc];clear hqc;cases h_st:inB st 1 3;rotate_left;cases h_be:inB be 0 7;rotate_left;cases h_my:inB my 1 255;rotate_left;cases h_gu:inB gu (-1) 5;rotate_left;cases h_pr:Ye lo hi;rotate_left;cases h_hd:inB hd (-1000000000000) 1000000000000;rotate_left;cases qc;rotate_left;cases h_ut:inB ut 0 1024;rotate_left;cases h_wk:inB wk 0 100000000000
 all_goals
  go_enter func322,ntmps322;go_wp2_with (first | (go_at_call 219;refine (Zy _ _ _ _).mono ?_;rintro e w' ⟨rfl,rfl⟩) | (go_at_call 201;refine (UW _ _).mono ?_;rintro e w' ⟨rfl,rfl⟩) | (go_at_call 283;refine (Th _ _ _).mono ?_;rintro e w' ⟨rfl,rfl⟩) | (go_at_call 301;refine (PO _ _).mono ?_;rintro e w' ⟨rfl,rfl⟩) | (go_at_call 328;refine (JV (uh Hc) _).mono ?_;rintro e w' ⟨rfl,rfl⟩) | (go_at_call 329;refine (Mk _ _).mono ?_;rintro e w' ⟨rfl,rfl⟩))
  try
   refine ck (BS _ _) fun w1 hb=> ?_;have c2:w1.cell? ⟨w.heap.size,2,none⟩=some (.int .i64 rk):=(hb.cell (p:=⟨w.heap.size,2,none⟩) (by simp)).trans (Y4 _ rfl);have c4:w1.cell? ⟨w.heap.size,4,none⟩=some (.int .i64 gu):=(hb.cell (p:=⟨w.heap.size,4,none⟩) (by simp)).trans (Y4 _ rfl);have c5:w1.cell? ⟨w.heap.size,5,none⟩=some (.int .i64 lo):=(hb.cell (p:=⟨w.heap.size,5,none⟩) (by simp)).trans (Y4 _ rfl);have c6:w1.cell? ⟨w.heap.size,6,none⟩=some (.int .i64 hi):=(hb.cell (p:=⟨w.heap.size,6,none⟩) (by simp)).trans (Y4 _ rfl);have c7:w1.cell? ⟨w.heap.size,7,none⟩=some (.int .i64 hd):=(hb.cell (p:=⟨w.heap.size,7,none⟩) (by simp)).trans (Y4 _ rfl);have c8:w1.cell? ⟨w.heap.size,8,none⟩=some (.int .i64 ca):=(hb.cell (p:=⟨w.heap.size,8,none⟩) (by simp)).trans (Y4 _ rfl);have c9:w1.cell? ⟨w.heap.size,9,none⟩=some (.int .i64 ut):=(hb.cell (p:=⟨w.heap.size,9,none⟩) (by simp)).trans (Y4 _ rfl);have c10:w1.cell? ⟨w.heap.size,10,none⟩=some (.int .i64 wk):=(hb.cell (p:=⟨w.heap.size,10,none⟩) (by simp)).trans (Y4 _ rfl);have Hb:=Z9 (((Z3 w.heap.size w).alloc (Z0 _) _).trans (hb.mono (by simp)));clear hb;go_wp2_with (first | (go_at_call 219;refine (Zy _ _ _ _).mono ?_;rintro e w' ⟨rfl,rfl⟩) | (go_at_call 201;refine (UW _ _).mono ?_;rintro e w' ⟨rfl,rfl⟩) | (go_at_call 283;refine (Th _ _ _).mono ?_;rintro e w' ⟨rfl,rfl⟩) | (go_at_call 301;refine (PO _ _).mono ?_;rintro e w' ⟨rfl,rfl⟩) | (go_at_call 328;refine (JV (uh Hc) _).mono ?_;rintro e w' ⟨rfl,rfl⟩) | (go_at_call 329;refine (Mk _ _).mono ?_;rintro e w' ⟨rfl,rfl⟩))
  go_ret
  first | exact ⟨rfl,uh Hb⟩ | exact ⟨rfl,(ba _ _)⟩
attribute [local go_sem ↓] Kp Kq
theorem Jt (w:World):cB 295 #[.agg E11] w (.iface 281 (.agg #[])):=by
 have hz:Ta (0,0,0,0,0,0,0,0,0,0,0) (0,0,0,0,0,0,0,0,0,0,0)=true:=rfl;go_enter func295,ntmps295;go_wp2_with fail;go_ret;exact ⟨rfl,(ba _ _)⟩
theorem Ju {st be rk my gu lo hi hd ca ut wk:Int} (hg:US (st,be,rk,my,gu,lo,hi,hd,ca,ut,wk)=false) (hp:YN (st,be,rk,my,gu,lo,hi,hd,ca,ut,wk)=true) (w:World):cB 295 #[.agg (I11 st be rk my gu lo hi hd ca ut wk)] w (.iface 283 (.agg (I11 st be rk my gu lo hi hd ca ut wk))):=by
 have hz:Ta (st,be,rk,my,gu,lo,hi,hd,ca,ut,wk) (0,0,0,0,0,0,0,0,0,0,0)=false:=hg;have Hp:=Z9 hp;clear hg hp;go_enter func295,ntmps295;go_wp2_with fail;refine (Qo st be rk my gu lo hi hd ca ut wk _).mono ?_;rw [uh Hp];rintro e w1 ⟨rfl,hb⟩;have c0:w1.cell? ⟨w.heap.size,0,none⟩=some (.int .i64 st):=(hb.cell (p:=⟨w.heap.size,0,none⟩) (by simp)).trans (Y4 _ rfl);have c1:w1.cell? ⟨w.heap.size,1,none⟩=some (.int .i64 be):=(hb.cell (p:=⟨w.heap.size,1,none⟩) (by simp)).trans (Y4 _ rfl);have c2:w1.cell? ⟨w.heap.size,2,none⟩=some (.int .i64 rk):=(hb.cell (p:=⟨w.heap.size,2,none⟩) (by simp)).trans (Y4 _ rfl);have c3:w1.cell? ⟨w.heap.size,3,none⟩=some (.int .i64 my):=(hb.cell (p:=⟨w.heap.size,3,none⟩) (by simp)).trans (Y4 _ rfl);have c4:w1.cell? ⟨w.heap.size,4,none⟩=some (.int .i64 gu):=(hb.cell (p:=⟨w.heap.size,4,none⟩) (by simp)).trans (Y4 _ rfl);have c5:w1.cell? ⟨w.heap.size,5,none⟩=some (.int .i64 lo):=(hb.cell (p:=⟨w.heap.size,5,none⟩) (by simp)).trans (Y4 _ rfl);have c6:w1.cell? ⟨w.heap.size,6,none⟩=some (.int .i64 hi):=(hb.cell (p:=⟨w.heap.size,6,none⟩) (by simp)).trans (Y4 _ rfl);have c7:w1.cell? ⟨w.heap.size,7,none⟩=some (.int .i64 hd):=(hb.cell (p:=⟨w.heap.size,7,none⟩) (by simp)).trans (Y4 _ rfl);have c8:w1.cell? ⟨w.heap.size,8,none⟩=some (.int .i64 ca):=(hb.cell (p:=⟨w.heap.size,8,none⟩) (by simp)).trans (Y4 _ rfl);have c9:w1.cell? ⟨w.heap.size,9,none⟩=some (.int .i64 ut):=(hb.cell (p:=⟨w.heap.size,9,none⟩) (by simp)).trans (Y4 _ rfl);have c10:w1.cell? ⟨w.heap.size,10,none⟩=some (.int .i64 wk):=(hb.cell (p:=⟨w.heap.size,10,none⟩) (by simp)).trans (Y4 _ rfl);have Hb:=Z9 (((Z3 w.heap.size w).alloc (Z0 _) _).trans (hb.mono (by simp)));clear hb;go_wp2_with fail;go_ret;exact ⟨rfl,uh Hb⟩
theorem Lc {st be rk my gu lo hi hd ca ut wk:Int} (hg:US (st,be,rk,my,gu,lo,hi,hd,ca,ut,wk)=false) (hp:YN (st,be,rk,my,gu,lo,hi,hd,ca,ut,wk)=false) (w:World):cB 295 #[.agg (I11 st be rk my gu lo hi hd ca ut wk)] w (.iface 284 (.agg #[])):=by
 have hz:Ta (st,be,rk,my,gu,lo,hi,hd,ca,ut,wk) (0,0,0,0,0,0,0,0,0,0,0)=false:=hg;have Hp:=Z9 hp;clear hg hp;go_enter func295,ntmps295;go_wp2_with fail;refine (Qo st be rk my gu lo hi hd ca ut wk _).mono ?_;rw [uh Hp];rintro e w1 ⟨rfl,hb⟩;have Hb:=Z9 (((Z3 w.heap.size w).alloc (Z0 _) _).trans (hb.mono (by simp)));clear hb;go_wp2_with fail;go_ret;exact ⟨rfl,uh Hb⟩
theorem yD (w : World) : (method 414 281 (.agg #[]) "loop.example/g00553/impl.isSmith").run prog w = .ok (371, .agg #[]) w := by kernel_rfl
theorem zr (w : World) : (method 414 284 (.agg #[]) "loop.example/g00553/impl.isSmith").run prog w = .ok (373, .agg #[]) w := by kernel_rfl
theorem yE (st be rk my gu lo hi hd ca ut wk : Int) (w : World) : (method 414 283 (.agg (I11 st be rk my gu lo hi hd ca ut wk)) "loop.example/g00553/impl.isSmith").run prog w = .ok (372, .agg (I11 st be rk my gu lo hi hd ca ut wk)) w := by kernel_rfl
theorem Ea (w:World):cB 371 #[.agg #[]] w (.bool true):=by
 go_enter func371,ntmps371;go_wp2_with fail;go_ret;exact ⟨rfl,(ba _ _)⟩
theorem IL (w:World):cB 373 #[.agg #[]] w (.bool false):=by
 go_enter func373,ntmps373;go_wp2_with fail;go_ret;exact ⟨rfl,(ba _ _)⟩
theorem EI (st be rk my gu lo hi hd ca ut wk:Int) (w:World):cB 372 #[.agg (I11 st be rk my gu lo hi hd ca ut wk)] w (.bool true):=by
 go_enter func372,ntmps372;go_wp2_with fail;go_ret;exact ⟨rfl,(ba _ _)⟩
attribute [local go_sem] yD zr yE
theorem NS (st be rk my gu lo hi hd ca ut wk:Int) (w:World):cB 248 #[.agg (I11 st be rk my gu lo hi hd ca ut wk)] w (.bool (Zm (st,be,rk,my,gu,lo,hi,hd,ca,ut,wk))):=by
 unfold Zm;cases hg:US (st,be,rk,my,gu,lo,hi,hd,ca,ut,wk)
 ·cases hp:YN (st,be,rk,my,gu,lo,hi,hd,ca,ut,wk)
  ·rw [show (false || false)=false from rfl]
   have Hg:=Z9 hg;have Hp:=Z9 hp;clear hg hp;go_enter func248,ntmps248;go_wp2_with fail;refine ck (Lc (uh Hg) (uh Hp) _) fun w1 hb=> ?_;have B1:=Z9 (((Z3 w.heap.size w).alloc (Z0 _) _).trans (hb.mono (by simp)));clear hb;go_wp2_with fail;refine ck (IL _) fun w2 hb=> ?_;have B2:=Z9 ((uh B1).trans (hb.mono (uh B1).size));clear hb;go_wp2_with fail;go_ret;exact ⟨rfl,uh B2⟩
  ·rw [show (false || true)=true from rfl]
   have Hg:=Z9 hg;have Hp:=Z9 hp;clear hg hp;go_enter func248,ntmps248;go_wp2_with fail;refine ck (Ju (uh Hg) (uh Hp) _) fun w1 hb=> ?_;have B1:=Z9 (((Z3 w.heap.size w).alloc (Z0 _) _).trans (hb.mono (by simp)));clear hb;go_wp2_with fail;refine ck (EI _ _ _ _ _ _ _ _ _ _ _ _) fun w2 hb=> ?_;have B2:=Z9 ((uh B1).trans (hb.mono (uh B1).size));clear hb;go_wp2_with fail;go_ret;exact ⟨rfl,uh B2⟩
 ·rw [Bool.true_or]
  cases UT hg;clear hg;go_enter func248,ntmps248;go_wp2_with fail;refine ck (Jt _) fun w1 hb=> ?_;have B1:=Z9 (((Z3 w.heap.size w).alloc (Z0 _) _).trans (hb.mono (by simp)));clear hb;go_wp2_with fail;refine ck (Ea _) fun w2 hb=> ?_;have B2:=Z9 ((uh B1).trans (hb.mono (uh B1).size));clear hb;go_wp2_with fail;go_ret;exact ⟨rfl,uh B2⟩
end Go.Proofs.YtgdpaigcmoifbaaGreat
namespace Go.Proofs.YtgdpaigcmoifbaaGreat
open Go.ChangeShapes Go.WideShapes Go.ChangeAt Go.RowKit Go.Sort Go.Deep Go.Proofs.Tryz
set_option linter.unusedVariables false
set_option linter.unusedSimpArgs false
theorem PT {a b c n l:Int} (h:Wb a b c=true) (hn:SC a b c=n) (hl:SA a b c=l) (w:World):Calls prog 324 #[.int .i64 a,.int .i64 b,.int .i64 c] w fun e w'=>e= .returned (.tuple #[.int .i64 n,.int .i64 l])/\ ∃ m,w'=w.drewN m:=by
 obtain ⟨h1,h2⟩:=Kn h;rw [<-hn,<-hl,h1,h2];clear h1 h2 hn hl;obtain ⟨a0,a1,b0,b1,c0,c1⟩:=EE h;have ha:inB a 0 1000000000=true:=Zn a0 a1;have hb:inB b 1 100000=true:=Zn b0 b1;have hc:inB c 0 (b-1)=true:=Zn c0 (by omega);go_enter func324,ntmps324;go_wp2_with (first | (go_at_call 321;refine (SW _ _).mono ?_;rintro e w' ⟨rfl,rfl⟩) | (go_at_call 129;refine (ZV _ _ _ _).mono ?_;rintro e w' ⟨rfl,rfl⟩))
 go_quiet (fail);go_wp2_with fail
 go_ret2
 exact ⟨rfl,_,rfl⟩
theorem EZ (work:Int) (w:World):cB 310 #[.agg E11,.int .i64 work] w (.tuple #[.agg E11,.bool false]):=by
 have Hs:Hid (Zm (0,0,0,0,0,0,0,0,0,0,0)=true):=Z9 rfl;go_enter func310,ntmps310;go_wp2_with fail;refine (Zd 0 0 0 0 0 0 0 0 0 0 0 _).mono ?_;rw [uh Hs];rintro e w1 ⟨rfl,hb⟩;have kb:Blk w1 w.heap.size 38 E11:=((Blk.new w 38 E11).alloc _).below hb (by simp;omega)
 have ko:Blk w1 (w.heap.size+1) 38 E11:=by
  have k:=Blk.new (w.alloc (.cells E11 38)) 38 E11;rw [XG] at k;exact k.below hb (by simp)
 have hsz:w.heap.size+2<=w1.heap.size:=by have:=hb.size;simp at this;omega
 have hl0:w.heap.size<w1.heap.size:=by omega
 have hl1:w.heap.size+1<w1.heap.size:=by omega
 have B1:=Z9 ((((Z3 w.heap.size w).alloc (Z0 _) _).alloc (by simp) _).trans (hb.mono (by simp;omega)));have Kb:=Z9 kb;have Ko:=Z9 ko;obtain ⟨c0,c1,c2,c3,c4,c5,c6,c7,c8,c9,c10⟩:=kb.c11;obtain ⟨o0,o1,o2,o3,o4,o5,o6,o7,o8,o9,o10⟩:=ko.c11;obtain ⟨of0,of1,of2,of3,of4,of5,of6,of7,of8,of9,of10⟩:=ko.f11;clear hb kb ko;go_wp2_with fail;refine Zz (v:= .tuple #[.agg E11,.bool false]) (by simp [results,results310,go_sem,o0,o1,o2,o3,o4,o5,o6,o7,o8,o9,o10]) rfl ⟨rfl,?_⟩
 iterate 11 (refine Yv ?_ (by simp) _)
 exact uh B1
theorem Io {st be rk my gu lo hi hd ca ut wk:Int} (work:Int) (w:World) (hs:Zm (st,be,rk,my,gu,lo,hi,hd,ca,ut,wk)=false):cB 310 #[.agg (I11 st be rk my gu lo hi hd ca ut wk),.int .i64 work] w (.tuple #[.agg E11,.bool false]):=by
 have Hs:=Z9 hs;clear hs;go_enter func310,ntmps310;go_wp2_with fail;refine (Zd st be rk my gu lo hi hd ca ut wk _).mono ?_;rw [uh Hs];rintro e w1 ⟨rfl,hb⟩;have kb:Blk w1 w.heap.size 38 (I11 st be rk my gu lo hi hd ca ut wk):=((Blk.new w 38 (I11 st be rk my gu lo hi hd ca ut wk)).alloc _).below hb (by simp;omega)
 have ko:Blk w1 (w.heap.size+1) 38 E11:=by
  have k:=Blk.new (w.alloc (.cells (I11 st be rk my gu lo hi hd ca ut wk) 38)) 38 E11;rw [XG] at k;exact k.below hb (by simp)
 have hsz:w.heap.size+2<=w1.heap.size:=by have:=hb.size;simp at this;omega
 have hl0:w.heap.size<w1.heap.size:=by omega
 have hl1:w.heap.size+1<w1.heap.size:=by omega
 have B1:=Z9 ((((Z3 w.heap.size w).alloc (Z0 _) _).alloc (by simp) _).trans (hb.mono (by simp;omega)));have Kb:=Z9 kb;have Ko:=Z9 ko;obtain ⟨c0,c1,c2,c3,c4,c5,c6,c7,c8,c9,c10⟩:=kb.c11;obtain ⟨o0,o1,o2,o3,o4,o5,o6,o7,o8,o9,o10⟩:=ko.c11;obtain ⟨of0,of1,of2,of3,of4,of5,of6,of7,of8,of9,of10⟩:=ko.f11;clear hb kb ko;go_wp2_with fail;refine Zz (v:= .tuple #[.agg E11,.bool false]) (by simp [results,results310,go_sem,o0,o1,o2,o3,o4,o5,o6,o7,o8,o9,o10]) rfl ⟨rfl,?_⟩
 iterate 11 (refine Yv ?_ (by simp) _)
 exact uh B1
theorem A9 {st be rk my gu lo hi hd ca ut wk:Int} (work:Int) (w:World) (hs:Zm (st,be,rk,my,gu,lo,hi,hd,ca,ut,wk)=true) (hst:(st ==0)=false) (hw:inB work 0 100000=false):cB 310 #[.agg (I11 st be rk my gu lo hi hd ca ut wk),.int .i64 work] w (.tuple #[.agg (I11 st be rk my gu lo hi hd ca ut wk),.bool false]):=by
 have Hs:=Z9 hs;clear hs;go_enter func310,ntmps310;go_wp2_with fail;refine (Zd st be rk my gu lo hi hd ca ut wk _).mono ?_;rw [uh Hs];rintro e w1 ⟨rfl,hb⟩;have kb:Blk w1 w.heap.size 38 (I11 st be rk my gu lo hi hd ca ut wk):=((Blk.new w 38 (I11 st be rk my gu lo hi hd ca ut wk)).alloc _).below hb (by simp;omega)
 have ko:Blk w1 (w.heap.size+1) 38 E11:=by
  have k:=Blk.new (w.alloc (.cells (I11 st be rk my gu lo hi hd ca ut wk) 38)) 38 E11;rw [XG] at k;exact k.below hb (by simp)
 have hsz:w.heap.size+2<=w1.heap.size:=by have:=hb.size;simp at this;omega
 have hl0:w.heap.size<w1.heap.size:=by omega
 have hl1:w.heap.size+1<w1.heap.size:=by omega
 have B1:=Z9 ((((Z3 w.heap.size w).alloc (Z0 _) _).alloc (by simp) _).trans (hb.mono (by simp;omega)));have Kb:=Z9 kb;have Ko:=Z9 ko;obtain ⟨c0,c1,c2,c3,c4,c5,c6,c7,c8,c9,c10⟩:=kb.c11;obtain ⟨o0,o1,o2,o3,o4,o5,o6,o7,o8,o9,o10⟩:=ko.c11;obtain ⟨of0,of1,of2,of3,of4,of5,of6,of7,of8,of9,of10⟩:=ko.f11;clear hb kb ko;go_wp2_with (go_at_call 129;refine (ZV _ _ _ _).mono ?_;rintro e w' ⟨rfl,h9⟩;subst w')
 refine Zz (v:= .tuple #[.agg (I11 st be rk my gu lo hi hd ca ut wk),.bool false]) (by simp [results,results310,go_sem,o0,o1,o2,o3,o4,o5,o6,o7,o8,o9,o10]) rfl ⟨rfl,?_⟩
 iterate 11 (refine Yv ?_ (by simp) _)
 exact uh B1
theorem CA {st be rk my gu lo hi hd ca ut wk:Int} {work x n l:Int} {w:World} (hx:Zb rk=x) (hok:Wb work x ca=true) (hn:SC work x ca=n) (hl:SA work x ca=l) (n0:0<=n) (n1:n<=400000)
  (d0 : -1000000000000<=hd) (d1:hd<=1000000000000) (k0:0<=wk) (k1:wk<=100000000000) (v0:0<=work) (v1:work<=100000) (hs:Zm (st,be,rk,my,gu,lo,hi,hd,ca,ut,wk)=true) (hst:(st ==0)=false) (h2:Zm (st,be,rk,my,gu,lo,hi,(hd+n),l,ut,(wk+work))=true):cB 310 #[.agg (I11 st be rk my gu lo hi hd ca ut wk),.int .i64 work] w (.tuple #[.agg (I11 st be rk my gu lo hi (hd+n) l ut (wk+work)),.bool true]):=by
 have Hs:=Z9 hs;have H2:=Z9 h2;have Hx:=Z9 hx;have Hok:=Z9 hok;have Hn:=Z9 hn;have Hl:=Z9 hl;have hw:inB work 0 100000=true:=Zn v0 v1;clear hx hok hn hl hs h2;go_enter func310,ntmps310;go_wp2_with fail;refine (Zd st be rk my gu lo hi hd ca ut wk _).mono ?_;rw [uh Hs];rintro e w1 ⟨rfl,hb⟩;have kb:Blk w1 w.heap.size 38 (I11 st be rk my gu lo hi hd ca ut wk):=((Blk.new w 38 (I11 st be rk my gu lo hi hd ca ut wk)).alloc _).below hb (by simp;omega)
 have ko:Blk w1 (w.heap.size+1) 38 E11:=by
  have k:=Blk.new (w.alloc (.cells (I11 st be rk my gu lo hi hd ca ut wk) 38)) 38 E11;rw [XG] at k;exact k.below hb (by simp)
 have hsz:w.heap.size+2<=w1.heap.size:=by have:=hb.size;simp at this;omega
 have hl0:w.heap.size<w1.heap.size:=by omega
 have hl1:w.heap.size+1<w1.heap.size:=by omega
 have B1:=Z9 ((((Z3 w.heap.size w).alloc (Z0 _) _).alloc (by simp) _).trans (hb.mono (by simp;omega)));have Kb:=Z9 kb;have Ko:=Z9 ko;obtain ⟨c0,c1,c2,c3,c4,c5,c6,c7,c8,c9,c10⟩:=kb.c11;obtain ⟨o0,o1,o2,o3,o4,o5,o6,o7,o8,o9,o10⟩:=ko.c11;obtain ⟨of0,of1,of2,of3,of4,of5,of6,of7,of8,of9,of10⟩:=ko.f11;clear hb kb ko;go_wp2_with (go_at_call 129;refine (ZV _ _ _ _).mono ?_;rintro e w' ⟨rfl,h9⟩;subst w')
 go_quiet (first | exact Yi (Yu (uh Hx) _) | exact Calls.quiet_of (PT (uh Hok) (uh Hn) (uh Hl) _));have kb:Blk (w1.drewN nq) w.heap.size 38 (I11 st be rk my gu lo hi hd ca ut wk):=uh Kb;have ko:Blk (w1.drewN nq) (w.heap.size+1) 38 E11:=uh Ko;have b1:=Ym (uh B1) nq;clear c0 o0 of0 c1 o1 of1 c2 o2 of2 c3 o3 of3 c4 o4 of4 c5 o5 of5 c6 o6 of6 c7 o7 of7 c8 o8 of8 c9 o9 of9 c10 o10 of10 Kb Ko B1 hl0 hl1;rw [show w1.heap.size=(w1.drewN nq).heap.size from rfl] at hsz;generalize w1.drewN nq=W1 at *;have hl0:w.heap.size<W1.heap.size:=by omega
 have hl1:w.heap.size+1<W1.heap.size:=by omega
 have Kb:=Z9 kb;have Ko:=Z9 ko;have B1:=Z9 b1;obtain ⟨c0,c1,c2,c3,c4,c5,c6,c7,c8,c9,c10⟩:=kb.c11;obtain ⟨o0,o1,o2,o3,o4,o5,o6,o7,o8,o9,o10⟩:=ko.c11;obtain ⟨of0,of1,of2,of3,of4,of5,of6,of7,of8,of9,of10⟩:=ko.f11;clear kb ko b1;go_wp2_with fail;refine (Zd st be rk my gu lo hi (hd+n) l ut (wk+work) _).mono ?_;rw [uh H2];rintro e w2 ⟨rfl,hb⟩;have kb:Blk w2 w.heap.size 38 (I11 st be rk my gu lo hi hd ca ut wk):=(hb.block w.heap.size (by simp;omega)).trans ((uh Kb).alloc (.cells (I11 st be rk my gu lo hi (hd+n) l ut (wk+work)) 38));have ko:Blk w2 (w.heap.size+1) 38 E11:=(hb.block (w.heap.size+1) (by simp;omega)).trans ((uh Ko).alloc (.cells (I11 st be rk my gu lo hi (hd+n) l ut (wk+work)) 38));have kn:Blk w2 W1.heap.size 38 (I11 st be rk my gu lo hi (hd+n) l ut (wk+work)):=(hb.block W1.heap.size (by simp)).trans (Blk.new W1 38 (I11 st be rk my gu lo hi (hd+n) l ut (wk+work)));have B2:Hid (Below w.heap.size w w2):=Z9 (((uh B1).alloc (by omega) (.cells (I11 st be rk my gu lo hi (hd+n) l ut (wk+work)) 38)).trans (hb.mono (by simp;omega)));clear c0 o0 of0 c1 o1 of1 c2 o2 of2 c3 o3 of3 c4 o4 of4 c5 o5 of5 c6 o6 of6 c7 o7 of7 c8 o8 of8 c9 o9 of9 c10 o10 of10 Kb Ko;obtain ⟨p0,p1,p2,p3,p4,p5,p6,p7,p8,p9,p10⟩:=kn.c11;obtain ⟨o0,o1,o2,o3,o4,o5,o6,o7,o8,o9,o10⟩:=ko.c11;obtain ⟨of0,of1,of2,of3,of4,of5,of6,of7,of8,of9,of10⟩:=ko.f11;clear hb kb ko kn;go_wp2_with fail;refine Zz (v:= .tuple #[.agg (I11 st be rk my gu lo hi (hd+n) l ut (wk+work)),.bool true]) (by simp [results,results310,go_sem,o0,o1,o2,o3,o4,o5,o6,o7,o8,o9,o10]) rfl ⟨rfl,?_⟩
 iterate 11 (refine Yv ?_ (by simp) _)
 exact uh B2
theorem E5 {st be rk my gu lo hi hd ca ut wk:Int} {work x n l:Int} {w:World} (hx:Zb rk=x) (hok:Wb work x ca=true) (hn:SC work x ca=n) (hl:SA work x ca=l) (n0:0<=n) (n1:n<=400000)
  (d0 : -1000000000000<=hd) (d1:hd<=1000000000000) (k0:0<=wk) (k1:wk<=100000000000) (v0:0<=work) (v1:work<=100000) (hs:Zm (st,be,rk,my,gu,lo,hi,hd,ca,ut,wk)=true) (hst:(st ==0)=false) (h2:Zm (st,be,rk,my,gu,lo,hi,(hd+n),l,ut,(wk+work))=false):cB 310 #[.agg (I11 st be rk my gu lo hi hd ca ut wk),.int .i64 work] w (.tuple #[.agg (I11 st be rk my gu lo hi hd ca ut wk),.bool false]):=by
 have Hs:=Z9 hs;have H2:=Z9 h2;have Hx:=Z9 hx;have Hok:=Z9 hok;have Hn:=Z9 hn;have Hl:=Z9 hl;have hw:inB work 0 100000=true:=Zn v0 v1;clear hx hok hn hl hs h2;go_enter func310,ntmps310;go_wp2_with fail;refine (Zd st be rk my gu lo hi hd ca ut wk _).mono ?_;rw [uh Hs];rintro e w1 ⟨rfl,hb⟩;have kb:Blk w1 w.heap.size 38 (I11 st be rk my gu lo hi hd ca ut wk):=((Blk.new w 38 (I11 st be rk my gu lo hi hd ca ut wk)).alloc _).below hb (by simp;omega)
 have ko:Blk w1 (w.heap.size+1) 38 E11:=by
  have k:=Blk.new (w.alloc (.cells (I11 st be rk my gu lo hi hd ca ut wk) 38)) 38 E11;rw [XG] at k;exact k.below hb (by simp)
 have hsz:w.heap.size+2<=w1.heap.size:=by have:=hb.size;simp at this;omega
 have hl0:w.heap.size<w1.heap.size:=by omega
 have hl1:w.heap.size+1<w1.heap.size:=by omega
 have B1:=Z9 ((((Z3 w.heap.size w).alloc (Z0 _) _).alloc (by simp) _).trans (hb.mono (by simp;omega)));have Kb:=Z9 kb;have Ko:=Z9 ko;obtain ⟨c0,c1,c2,c3,c4,c5,c6,c7,c8,c9,c10⟩:=kb.c11;obtain ⟨o0,o1,o2,o3,o4,o5,o6,o7,o8,o9,o10⟩:=ko.c11;obtain ⟨of0,of1,of2,of3,of4,of5,of6,of7,of8,of9,of10⟩:=ko.f11;clear hb kb ko;go_wp2_with (go_at_call 129;refine (ZV _ _ _ _).mono ?_;rintro e w' ⟨rfl,h9⟩;subst w')
 go_quiet (first | exact Yi (Yu (uh Hx) _) | exact Calls.quiet_of (PT (uh Hok) (uh Hn) (uh Hl) _));have kb:Blk (w1.drewN nq) w.heap.size 38 (I11 st be rk my gu lo hi hd ca ut wk):=uh Kb;have ko:Blk (w1.drewN nq) (w.heap.size+1) 38 E11:=uh Ko;have b1:=Ym (uh B1) nq;clear c0 o0 of0 c1 o1 of1 c2 o2 of2 c3 o3 of3 c4 o4 of4 c5 o5 of5 c6 o6 of6 c7 o7 of7 c8 o8 of8 c9 o9 of9 c10 o10 of10 Kb Ko B1 hl0 hl1;rw [show w1.heap.size=(w1.drewN nq).heap.size from rfl] at hsz;generalize w1.drewN nq=W1 at *;have hl0:w.heap.size<W1.heap.size:=by omega
 have hl1:w.heap.size+1<W1.heap.size:=by omega
 have Kb:=Z9 kb;have Ko:=Z9 ko;have B1:=Z9 b1;obtain ⟨c0,c1,c2,c3,c4,c5,c6,c7,c8,c9,c10⟩:=kb.c11;obtain ⟨o0,o1,o2,o3,o4,o5,o6,o7,o8,o9,o10⟩:=ko.c11;obtain ⟨of0,of1,of2,of3,of4,of5,of6,of7,of8,of9,of10⟩:=ko.f11;clear kb ko b1;go_wp2_with fail;refine (Zd st be rk my gu lo hi (hd+n) l ut (wk+work) _).mono ?_;rw [uh H2];rintro e w2 ⟨rfl,hb⟩;have kb:Blk w2 w.heap.size 38 (I11 st be rk my gu lo hi hd ca ut wk):=(hb.block w.heap.size (by simp;omega)).trans ((uh Kb).alloc (.cells (I11 st be rk my gu lo hi (hd+n) l ut (wk+work)) 38));have ko:Blk w2 (w.heap.size+1) 38 E11:=(hb.block (w.heap.size+1) (by simp;omega)).trans ((uh Ko).alloc (.cells (I11 st be rk my gu lo hi (hd+n) l ut (wk+work)) 38));have kn:Blk w2 W1.heap.size 38 (I11 st be rk my gu lo hi (hd+n) l ut (wk+work)):=(hb.block W1.heap.size (by simp)).trans (Blk.new W1 38 (I11 st be rk my gu lo hi (hd+n) l ut (wk+work)));have B2:Hid (Below w.heap.size w w2):=Z9 (((uh B1).alloc (by omega) (.cells (I11 st be rk my gu lo hi (hd+n) l ut (wk+work)) 38)).trans (hb.mono (by simp;omega)));clear c0 o0 of0 c1 o1 of1 c2 o2 of2 c3 o3 of3 c4 o4 of4 c5 o5 of5 c6 o6 of6 c7 o7 of7 c8 o8 of8 c9 o9 of9 c10 o10 of10 Kb Ko;obtain ⟨p0,p1,p2,p3,p4,p5,p6,p7,p8,p9,p10⟩:=kb.c11;obtain ⟨o0,o1,o2,o3,o4,o5,o6,o7,o8,o9,o10⟩:=ko.c11;obtain ⟨of0,of1,of2,of3,of4,of5,of6,of7,of8,of9,of10⟩:=ko.f11;clear hb kb ko kn;go_wp2_with fail;refine Zz (v:= .tuple #[.agg (I11 st be rk my gu lo hi hd ca ut wk),.bool false]) (by simp [results,results310,go_sem,o0,o1,o2,o3,o4,o5,o6,o7,o8,o9,o10]) rfl ⟨rfl,?_⟩
 iterate 11 (refine Yv ?_ (by simp) _)
 exact uh B2
theorem SD {x:Z2} (h:YN x=true):Zm x=true:=by unfold Zm;rw [h,Bool.or_true]
theorem MN {x:Z2} (h:x.1 ≠ 0):Zm x=YN x:=by unfold Zm;rw [Q9 h,Bool.false_or]
theorem Lv {x:Z2} (work:Int) (hg:US x=true):WC x work=(Tf,false):=by
 have e:=UT hg;subst e;rfl
theorem ND {x:Z2} (work:Int) (hg:US x=false) (hp:YN x=false):WC x work=(Tf,false):=by unfold WC;rw [hp,hg];rfl
theorem I4 {x:Z2} {work:Int} (hp:YN x=true) (hw:inB work 0 100000=false):WC x work=(x,false):=by unfold WC;rw [hp,hw];rfl
theorem Pr {x:Z2} {work:Int} {q:Bool} (hp:YN x=true) (hw:inB work 0 100000=true) (hq:YN (ME x work)=q):WC x work=(if q then ME x work else x,q):=by unfold WC;rw [hp,hw,hq];cases q<;>rfl
theorem E8 {st:Int} (h:1<=st):(st ==0)=false:=by simp;omega
theorem Le {x y:Z2} {work:Int} {q:Bool} (h:WC x work=(y,q)) (w:World):cB 310 #[.agg (ZR x).toArray,.int .i64 work] w (.tuple #[.agg (ZR y).toArray,.bool q]):=by
 obtain ⟨st,be,rk,my,gu,lo,hi,hd,ca,ut,wk⟩:=x;cases hg:US (st,be,rk,my,gu,lo,hi,hd,ca,ut,wk)
 ·cases hp:YN (st,be,rk,my,gu,lo,hi,hd,ca,ut,wk)
  ·rw [ND work hg hp] at h
   obtain ⟨rfl,rfl⟩:=Prod.mk.inj h;exact Io work w (by unfold Zm;rw [hg,hp];rfl)
  ·cases hw:inB work 0 100000
   ·rw [I4 hp hw] at h
    obtain ⟨rfl,rfl⟩:=Prod.mk.inj h;exact A9 work w (SD hp) (E8 (Y2 hp).1.1) hw
   ·obtain ⟨v0,v1⟩:=ZN hw
    obtain ⟨⟨s0,s1⟩,_,hr,_,_,_,⟨d0,d1⟩,⟨a0,a1⟩,_,⟨k0,k1⟩⟩:=Y2 hp;have hr0:=Vq hr;have hr1:=(Te rk).2;have a2:ca<=3125:=by omega
    obtain ⟨hok,n0,n1,_,_,_⟩:=A4 v0 v1 hr0 hr1 a0 a1;cases hq:YN (ME (st,be,rk,my,gu,lo,hi,hd,ca,ut,wk) work)
    ·rw [Pr hp hw hq] at h
     obtain ⟨rfl,rfl⟩:=Prod.mk.inj h;exact E5 rfl hok rfl rfl n0 n1 d0 d1 k0 k1 v0 v1 (SD hp) (E8 s0) ((MN (x:=ME (st,be,rk,my,gu,lo,hi,hd,ca,ut,wk) work) (show st ≠ 0 by omega)).trans hq)
    ·rw [Pr hp hw hq] at h
     obtain ⟨rfl,rfl⟩:=Prod.mk.inj h;exact CA rfl hok rfl rfl n0 n1 d0 d1 k0 k1 v0 v1 (SD hp) (E8 s0) ((MN (x:=ME (st,be,rk,my,gu,lo,hi,hd,ca,ut,wk) work) (show st ≠ 0 by omega)).trans hq)
 ·rw [Lv work hg] at h
  obtain ⟨rfl,rfl⟩:=Prod.mk.inj h;cases UT hg;exact EZ work w
end Go.Proofs.YtgdpaigcmoifbaaGreat
