/- Part 21 of what the proof rests on. No condition but those that a theorem names. -/
import Derived.Test.YtffcgajndmhpkaaGreatDoorXt20
set_option maxHeartbeats 8000000
set_option maxRecDepth 100000
namespace Go.Proofs.YtffcgajndmhpkaaGreatDoor
open Go.ChangeShapes Go.WideShapes Go.ChangeAt Go.RowKit Go.Sort
set_option linter.unusedVariables false
theorem EK:∀ k:Fin 256,(WB (k.val:Int) != -1)=inB (k.val:Int) 1 255:=by decide +kernel
theorem EL (s:Int):(WB s != -1)=inB s 1 255:=by
 cases h:inB s 0 255
 ·have hf:WB s= -1:=by unfold WB J8;rw [M0 h];rfl
  have h2:s<0\/255<s:=by
   rcases Int.lt_or_le s 0 with h1 | h1
   ·exact .inl h1
   ·rcases Int.lt_or_le 255 s with h2 | h2
    ·exact .inr h2
    ·rw [Zp h1 h2] at h;cases h
  rw [hf,V3 (by omega)];rfl
 ·obtain ⟨h0,h1⟩:=ZU h
  obtain ⟨n,rfl⟩:=Int.eq_ofNat_of_zero_le h0
  exact EK ⟨n,by omega⟩
theorem Ng {s f:Int} (h:WB s=f) (w:World):Calls Tryz.prog 319 #[.int .i64 s] w fun e w'=>e= .returned (.int .i64 f)/\Below w.heap.size w w':=by
 have:=PI s w;rw [h] at this;exact this
theorem EV (s:Int) (w:World):Calls Tryz.prog 313 #[.int .i64 s] w fun e w'=>e= .returned (.bool (inB s 1 255))/\Below w.heap.size w w':=by
 have hf:=EL s
 obtain ⟨f,hv⟩:∃ f,WB s=f:=⟨_,rfl⟩
 have Hv:=Z9 hv
 rw [hv] at hf
 have Hf:=Z9 hf
 clear hf hv
 go_enter Tryz.func313,Tryz.ntmps313
 go_wp2_with fail
 refine ck (Ng (uh Hv) _) fun w1 hb=> ?_
 go_wp2_with fail
 go_ret
 exact ⟨Z5 (uh Hf),hb⟩
theorem JT (c r:Int) (w:World):Calls Tryz.prog 314 #[.int .i64 c,.int .i64 r] w fun e w'=>e= .returned (.bool (inB c 0 (Zy r-1)))/\w'=w:=by
 obtain ⟨x,hv⟩:∃ x,Zy r=x:=⟨_,rfl⟩
 have Hv:=Z9 hv
 rw [hv]
 clear hv
 by_cases h0:0<=c
 ·by_cases h1:c<x
  ·rw [Zp (x:=c) (lo:=0) (hi:=x-1) h0 (by omega)]
   go_enter Tryz.func314,Tryz.ntmps314
   go_wp2_with (go_at_call 262;refine (Vi (uh Hv) _).mono ?_;rintro e w' ⟨rfl,rfl⟩)
   go_ret
   exact ⟨rfl,rfl⟩
  ·rw [V3 (x:=c) (lo:=0) (hi:=x-1) (by omega)]
   go_enter Tryz.func314,Tryz.ntmps314
   go_wp2_with (go_at_call 262;refine (Vi (uh Hv) _).mono ?_;rintro e w' ⟨rfl,rfl⟩)
   go_ret
   exact ⟨Z5 (b:=false) (by rw [decide_eq_false_iff_not];omega),rfl⟩
 ·rw [V3 (x:=c) (lo:=0) (hi:=x-1) (by omega)]
  go_enter Tryz.func314,Tryz.ntmps314
  go_wp2_with fail
  go_ret
  exact ⟨rfl,rfl⟩
theorem RM (n:Int) (w:World):Calls Tryz.prog 310 #[.int .i64 n] w fun e w'=>e= .returned (.bool (inB n (-1000000000000) 1000000000000))/\w'=w:=by
 go_enter Tryz.func310,Tryz.ntmps310
 go_wp2_with (go_at_call 117;refine (ZC _ _ _ _).mono ?_;rintro e w' ⟨rfl,rfl⟩)
 go_ret
 exact ⟨rfl,rfl⟩
theorem Mz {c r:Int} {q:Bool} (h:inB c 0 (Zy r-1)=q) (w:World):Calls Tryz.prog 314 #[.int .i64 c,.int .i64 r] w fun e w'=>e= .returned (.bool q)/\w'=w:=by
 have:=JT c r w;rw [h] at this;exact this
theorem DC (x:Int):inB x 0 (0-1)=false:=by
 refine V3 ?_
 rcases Int.lt_or_le x 0 with h | h
 ·exact .inl h
 ·exact .inr (by omega)
theorem DX (st be rk my gu lo hi hd ca ut wk:Int):Zw (st,be,rk,my,gu,lo,hi,hd,ca,ut,wk)=(inB st 1 3 && (inB be 0 7 && (inB my 1 255 && (inB gu (-1) 5 && (Yj lo hi && (inB hd (-1000000000000) 1000000000000 && (inB ca 0 (Zy rk-1) && (inB ut 0 1024 && (inB wk 0 100000000000))))))))):=by
 unfold Zw
 simp only
 cases hr:inB rk (-5) 5
 ·rw [WL hr,show inB ca 0 (0-1)=false from DC ca]
  simp
 ·simp only [Bool.true_and]
theorem Sn (st be rk my gu lo hi hd ca ut wk:Int) (w:World):Calls Tryz.prog 296 #[.agg (I11 st be rk my gu lo hi hd ca ut wk)] w fun e w'=>e= .returned (.bool (Zw (st,be,rk,my,gu,lo,hi,hd,ca,ut,wk)))/\Below w.heap.size w w':=by
 rw [DX]
 obtain ⟨qc,hqc⟩:∃ q,inB ca 0 (Zy rk-1)=q:=⟨_,rfl⟩
 have Hc:=Z9 hqc
 rw [hqc]
 clear hqc
 cases h_st:inB st 1 3
 rotate_left
 cases h_be:inB be 0 7
 rotate_left
 cases h_my:inB my 1 255
 rotate_left
 cases h_gu:inB gu (-1) 5
 rotate_left
 cases h_pr:Yj lo hi
 rotate_left
 cases h_hd:inB hd (-1000000000000) 1000000000000
 rotate_left
 cases qc
 rotate_left
 cases h_ut:inB ut 0 1024
 rotate_left
 cases h_wk:inB wk 0 100000000000
 all_goals
  go_enter Tryz.func296,Tryz.ntmps296
  go_wp2_with (first | (go_at_call 117;refine (ZC _ _ _ _).mono ?_;rintro e w' ⟨rfl,rfl⟩) | (go_at_call 221;refine (V4 _ _).mono ?_;rintro e w' ⟨rfl,rfl⟩) | (go_at_call 269;refine (UH _ _ _).mono ?_;rintro e w' ⟨rfl,rfl⟩) | (go_at_call 310;refine (RM _ _).mono ?_;rintro e w' ⟨rfl,rfl⟩) | (go_at_call 314;refine (Mz (uh Hc) _).mono ?_;rintro e w' ⟨rfl,rfl⟩) | (go_at_call 265;refine (R8 _ _).mono ?_;rintro e w' ⟨rfl,rfl⟩))
  try
   refine ck (EV _ _) fun w1 hb=> ?_
   have c2:w1.cell? ⟨w.heap.size,2,none⟩=some (.int .i64 rk):=(hb.cell (p:=⟨w.heap.size,2,none⟩) (by simp)).trans (Zt _ rfl)
   have c4:w1.cell? ⟨w.heap.size,4,none⟩=some (.int .i64 gu):=(hb.cell (p:=⟨w.heap.size,4,none⟩) (by simp)).trans (Zt _ rfl)
   have c5:w1.cell? ⟨w.heap.size,5,none⟩=some (.int .i64 lo):=(hb.cell (p:=⟨w.heap.size,5,none⟩) (by simp)).trans (Zt _ rfl)
   have c6:w1.cell? ⟨w.heap.size,6,none⟩=some (.int .i64 hi):=(hb.cell (p:=⟨w.heap.size,6,none⟩) (by simp)).trans (Zt _ rfl)
   have c7:w1.cell? ⟨w.heap.size,7,none⟩=some (.int .i64 hd):=(hb.cell (p:=⟨w.heap.size,7,none⟩) (by simp)).trans (Zt _ rfl)
   have c8:w1.cell? ⟨w.heap.size,8,none⟩=some (.int .i64 ca):=(hb.cell (p:=⟨w.heap.size,8,none⟩) (by simp)).trans (Zt _ rfl)
   have c9:w1.cell? ⟨w.heap.size,9,none⟩=some (.int .i64 ut):=(hb.cell (p:=⟨w.heap.size,9,none⟩) (by simp)).trans (Zt _ rfl)
   have c10:w1.cell? ⟨w.heap.size,10,none⟩=some (.int .i64 wk):=(hb.cell (p:=⟨w.heap.size,10,none⟩) (by simp)).trans (Zt _ rfl)
   have Hb:=Z9 (((Below.refl w.heap.size w).alloc (Nat.le_refl _) _).trans (hb.mono (by simp)))
   clear hb
   go_wp2_with (first | (go_at_call 117;refine (ZC _ _ _ _).mono ?_;rintro e w' ⟨rfl,rfl⟩) | (go_at_call 221;refine (V4 _ _).mono ?_;rintro e w' ⟨rfl,rfl⟩) | (go_at_call 269;refine (UH _ _ _).mono ?_;rintro e w' ⟨rfl,rfl⟩) | (go_at_call 310;refine (RM _ _).mono ?_;rintro e w' ⟨rfl,rfl⟩) | (go_at_call 314;refine (Mz (uh Hc) _).mono ?_;rintro e w' ⟨rfl,rfl⟩) | (go_at_call 265;refine (R8 _ _).mono ?_;rintro e w' ⟨rfl,rfl⟩))
  go_ret
  first | exact ⟨rfl,uh Hb⟩ | exact ⟨rfl,(ba _ _)⟩
attribute [local go_sem ↓] MU Q2
theorem RJ (w:World):Calls Tryz.prog 270 #[.agg E11] w fun e w'=>e= .returned (.iface 296 (.agg #[]))/\Below w.heap.size w w':=by
 have hz:Uz (0,0,0,0,0,0,0,0,0,0,0) (0,0,0,0,0,0,0,0,0,0,0)=true:=rfl
 go_enter Tryz.func270,Tryz.ntmps270
 go_wp2_with fail
 go_ret
 exact ⟨rfl,(ba _ _)⟩
theorem VO {st be rk my gu lo hi hd ca ut wk:Int} (hg:XB (st,be,rk,my,gu,lo,hi,hd,ca,ut,wk)=false) (hp:Zw (st,be,rk,my,gu,lo,hi,hd,ca,ut,wk)=true) (w:World):Calls Tryz.prog 270 #[.agg (I11 st be rk my gu lo hi hd ca ut wk)] w fun e w'=>e= .returned (.iface 294 (.agg (I11 st be rk my gu lo hi hd ca ut wk)))/\Below w.heap.size w w':=by
 have hz:Uz (st,be,rk,my,gu,lo,hi,hd,ca,ut,wk) (0,0,0,0,0,0,0,0,0,0,0)=false:=hg
 have Hp:=Z9 hp
 clear hg hp
 go_enter Tryz.func270,Tryz.ntmps270
 go_wp2_with fail
 refine (Sn st be rk my gu lo hi hd ca ut wk _).mono ?_
 rw [uh Hp]
 rintro e w1 ⟨rfl,hb⟩
 have c0:w1.cell? ⟨w.heap.size,0,none⟩=some (.int .i64 st):=(hb.cell (p:=⟨w.heap.size,0,none⟩) (by simp)).trans (Zt _ rfl)
 have c1:w1.cell? ⟨w.heap.size,1,none⟩=some (.int .i64 be):=(hb.cell (p:=⟨w.heap.size,1,none⟩) (by simp)).trans (Zt _ rfl)
 have c2:w1.cell? ⟨w.heap.size,2,none⟩=some (.int .i64 rk):=(hb.cell (p:=⟨w.heap.size,2,none⟩) (by simp)).trans (Zt _ rfl)
 have c3:w1.cell? ⟨w.heap.size,3,none⟩=some (.int .i64 my):=(hb.cell (p:=⟨w.heap.size,3,none⟩) (by simp)).trans (Zt _ rfl)
 have c4:w1.cell? ⟨w.heap.size,4,none⟩=some (.int .i64 gu):=(hb.cell (p:=⟨w.heap.size,4,none⟩) (by simp)).trans (Zt _ rfl)
 have c5:w1.cell? ⟨w.heap.size,5,none⟩=some (.int .i64 lo):=(hb.cell (p:=⟨w.heap.size,5,none⟩) (by simp)).trans (Zt _ rfl)
 have c6:w1.cell? ⟨w.heap.size,6,none⟩=some (.int .i64 hi):=(hb.cell (p:=⟨w.heap.size,6,none⟩) (by simp)).trans (Zt _ rfl)
 have c7:w1.cell? ⟨w.heap.size,7,none⟩=some (.int .i64 hd):=(hb.cell (p:=⟨w.heap.size,7,none⟩) (by simp)).trans (Zt _ rfl)
 have c8:w1.cell? ⟨w.heap.size,8,none⟩=some (.int .i64 ca):=(hb.cell (p:=⟨w.heap.size,8,none⟩) (by simp)).trans (Zt _ rfl)
 have c9:w1.cell? ⟨w.heap.size,9,none⟩=some (.int .i64 ut):=(hb.cell (p:=⟨w.heap.size,9,none⟩) (by simp)).trans (Zt _ rfl)
 have c10:w1.cell? ⟨w.heap.size,10,none⟩=some (.int .i64 wk):=(hb.cell (p:=⟨w.heap.size,10,none⟩) (by simp)).trans (Zt _ rfl)
 have Hb:=Z9 (((Below.refl w.heap.size w).alloc (Nat.le_refl _) _).trans (hb.mono (by simp)))
 clear hb
 go_wp2_with fail
 go_ret
 exact ⟨rfl,uh Hb⟩
theorem Su {st be rk my gu lo hi hd ca ut wk:Int} (hg:XB (st,be,rk,my,gu,lo,hi,hd,ca,ut,wk)=false) (hp:Zw (st,be,rk,my,gu,lo,hi,hd,ca,ut,wk)=false) (w:World):Calls Tryz.prog 270 #[.agg (I11 st be rk my gu lo hi hd ca ut wk)] w fun e w'=>e= .returned (.iface 297 (.agg #[]))/\Below w.heap.size w w':=by
 have hz:Uz (st,be,rk,my,gu,lo,hi,hd,ca,ut,wk) (0,0,0,0,0,0,0,0,0,0,0)=false:=hg
 have Hp:=Z9 hp
 clear hg hp
 go_enter Tryz.func270,Tryz.ntmps270
 go_wp2_with fail
 refine (Sn st be rk my gu lo hi hd ca ut wk _).mono ?_
 rw [uh Hp]
 rintro e w1 ⟨rfl,hb⟩
 have Hb:=Z9 (((Below.refl w.heap.size w).alloc (Nat.le_refl _) _).trans (hb.mono (by simp)))
 clear hb
 go_wp2_with fail
 go_ret
 exact ⟨rfl,uh Hb⟩
theorem B7 (w : World) : (method 464 296 (.agg #[]) "loop.example/g00553/impl.isSmith").run Tryz.prog w = .ok (378, .agg #[]) w := by kernel_rfl
theorem CS (w : World) : (method 464 297 (.agg #[]) "loop.example/g00553/impl.isSmith").run Tryz.prog w = .ok (379, .agg #[]) w := by kernel_rfl
theorem B8 (st be rk my gu lo hi hd ca ut wk : Int) (w : World) : (method 464 294 (.agg (I11 st be rk my gu lo hi hd ca ut wk)) "loop.example/g00553/impl.isSmith").run Tryz.prog w = .ok (377, .agg (I11 st be rk my gu lo hi hd ca ut wk)) w := by kernel_rfl
theorem GW (w:World):Calls Tryz.prog 378 #[.agg #[]] w fun e w'=>e= .returned (.bool true)/\Below w.heap.size w w':=by
 go_enter Tryz.func378,Tryz.ntmps378
 go_wp2_with fail
 go_ret
 exact ⟨rfl,(ba _ _)⟩
theorem Lj (w:World):Calls Tryz.prog 379 #[.agg #[]] w fun e w'=>e= .returned (.bool false)/\Below w.heap.size w w':=by
 go_enter Tryz.func379,Tryz.ntmps379
 go_wp2_with fail
 go_ret
 exact ⟨rfl,(ba _ _)⟩
theorem Iu (st be rk my gu lo hi hd ca ut wk:Int) (w:World):Calls Tryz.prog 377 #[.agg (I11 st be rk my gu lo hi hd ca ut wk)] w fun e w'=>e= .returned (.bool true)/\Below w.heap.size w w':=by
 go_enter Tryz.func377,Tryz.ntmps377
 go_wp2_with fail
 go_ret
 exact ⟨rfl,(ba _ _)⟩
attribute [local go_sem] B7 CS B8
theorem VY (st be rk my gu lo hi hd ca ut wk:Int) (w:World):Calls Tryz.prog 214 #[.agg (I11 st be rk my gu lo hi hd ca ut wk)] w fun e w'=>e= .returned (.bool (ZJ (st,be,rk,my,gu,lo,hi,hd,ca,ut,wk)))/\Below w.heap.size w w':=by
 unfold ZJ
 cases hg:XB (st,be,rk,my,gu,lo,hi,hd,ca,ut,wk)
 ·cases hp:Zw (st,be,rk,my,gu,lo,hi,hd,ca,ut,wk)
  ·rw [show (false || false)=false from rfl]
   have Hg:=Z9 hg
   have Hp:=Z9 hp
   clear hg hp
   go_enter Tryz.func214,Tryz.ntmps214
   go_wp2_with fail
   refine ck (Su (uh Hg) (uh Hp) _) fun w1 hb=> ?_
   have B1:=Z9 (((Below.refl w.heap.size w).alloc (Nat.le_refl _) _).trans (hb.mono (by simp)))
   clear hb
   go_wp2_with fail
   refine ck (Lj _) fun w2 hb=> ?_
   have B2:=Z9 ((uh B1).trans (hb.mono (uh B1).size))
   clear hb
   go_wp2_with fail
   go_ret
   exact ⟨rfl,uh B2⟩
  ·rw [show (false || true)=true from rfl]
   have Hg:=Z9 hg
   have Hp:=Z9 hp
   clear hg hp
   go_enter Tryz.func214,Tryz.ntmps214
   go_wp2_with fail
   refine ck (VO (uh Hg) (uh Hp) _) fun w1 hb=> ?_
   have B1:=Z9 (((Below.refl w.heap.size w).alloc (Nat.le_refl _) _).trans (hb.mono (by simp)))
   clear hb
   go_wp2_with fail
   refine ck (Iu _ _ _ _ _ _ _ _ _ _ _ _) fun w2 hb=> ?_
   have B2:=Z9 ((uh B1).trans (hb.mono (uh B1).size))
   clear hb
   go_wp2_with fail
   go_ret
   exact ⟨rfl,uh B2⟩
 ·rw [Bool.true_or]
  cases Xc hg
  clear hg
  go_enter Tryz.func214,Tryz.ntmps214
  go_wp2_with fail
  refine ck (RJ _) fun w1 hb=> ?_
  have B1:=Z9 (((Below.refl w.heap.size w).alloc (Nat.le_refl _) _).trans (hb.mono (by simp)))
  clear hb
  go_wp2_with fail
  refine ck (GW _) fun w2 hb=> ?_
  have B2:=Z9 ((uh B1).trans (hb.mono (uh B1).size))
  clear hb
  go_wp2_with fail
  go_ret
  exact ⟨rfl,uh B2⟩
end Go.Proofs.YtffcgajndmhpkaaGreatDoor
namespace Go.Proofs.YtffcgajndmhpkaaGreatDoor
open Go.ChangeShapes Go.WideShapes Go.ChangeAt Go.RowKit Go.Sort
set_option linter.unusedVariables false
theorem JS {a b c n l:Int} (h:YA a b c=true) (hn:Wt a b c=n) (hl:Ws a b c=l) (w:World):Calls Tryz.prog 261 #[.int .i64 a,.int .i64 b,.int .i64 c] w fun e w'=>e= .returned (.tuple #[.int .i64 n,.int .i64 l])/\ ∃ m,w'=w.drewN m:=by
 obtain ⟨h1,h2⟩:=QZ h
 rw [<-hn,<-hl,h1,h2]
 clear h1 h2 hn hl
 obtain ⟨a0,a1,b0,b1,c0,c1⟩:=Sd h
 go_enter Tryz.func261,Tryz.ntmps261
 go_wp2_with (go_at_call 293;refine (Lv _ _ _ _).mono ?_;rintro e w' ⟨rfl,rfl⟩)
 go_quiet (fail)
 go_wp2_with fail
 go_ret2
 exact ⟨rfl,_,rfl⟩
theorem P1 {st be rk my gu lo hi hd ca ut wk:Int} {work x n l:Int} {R:Nat} {w:World} (hx:Zy rk=x) (hok:YA work x ca=true) (hn:Wt work x ca=n) (hl:Ws work x ca=l) (n0:0<=n) (n1:n<=400000)
  (d0 : -1000000000000<=hd) (d1:hd<=1000000000000) (k0:0<=wk) (k1:wk<=100000000000) (w0:0<=work) (w1:work<=100000) (hR:w.cell? ⟨R,0,none⟩=some (.int .i64 work)) :
  Calls Tryz.prog 260 #[.agg (I11 st be rk my gu lo hi hd ca ut wk),.pointer (some ⟨R,0,none⟩)] w fun e w'=>e= .returned (.agg (I11 st be rk my gu lo hi (hd+n) l ut (wk+work)))/\Below w.heap.size w w':=by
 have Hx:=Z9 hx
 have Hok:=Z9 hok
 have Hn:=Z9 hn
 have Hl:=Z9 hl
 have hRl:=block_lt_of_cell hR
 clear hx hok hn hl
 go_enter Tryz.func260,Tryz.ntmps260
 go_wp2_with fail
 go_quiet (first | exact Calls.quiet_of_same (Vi (uh Hx) _) | exact Calls.quiet_of (JS (uh Hok) (uh Hn) (uh Hl) _))
 go_wp2_with fail
 refine bodyPost_ret (v:= .agg (I11 st be rk my gu lo hi (hd+n) l ut (wk+work))) (by simp [results,Tryz.results260,go_sem]) rfl ⟨rfl,?_⟩
 repeat (refine Below.setCell ?_ (by simp) _)
 exact YX (((ba _ _)).alloc (by simp) _) _
theorem Rj (v:Value) (w:World):(Instr.typeAssert (.iface 296 v) 279 294 true).run Tryz.prog w= .ok (.tuple #[.agg E11,.bool false]) w:=by kernel_rfl
theorem Ri (v:Value) (w:World):(Instr.typeAssert (.iface 296 v) 279 296 true).run Tryz.prog w= .ok (.tuple #[v,.bool true]) w:=by kernel_rfl
theorem Sl (v:Value) (w:World):(Instr.typeAssert (.iface 297 v) 279 294 true).run Tryz.prog w= .ok (.tuple #[.agg E11,.bool false]) w:=by kernel_rfl
theorem Sk (v:Value) (w:World):(Instr.typeAssert (.iface 297 v) 279 296 true).run Tryz.prog w= .ok (.tuple #[.agg #[],.bool false]) w:=by kernel_rfl
theorem Rk (v:Value) (w:World):(Instr.typeAssert (.iface 294 v) 279 294 true).run Tryz.prog w= .ok (.tuple #[v,.bool true]) w:=by kernel_rfl
attribute [local go_sem] Rj Ri Sl Sk Rk
theorem Lx (can:Bool) (f:Value) (w:World):Calls Tryz.prog 259 #[.agg E11,.bool can,f] w fun e w'=>e= .returned (.tuple #[.agg E11,.bool false])/\Below w.heap.size w w':=by
 go_enter Tryz.func259,Tryz.ntmps259
 go_wp2_with fail
 refine ck (RJ _) fun w1 hb=> ?_
 have kb:Blk w1 w.heap.size 39 E11:=((Blk.new w 39 E11).alloc _).below hb (by simp;omega)
 have ko:Blk w1 (w.heap.size+1) 39 E11:=by
  have k:=Blk.new (w.alloc (.cells E11 39)) 39 E11
  rw [World.size_alloc] at k
  exact k.below hb (by simp)
 have hsz:w.heap.size+2<=w1.heap.size:=by have:=hb.size;simp at this;omega
 have hl0:w.heap.size<w1.heap.size:=by omega
 have hl1:w.heap.size+1<w1.heap.size:=by omega
 have B1:=Z9 ((((Below.refl w.heap.size w).alloc (Nat.le_refl _) _).alloc (by simp) _).trans (hb.mono (by simp;omega)))
 have Kb:=Z9 kb
 have Ko:=Z9 ko
 obtain ⟨c0,c1,c2,c3,c4,c5,c6,c7,c8,c9,c10⟩:=kb.c11
 obtain ⟨o0,o1,o2,o3,o4,o5,o6,o7,o8,o9,o10⟩:=ko.c11
 obtain ⟨of0,of1,of2,of3,of4,of5,of6,of7,of8,of9,of10⟩:=ko.f11
 clear hb kb ko
 go_wp2_with fail
 refine bodyPost_ret (v:= .tuple #[.agg E11,.bool false]) (by simp [results,Tryz.results259,go_sem,o0,o1,o2,o3,o4,o5,o6,o7,o8,o9,o10,hl1]) rfl ⟨rfl,?_⟩
 refine Below.alloc ?_ (by simp;omega) _
 iterate 11 (refine Below.setCell ?_ (by simp) _)
 exact uh B1
theorem Nb {st be rk my gu lo hi hd ca ut wk:Int} (hg:XB (st,be,rk,my,gu,lo,hi,hd,ca,ut,wk)=false) (hp:Zw (st,be,rk,my,gu,lo,hi,hd,ca,ut,wk)=false) (can:Bool) (f:Value) (w:World):Calls Tryz.prog 259 #[.agg (I11 st be rk my gu lo hi hd ca ut wk),.bool can,f] w fun e w'=>e= .returned (.tuple #[.agg E11,.bool false])/\Below w.heap.size w w':=by
 have Hg:=Z9 hg
 have Hp:=Z9 hp
 clear hg hp
 go_enter Tryz.func259,Tryz.ntmps259
 go_wp2_with fail
 refine ck (Su (uh Hg) (uh Hp) _) fun w1 hb=> ?_
 have kb:Blk w1 w.heap.size 39 (I11 st be rk my gu lo hi hd ca ut wk):=((Blk.new w 39 (I11 st be rk my gu lo hi hd ca ut wk)).alloc _).below hb (by simp;omega)
 have ko:Blk w1 (w.heap.size+1) 39 E11:=by
  have k:=Blk.new (w.alloc (.cells (I11 st be rk my gu lo hi hd ca ut wk) 39)) 39 E11
  rw [World.size_alloc] at k
  exact k.below hb (by simp)
 have hsz:w.heap.size+2<=w1.heap.size:=by have:=hb.size;simp at this;omega
 have hl0:w.heap.size<w1.heap.size:=by omega
 have hl1:w.heap.size+1<w1.heap.size:=by omega
 have B1:=Z9 ((((Below.refl w.heap.size w).alloc (Nat.le_refl _) _).alloc (by simp) _).trans (hb.mono (by simp;omega)))
 have Kb:=Z9 kb
 have Ko:=Z9 ko
 obtain ⟨c0,c1,c2,c3,c4,c5,c6,c7,c8,c9,c10⟩:=kb.c11
 obtain ⟨o0,o1,o2,o3,o4,o5,o6,o7,o8,o9,o10⟩:=ko.c11
 obtain ⟨of0,of1,of2,of3,of4,of5,of6,of7,of8,of9,of10⟩:=ko.f11
 clear hb kb ko
 go_wp2_with fail
 refine bodyPost_ret (v:= .tuple #[.agg E11,.bool false]) (by simp [results,Tryz.results259,go_sem,o0,o1,o2,o3,o4,o5,o6,o7,o8,o9,o10]) rfl ⟨rfl,?_⟩
 iterate 11 (refine Below.setCell ?_ (by simp) _)
 exact uh B1
theorem GL {st be rk my gu lo hi hd ca ut wk:Int} (hg:XB (st,be,rk,my,gu,lo,hi,hd,ca,ut,wk)=false) (hp:Zw (st,be,rk,my,gu,lo,hi,hd,ca,ut,wk)=true) (f:Value) (w:World):Calls Tryz.prog 259 #[.agg (I11 st be rk my gu lo hi hd ca ut wk),.bool false,f] w fun e w'=>e= .returned (.tuple #[.agg (I11 st be rk my gu lo hi hd ca ut wk),.bool false])/\Below w.heap.size w w':=by
 have Hg:=Z9 hg
 have Hp:=Z9 hp
 clear hg hp
 go_enter Tryz.func259,Tryz.ntmps259
 go_wp2_with fail
 refine ck (VO (uh Hg) (uh Hp) _) fun w1 hb=> ?_
 have kb:Blk w1 w.heap.size 39 (I11 st be rk my gu lo hi hd ca ut wk):=((Blk.new w 39 (I11 st be rk my gu lo hi hd ca ut wk)).alloc _).below hb (by simp;omega)
 have ko:Blk w1 (w.heap.size+1) 39 E11:=by
  have k:=Blk.new (w.alloc (.cells (I11 st be rk my gu lo hi hd ca ut wk) 39)) 39 E11
  rw [World.size_alloc] at k
  exact k.below hb (by simp)
 have hsz:w.heap.size+2<=w1.heap.size:=by have:=hb.size;simp at this;omega
 have hl0:w.heap.size<w1.heap.size:=by omega
 have hl1:w.heap.size+1<w1.heap.size:=by omega
 have B1:=Z9 ((((Below.refl w.heap.size w).alloc (Nat.le_refl _) _).alloc (by simp) _).trans (hb.mono (by simp;omega)))
 have Kb:=Z9 kb
 have Ko:=Z9 ko
 obtain ⟨c0,c1,c2,c3,c4,c5,c6,c7,c8,c9,c10⟩:=kb.c11
 obtain ⟨o0,o1,o2,o3,o4,o5,o6,o7,o8,o9,o10⟩:=ko.c11
 obtain ⟨of0,of1,of2,of3,of4,of5,of6,of7,of8,of9,of10⟩:=ko.f11
 clear hb kb ko
 go_wp2_with fail
 refine bodyPost_ret (v:= .tuple #[.agg (I11 st be rk my gu lo hi hd ca ut wk),.bool false]) (by simp [results,Tryz.results259,go_sem,o0,o1,o2,o3,o4,o5,o6,o7,o8,o9,o10,hl1]) rfl ⟨rfl,?_⟩
 refine Below.alloc ?_ (by simp;omega) _
 iterate 11 (refine Below.setCell ?_ (by simp) _)
 exact uh B1
end Go.Proofs.YtffcgajndmhpkaaGreatDoor
namespace Go.Proofs.YtffcgajndmhpkaaGreatDoor
open Go.ChangeShapes Go.WideShapes Go.ChangeAt Go.RowKit Go.Sort
set_option linter.unusedVariables false
attribute [local go_sem] Rj Ri Sl Sk Rk
theorem Na {st be rk my gu lo hi hd ca ut wk:Int} {work x n l:Int} {R:Nat} {w:World} (hx:Zy rk=x) (hok:YA work x ca=true) (hn:Wt work x ca=n) (hl:Ws work x ca=l) (n0:0<=n) (n1:n<=400000)
  (d0 : -1000000000000<=hd) (d1:hd<=1000000000000) (k0:0<=wk) (k1:wk<=100000000000) (v0:0<=work) (v1:work<=100000) (hR:w.cell? ⟨R,0,none⟩=some (.int .i64 work)) (hg:XB (st,be,rk,my,gu,lo,hi,hd,ca,ut,wk)=false) (hp:Zw (st,be,rk,my,gu,lo,hi,hd,ca,ut,wk)=true) (hs:ZJ (st,be,rk,my,gu,lo,hi,(hd+n),l,ut,(wk+work))=true):Calls Tryz.prog 259 #[.agg (I11 st be rk my gu lo hi hd ca ut wk),.bool true,.func (.func 260) #[] #[.pointer (some ⟨R,0,none⟩)]] w fun e w'=>e= .returned (.tuple #[.agg (I11 st be rk my gu lo hi (hd+n) l ut (wk+work)),.bool true])/\Below w.heap.size w w':=by
 have Hg:=Z9 hg
 have Hp:=Z9 hp
 have Hs:=Z9 hs
 clear hg hp hs
 have Hx:=Z9 hx
 have Hok:=Z9 hok
 have Hn:=Z9 hn
 have Hl:=Z9 hl
 clear hx hok hn hl
 have hRl:R<w.heap.size:=block_lt_of_cell hR
 go_enter Tryz.func259,Tryz.ntmps259
 go_wp2_with fail
 refine ck (VO (uh Hg) (uh Hp) _) fun w1 hb=> ?_
 have kb:Blk w1 w.heap.size 39 (I11 st be rk my gu lo hi hd ca ut wk):=((Blk.new w 39 (I11 st be rk my gu lo hi hd ca ut wk)).alloc _).below hb (by simp;omega)
 have ko:Blk w1 (w.heap.size+1) 39 E11:=by
  have k:=Blk.new (w.alloc (.cells (I11 st be rk my gu lo hi hd ca ut wk) 39)) 39 E11
  rw [World.size_alloc] at k
  exact k.below hb (by simp)
 have hsz:w.heap.size+2<=w1.heap.size:=by have:=hb.size;simp at this;omega
 have hl0:w.heap.size<w1.heap.size:=by omega
 have hl1:w.heap.size+1<w1.heap.size:=by omega
 have B1:=Z9 ((((Below.refl w.heap.size w).alloc (Nat.le_refl _) _).alloc (by simp) _).trans (hb.mono (by simp;omega)))
 have Kb:=Z9 kb
 have Ko:=Z9 ko
 obtain ⟨c0,c1,c2,c3,c4,c5,c6,c7,c8,c9,c10⟩:=kb.c11
 obtain ⟨o0,o1,o2,o3,o4,o5,o6,o7,o8,o9,o10⟩:=ko.c11
 obtain ⟨of0,of1,of2,of3,of4,of5,of6,of7,of8,of9,of10⟩:=ko.f11
 have hR1:w1.cell? ⟨R,0,none⟩=some (.int .i64 work):=(hb.cell (p:=⟨R,0,none⟩) (by simp;omega)).trans (((Below.refl w.heap.size w).alloc (Nat.le_refl _) _ |>.alloc (by simp) _ |>.cell (p:=⟨R,0,none⟩) (block_lt_of_cell hR)).trans hR)
 clear hb kb ko
 go_wp2_with fail
 refine ck (P1 (uh Hx) (uh Hok) (uh Hn) (uh Hl) n0 n1 d0 d1 k0 k1 v0 v1 ((((Below.refl w1.heap.size w1).alloc (Nat.le_refl _) _).cell (p:=⟨R,0,none⟩) (block_lt_of_cell hR1)).trans hR1)) fun w2 hb=> ?_
 have kb:=((uh Kb).alloc (.cells (I11 st be rk my gu lo hi hd ca ut wk) 294)).below hb (by simp;omega)
 have ko:=((uh Ko).alloc (.cells (I11 st be rk my gu lo hi hd ca ut wk) 294)).below hb (by simp;omega)
 have hsz2:w1.heap.size+1<=w2.heap.size:=by have:=hb.size;simp at this;omega
 have hm0:w.heap.size<w2.heap.size:=by omega
 have hm1:w.heap.size+1<w2.heap.size:=by omega
 have B2:=Z9 ((((uh B1).alloc (by omega) (.cells (I11 st be rk my gu lo hi hd ca ut wk) 294))).trans (hb.mono (by simp;omega)))
 have Kb2:=Z9 kb
 have Ko2:=Z9 ko
 clear hb kb ko Kb Ko B1 c0 o0 of0 c1 o1 of1 c2 o2 of2 c3 o3 of3 c4 o4 of4 c5 o5 of5 c6 o6 of6 c7 o7 of7 c8 o8 of8 c9 o9 of9 c10 o10 of10 hR1
 go_wp2_with fail
 refine (VY st be rk my gu lo hi (hd+n) l ut (wk+work) _).mono ?_
 rw [uh Hs]
 rintro e w3 ⟨rfl,hb⟩
 have kb:=((uh Kb2).alloc (.cells (I11 st be rk my gu lo hi (hd+n) l ut (wk+work)) 39)).below hb (by simp;omega)
 have ko:=((uh Ko2).alloc (.cells (I11 st be rk my gu lo hi (hd+n) l ut (wk+work)) 39)).below hb (by simp;omega)
 have kn:=(Blk.new w2 39 (I11 st be rk my gu lo hi (hd+n) l ut (wk+work))).below hb (by simp)
 have B3:=Z9 ((((uh B2).alloc (by omega) (.cells (I11 st be rk my gu lo hi (hd+n) l ut (wk+work)) 39))).trans (hb.mono (by simp;omega)))
 have hsz3:w2.heap.size+1<=w3.heap.size:=by have:=hb.size;simp at this;omega
 have hn0:w.heap.size<w3.heap.size:=by omega
 have hn1:w.heap.size+1<w3.heap.size:=by omega
 obtain ⟨p0,p1,p2,p3,p4,p5,p6,p7,p8,p9,p10⟩:=kn.c11
 obtain ⟨o0,o1,o2,o3,o4,o5,o6,o7,o8,o9,o10⟩:=ko.c11
 obtain ⟨of0,of1,of2,of3,of4,of5,of6,of7,of8,of9,of10⟩:=ko.f11
 clear hb kb ko kn
 go_wp2_with fail
 refine bodyPost_ret (v:= .tuple #[.agg (I11 st be rk my gu lo hi (hd+n) l ut (wk+work)),.bool true]) (by simp [results,Tryz.results259,go_sem,o0,o1,o2,o3,o4,o5,o6,o7,o8,o9,o10]) rfl ⟨rfl,?_⟩
 iterate 11 (refine Below.setCell ?_ (by simp) _)
 exact uh B3
theorem NR {st be rk my gu lo hi hd ca ut wk:Int} {work x n l:Int} {R:Nat} {w:World} (hx:Zy rk=x) (hok:YA work x ca=true) (hn:Wt work x ca=n) (hl:Ws work x ca=l) (n0:0<=n) (n1:n<=400000)
  (d0 : -1000000000000<=hd) (d1:hd<=1000000000000) (k0:0<=wk) (k1:wk<=100000000000) (v0:0<=work) (v1:work<=100000) (hR:w.cell? ⟨R,0,none⟩=some (.int .i64 work)) (hg:XB (st,be,rk,my,gu,lo,hi,hd,ca,ut,wk)=false) (hp:Zw (st,be,rk,my,gu,lo,hi,hd,ca,ut,wk)=true) (hs:ZJ (st,be,rk,my,gu,lo,hi,(hd+n),l,ut,(wk+work))=false):Calls Tryz.prog 259 #[.agg (I11 st be rk my gu lo hi hd ca ut wk),.bool true,.func (.func 260) #[] #[.pointer (some ⟨R,0,none⟩)]] w fun e w'=>e= .returned (.tuple #[.agg (I11 st be rk my gu lo hi hd ca ut wk),.bool false])/\Below w.heap.size w w':=by
 have Hg:=Z9 hg
 have Hp:=Z9 hp
 have Hs:=Z9 hs
 clear hg hp hs
 have Hx:=Z9 hx
 have Hok:=Z9 hok
 have Hn:=Z9 hn
 have Hl:=Z9 hl
 clear hx hok hn hl
 have hRl:R<w.heap.size:=block_lt_of_cell hR
 go_enter Tryz.func259,Tryz.ntmps259
 go_wp2_with fail
 refine ck (VO (uh Hg) (uh Hp) _) fun w1 hb=> ?_
 have kb:Blk w1 w.heap.size 39 (I11 st be rk my gu lo hi hd ca ut wk):=((Blk.new w 39 (I11 st be rk my gu lo hi hd ca ut wk)).alloc _).below hb (by simp;omega)
 have ko:Blk w1 (w.heap.size+1) 39 E11:=by
  have k:=Blk.new (w.alloc (.cells (I11 st be rk my gu lo hi hd ca ut wk) 39)) 39 E11
  rw [World.size_alloc] at k
  exact k.below hb (by simp)
 have hsz:w.heap.size+2<=w1.heap.size:=by have:=hb.size;simp at this;omega
 have hl0:w.heap.size<w1.heap.size:=by omega
 have hl1:w.heap.size+1<w1.heap.size:=by omega
 have B1:=Z9 ((((Below.refl w.heap.size w).alloc (Nat.le_refl _) _).alloc (by simp) _).trans (hb.mono (by simp;omega)))
 have Kb:=Z9 kb
 have Ko:=Z9 ko
 obtain ⟨c0,c1,c2,c3,c4,c5,c6,c7,c8,c9,c10⟩:=kb.c11
 obtain ⟨o0,o1,o2,o3,o4,o5,o6,o7,o8,o9,o10⟩:=ko.c11
 obtain ⟨of0,of1,of2,of3,of4,of5,of6,of7,of8,of9,of10⟩:=ko.f11
 have hR1:w1.cell? ⟨R,0,none⟩=some (.int .i64 work):=(hb.cell (p:=⟨R,0,none⟩) (by simp;omega)).trans (((Below.refl w.heap.size w).alloc (Nat.le_refl _) _ |>.alloc (by simp) _ |>.cell (p:=⟨R,0,none⟩) (block_lt_of_cell hR)).trans hR)
 clear hb kb ko
 go_wp2_with fail
 refine ck (P1 (uh Hx) (uh Hok) (uh Hn) (uh Hl) n0 n1 d0 d1 k0 k1 v0 v1 ((((Below.refl w1.heap.size w1).alloc (Nat.le_refl _) _).cell (p:=⟨R,0,none⟩) (block_lt_of_cell hR1)).trans hR1)) fun w2 hb=> ?_
 have kb:=((uh Kb).alloc (.cells (I11 st be rk my gu lo hi hd ca ut wk) 294)).below hb (by simp;omega)
 have ko:=((uh Ko).alloc (.cells (I11 st be rk my gu lo hi hd ca ut wk) 294)).below hb (by simp;omega)
 have hsz2:w1.heap.size+1<=w2.heap.size:=by have:=hb.size;simp at this;omega
 have hm0:w.heap.size<w2.heap.size:=by omega
 have hm1:w.heap.size+1<w2.heap.size:=by omega
 have B2:=Z9 ((((uh B1).alloc (by omega) (.cells (I11 st be rk my gu lo hi hd ca ut wk) 294))).trans (hb.mono (by simp;omega)))
 have Kb2:=Z9 kb
 have Ko2:=Z9 ko
 clear hb kb ko Kb Ko B1 c0 o0 of0 c1 o1 of1 c2 o2 of2 c3 o3 of3 c4 o4 of4 c5 o5 of5 c6 o6 of6 c7 o7 of7 c8 o8 of8 c9 o9 of9 c10 o10 of10 hR1
 go_wp2_with fail
 refine (VY st be rk my gu lo hi (hd+n) l ut (wk+work) _).mono ?_
 rw [uh Hs]
 rintro e w3 ⟨rfl,hb⟩
 have kb:=((uh Kb2).alloc (.cells (I11 st be rk my gu lo hi (hd+n) l ut (wk+work)) 39)).below hb (by simp;omega)
 have ko:=((uh Ko2).alloc (.cells (I11 st be rk my gu lo hi (hd+n) l ut (wk+work)) 39)).below hb (by simp;omega)
 have kn:=(Blk.new w2 39 (I11 st be rk my gu lo hi (hd+n) l ut (wk+work))).below hb (by simp)
 have B3:=Z9 ((((uh B2).alloc (by omega) (.cells (I11 st be rk my gu lo hi (hd+n) l ut (wk+work)) 39))).trans (hb.mono (by simp;omega)))
 have hsz3:w2.heap.size+1<=w3.heap.size:=by have:=hb.size;simp at this;omega
 have hn0:w.heap.size<w3.heap.size:=by omega
 have hn1:w.heap.size+1<w3.heap.size:=by omega
 obtain ⟨p0,p1,p2,p3,p4,p5,p6,p7,p8,p9,p10⟩:=kb.c11
 obtain ⟨o0,o1,o2,o3,o4,o5,o6,o7,o8,o9,o10⟩:=ko.c11
 obtain ⟨of0,of1,of2,of3,of4,of5,of6,of7,of8,of9,of10⟩:=ko.f11
 clear hb kb ko kn
 go_wp2_with fail
 refine bodyPost_ret (v:= .tuple #[.agg (I11 st be rk my gu lo hi hd ca ut wk),.bool false]) (by simp [results,Tryz.results259,go_sem,o0,o1,o2,o3,o4,o5,o6,o7,o8,o9,o10]) rfl ⟨rfl,?_⟩
 iterate 11 (refine Below.setCell ?_ (by simp) _)
 exact uh B3
end Go.Proofs.YtffcgajndmhpkaaGreatDoor
namespace Go.Proofs.YtffcgajndmhpkaaGreatDoor
open Go.ChangeShapes Go.WideShapes Go.ChangeAt Go.RowKit Go.Sort
set_option linter.unusedVariables false
theorem Blk.second (w:World) (a:Obj) (t:TypeId) (cs:Array Value):Blk ((w.alloc a).alloc (.cells cs t)) (w.heap.size+1) t cs:=by
 have k:=Blk.new (w.alloc a) t cs
 rw [World.size_alloc] at k
 exact k
theorem Blk.third (w:World) (a b:Obj) (t:TypeId) (cs:Array Value):Blk (((w.alloc a).alloc b).alloc (.cells cs t)) (w.heap.size+1+1) t cs:=by
 have k:=Blk.new ((w.alloc a).alloc b) t cs
 rw [World.size_alloc,World.size_alloc] at k
 exact k
theorem U9 {st be rk my gu lo hi hd ca ut wk y0 y1 y2 y3 y4 y5 y6 y7 y8 y9 y10 work:Int} {q:Bool} (w:World)
  (hC:∀ (R:Nat) (W:World),W.cell? ⟨R,0,none⟩=some (.int .i64 work)->Calls Tryz.prog 259 #[.agg (I11 st be rk my gu lo hi hd ca ut wk),.bool (inB work 0 100000),.func (.func 260) #[] #[.pointer (some ⟨R,0,none⟩)]] W fun e w'=>e= .returned (.tuple #[.agg (I11 y0 y1 y2 y3 y4 y5 y6 y7 y8 y9 y10),.bool q])/\Below W.heap.size W w') :
  Calls Tryz.prog 208 #[.agg (I11 st be rk my gu lo hi hd ca ut wk),.int .i64 work] w fun e w'=>e= .returned (.tuple #[.agg (I11 y0 y1 y2 y3 y4 y5 y6 y7 y8 y9 y10),.bool q])/\Below w.heap.size w w':=by
 have HC:=Z9 hC
 clear hC
 go_enter Tryz.func208,Tryz.ntmps208
 go_wp2_with fail
 go_region_with (first
  | (go_at_call 117;refine (ZC _ _ _ _).mono ?_;rintro e w' ⟨rfl,rfl⟩)
  | (go_at_call 259;refine Calls.mono (uh HC (w.heap.size+1) _ ?_) ?_;exact ((Blk.second w _ 2 #[.int .i64 work]).alloc _).cell rfl;rintro e w1 ⟨rfl,hb⟩;have ko:Blk w1 (w.heap.size+1+1) 39 E11:=(hb.block (w.heap.size+1+1) (by simp)).trans (Blk.third w _ _ 39 E11);have hsz:w.heap.size+3<=w1.heap.size:=(by have:=hb.size;simp at this;omega);have B1:Hid (Below w.heap.size w w1):=Z9 ((((((Below.refl w.heap.size w).alloc (Nat.le_refl _) _).alloc (by simp) _).alloc (by simp;omega) _).drew).trans (hb.mono (by simp;omega)));have o0:=ko.cell (i:=0) (v:= .int .i64 0) rfl;have o1:=ko.cell (i:=1) (v:= .int .i64 0) rfl;have o2:=ko.cell (i:=2) (v:= .int .i64 0) rfl;have o3:=ko.cell (i:=3) (v:= .int .i64 0) rfl;have o4:=ko.cell (i:=4) (v:= .int .i64 0) rfl;have o5:=ko.cell (i:=5) (v:= .int .i64 0) rfl;have o6:=ko.cell (i:=6) (v:= .int .i64 0) rfl;have o7:=ko.cell (i:=7) (v:= .int .i64 0) rfl;have o8:=ko.cell (i:=8) (v:= .int .i64 0) rfl;have o9:=ko.cell (i:=9) (v:= .int .i64 0) rfl;have o10:=ko.cell (i:=10) (v:= .int .i64 0) rfl;have of0:=ko.free 0;have of1:=ko.free 1;have of2:=ko.free 2;have of3:=ko.free 3;have of4:=ko.free 4;have of5:=ko.free 5;have of6:=ko.free 6;have of7:=ko.free 7;have of8:=ko.free 8;have of9:=ko.free 9;have of10:=ko.free 10;clear hb ko))
 all_goals
  go_wp2_with fail
  refine bodyPost_ret (v:= .tuple #[.agg (I11 y0 y1 y2 y3 y4 y5 y6 y7 y8 y9 y10),.bool q]) (by simp [results,Tryz.results208,go_sem,o0,o1,o2,o3,o4,o5,o6,o7,o8,o9,o10]) rfl ⟨rfl,?_⟩
  iterate 11 (refine Below.setCell ?_ (by simp;omega) _)
  exact uh B1
theorem O0 {x:Z3} (h:x.1 ≠ 0):ZJ x=Zw x:=by unfold ZJ;rw [Up h,Bool.false_or]
theorem NT {x:Z3} (work:Int) (hg:XB x=true):ZH x work=(XV,false):=by
 have e:=Xc hg
 subst e
 rfl
theorem PD {x:Z3} (work:Int) (hg:XB x=false) (hp:Zw x=false):ZH x work=(XV,false):=by unfold ZH;rw [hp,hg];rfl
theorem Lz {x:Z3} {work:Int} (hp:Zw x=true) (hw:inB work 0 100000=false):ZH x work=(x,false):=by unfold ZH;rw [hp,hw];rfl
theorem Rr {x:Z3} {work:Int} {q:Bool} (hp:Zw x=true) (hw:inB work 0 100000=true) (hq:Zw (Uy x work)=q):ZH x work=(if q then Uy x work else x,q):=by unfold ZH;rw [hp,hw,hq];cases q<;>rfl
theorem Nf {x y:Z3} {work:Int} {q:Bool} (h:ZH x work=(y,q)) (w:World):Calls Tryz.prog 208 #[.agg (ZX x).toArray,.int .i64 work] w fun e w'=>e= .returned (.tuple #[.agg (ZX y).toArray,.bool q])/\Below w.heap.size w w':=by
 obtain ⟨st,be,rk,my,gu,lo,hi,hd,ca,ut,wk⟩:=x
 cases hg:XB (st,be,rk,my,gu,lo,hi,hd,ca,ut,wk)
 ·cases hp:Zw (st,be,rk,my,gu,lo,hi,hd,ca,ut,wk)
  ·rw [PD work hg hp] at h
   obtain ⟨rfl,rfl⟩:=Prod.mk.inj h
   exact U9 w fun R W hR=>Nb hg hp _ _ _
  ·cases hw:inB work 0 100000
   ·rw [Lz hp hw] at h
    obtain ⟨rfl,rfl⟩:=Prod.mk.inj h
    exact U9 w fun R W hR=>by rw [hw];exact GL hg hp _ _
   ·obtain ⟨v0,v1⟩:=ZU hw
    obtain ⟨⟨s0,s1⟩,_,hr,_,_,_,⟨d0,d1⟩,⟨a0,a1⟩,_,⟨k0,k1⟩⟩:=Zu hp
    have hr0:=WU hr
    have hr1:=(VH rk).2
    have a2:ca<=3125:=by omega
    obtain ⟨hok,n0,n1,_,_,_⟩:=KN v0 v1 hr0 hr1 a0 a1
    cases hq:Zw (Uy (st,be,rk,my,gu,lo,hi,hd,ca,ut,wk) work)
    ·rw [Rr hp hw hq] at h
     obtain ⟨rfl,rfl⟩:=Prod.mk.inj h
     exact U9 w fun R W hR=>by rw [hw];exact NR rfl hok rfl rfl n0 n1 d0 d1 k0 k1 v0 v1 hR hg hp ((O0 (x:=Uy (st,be,rk,my,gu,lo,hi,hd,ca,ut,wk) work) (show st ≠ 0 by omega)).trans hq)
    ·rw [Rr hp hw hq] at h
     obtain ⟨rfl,rfl⟩:=Prod.mk.inj h
     exact U9 w fun R W hR=>by rw [hw];exact Na rfl hok rfl rfl n0 n1 d0 d1 k0 k1 v0 v1 hR hg hp ((O0 (x:=Uy (st,be,rk,my,gu,lo,hi,hd,ca,ut,wk) work) (show st ≠ 0 by omega)).trans hq)
 ·rw [NT work hg] at h
  obtain ⟨rfl,rfl⟩:=Prod.mk.inj h
  cases Xc hg
  exact U9 w fun R W hR=>Lx _ _ _
end Go.Proofs.YtffcgajndmhpkaaGreatDoor
