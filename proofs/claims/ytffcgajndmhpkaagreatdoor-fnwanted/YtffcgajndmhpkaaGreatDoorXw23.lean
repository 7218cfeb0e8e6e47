/- Part 23 of what the proof rests on. No condition but those that a theorem names. -/
import Derived.Test.YtffcgajndmhpkaaGreatDoorXw22
set_option maxHeartbeats 8000000
set_option maxRecDepth 100000
namespace Go.Proofs.YtffcgajndmhpkaaGreatDoor
open Go.ChangeShapes Go.WideShapes Go.ChangeAt Go.RowKit Go.Sort
set_option linter.unusedVariables false
attribute [local go_sem ↓] MJ QR
theorem LU (w:World):Calls Tryz.prog 270 #[.agg E11] w fun e w'=>e= .returned (.iface 296 (.agg #[]))/\Below w.heap.size w w':=by
 have hz:Uw (0,0,0,0,0,0,0,0,0,0,0) (0,0,0,0,0,0,0,0,0,0,0)=true:=rfl
 go_enter Tryz.func270,Tryz.ntmps270
 go_wp2_with fail
 go_ret
 exact ⟨rfl,(ba _ _)⟩
theorem LV {st be rk my gu lo hi hd ca ut wk:Int} (hg:VX (st,be,rk,my,gu,lo,hi,hd,ca,ut,wk)=false) (hp:Zf (st,be,rk,my,gu,lo,hi,hd,ca,ut,wk)=true) (w:World):Calls Tryz.prog 270 #[.agg (I11 st be rk my gu lo hi hd ca ut wk)] w fun e w'=>e= .returned (.iface 294 (.agg (I11 st be rk my gu lo hi hd ca ut wk)))/\Below w.heap.size w w':=by
 have hz:Uw (st,be,rk,my,gu,lo,hi,hd,ca,ut,wk) (0,0,0,0,0,0,0,0,0,0,0)=false:=hg
 have Hp:=Z9 hp
 clear hg hp
 go_enter Tryz.func270,Tryz.ntmps270
 go_wp2_with fail
 refine (R7 st be rk my gu lo hi hd ca ut wk _).mono ?_
 rw [uh Hp]
 rintro e w1 ⟨rfl,hb⟩
 have c0:w1.cell? ⟨w.heap.size,0,none⟩=some (.int .i64 st):=(hb.cell (p:=⟨w.heap.size,0,none⟩) (by simp)).trans (Zu _ rfl)
 have c1:w1.cell? ⟨w.heap.size,1,none⟩=some (.int .i64 be):=(hb.cell (p:=⟨w.heap.size,1,none⟩) (by simp)).trans (Zu _ rfl)
 have c2:w1.cell? ⟨w.heap.size,2,none⟩=some (.int .i64 rk):=(hb.cell (p:=⟨w.heap.size,2,none⟩) (by simp)).trans (Zu _ rfl)
 have c3:w1.cell? ⟨w.heap.size,3,none⟩=some (.int .i64 my):=(hb.cell (p:=⟨w.heap.size,3,none⟩) (by simp)).trans (Zu _ rfl)
 have c4:w1.cell? ⟨w.heap.size,4,none⟩=some (.int .i64 gu):=(hb.cell (p:=⟨w.heap.size,4,none⟩) (by simp)).trans (Zu _ rfl)
 have c5:w1.cell? ⟨w.heap.size,5,none⟩=some (.int .i64 lo):=(hb.cell (p:=⟨w.heap.size,5,none⟩) (by simp)).trans (Zu _ rfl)
 have c6:w1.cell? ⟨w.heap.size,6,none⟩=some (.int .i64 hi):=(hb.cell (p:=⟨w.heap.size,6,none⟩) (by simp)).trans (Zu _ rfl)
 have c7:w1.cell? ⟨w.heap.size,7,none⟩=some (.int .i64 hd):=(hb.cell (p:=⟨w.heap.size,7,none⟩) (by simp)).trans (Zu _ rfl)
 have c8:w1.cell? ⟨w.heap.size,8,none⟩=some (.int .i64 ca):=(hb.cell (p:=⟨w.heap.size,8,none⟩) (by simp)).trans (Zu _ rfl)
 have c9:w1.cell? ⟨w.heap.size,9,none⟩=some (.int .i64 ut):=(hb.cell (p:=⟨w.heap.size,9,none⟩) (by simp)).trans (Zu _ rfl)
 have c10:w1.cell? ⟨w.heap.size,10,none⟩=some (.int .i64 wk):=(hb.cell (p:=⟨w.heap.size,10,none⟩) (by simp)).trans (Zu _ rfl)
 have Hb:=Z9 (((Below.refl w.heap.size w).alloc (Nat.le_refl _) _).trans (hb.mono (by simp)))
 clear hb
 go_wp2_with fail
 go_ret
 exact ⟨rfl,uh Hb⟩
theorem Np {st be rk my gu lo hi hd ca ut wk:Int} (hg:VX (st,be,rk,my,gu,lo,hi,hd,ca,ut,wk)=false) (hp:Zf (st,be,rk,my,gu,lo,hi,hd,ca,ut,wk)=false) (w:World):Calls Tryz.prog 270 #[.agg (I11 st be rk my gu lo hi hd ca ut wk)] w fun e w'=>e= .returned (.iface 297 (.agg #[]))/\Below w.heap.size w w':=by
 have hz:Uw (st,be,rk,my,gu,lo,hi,hd,ca,ut,wk) (0,0,0,0,0,0,0,0,0,0,0)=false:=hg
 have Hp:=Z9 hp
 clear hg hp
 go_enter Tryz.func270,Tryz.ntmps270
 go_wp2_with fail
 refine (R7 st be rk my gu lo hi hd ca ut wk _).mono ?_
 rw [uh Hp]
 rintro e w1 ⟨rfl,hb⟩
 have Hb:=Z9 (((Below.refl w.heap.size w).alloc (Nat.le_refl _) _).trans (hb.mono (by simp)))
 clear hb
 go_wp2_with fail
 go_ret
 exact ⟨rfl,uh Hb⟩
theorem BG (w : World) : (method 464 296 (.agg #[]) "loop.example/g00553/impl.isSmith").run Tryz.prog w = .ok (378, .agg #[]) w := by kernel_rfl
theorem Cw (w : World) : (method 464 297 (.agg #[]) "loop.example/g00553/impl.isSmith").run Tryz.prog w = .ok (379, .agg #[]) w := by kernel_rfl
theorem BH (st be rk my gu lo hi hd ca ut wk : Int) (w : World) : (method 464 294 (.agg (I11 st be rk my gu lo hi hd ca ut wk)) "loop.example/g00553/impl.isSmith").run Tryz.prog w = .ok (377, .agg (I11 st be rk my gu lo hi hd ca ut wk)) w := by kernel_rfl
theorem GG (w:World):Calls Tryz.prog 378 #[.agg #[]] w fun e w'=>e= .returned (.bool true)/\Below w.heap.size w w':=by
 go_enter Tryz.func378,Tryz.ntmps378
 go_wp2_with fail
 go_ret
 exact ⟨rfl,(ba _ _)⟩
theorem K7 (w:World):Calls Tryz.prog 379 #[.agg #[]] w fun e w'=>e= .returned (.bool false)/\Below w.heap.size w w':=by
 go_enter Tryz.func379,Tryz.ntmps379
 go_wp2_with fail
 go_ret
 exact ⟨rfl,(ba _ _)⟩
theorem Ij (st be rk my gu lo hi hd ca ut wk:Int) (w:World):Calls Tryz.prog 377 #[.agg (I11 st be rk my gu lo hi hd ca ut wk)] w fun e w'=>e= .returned (.bool true)/\Below w.heap.size w w':=by
 go_enter Tryz.func377,Tryz.ntmps377
 go_wp2_with fail
 go_ret
 exact ⟨rfl,(ba _ _)⟩
attribute [local go_sem] BG Cw BH
theorem Pw (st be rk my gu lo hi hd ca ut wk:Int) (w:World):Calls Tryz.prog 214 #[.agg (I11 st be rk my gu lo hi hd ca ut wk)] w fun e w'=>e= .returned (.bool (ZE (st,be,rk,my,gu,lo,hi,hd,ca,ut,wk)))/\Below w.heap.size w w':=by
 unfold ZE
 cases hg:VX (st,be,rk,my,gu,lo,hi,hd,ca,ut,wk)
 ·cases hp:Zf (st,be,rk,my,gu,lo,hi,hd,ca,ut,wk)
  ·rw [show (false || false)=false from rfl]
   have Hg:=Z9 hg
   have Hp:=Z9 hp
   clear hg hp
   go_enter Tryz.func214,Tryz.ntmps214
   go_wp2_with fail
   refine ck (Np (uh Hg) (uh Hp) _) fun w1 hb=> ?_
   have B1:=Z9 (((Below.refl w.heap.size w).alloc (Nat.le_refl _) _).trans (hb.mono (by simp)))
   clear hb
   go_wp2_with fail
   refine ck (K7 _) fun w2 hb=> ?_
   have B2:=Z9 ((uh B1).trans (hb.mono (uh B1).size))
   clear hb
   go_wp2_with fail
   go_ret
   exact ⟨rfl,uh B2⟩
  ·rw [show (false || true)=true from rfl]
   have Hg:=Z9 hg
   have Hp:=Z9 hp
   clear hg hp
   go_enter Tryz.func214,Tryz.ntmps214
   go_wp2_with fail
   refine ck (LV (uh Hg) (uh Hp) _) fun w1 hb=> ?_
   have B1:=Z9 (((Below.refl w.heap.size w).alloc (Nat.le_refl _) _).trans (hb.mono (by simp)))
   clear hb
   go_wp2_with fail
   refine ck (Ij _ _ _ _ _ _ _ _ _ _ _ _) fun w2 hb=> ?_
   have B2:=Z9 ((uh B1).trans (hb.mono (uh B1).size))
   clear hb
   go_wp2_with fail
   go_ret
   exact ⟨rfl,uh B2⟩
 ·rw [Bool.true_or]
  cases VY hg
  clear hg
  go_enter Tryz.func214,Tryz.ntmps214
  go_wp2_with fail
  refine ck (LU _) fun w1 hb=> ?_
  have B1:=Z9 (((Below.refl w.heap.size w).alloc (Nat.le_refl _) _).trans (hb.mono (by simp)))
  clear hb
  go_wp2_with fail
  refine ck (GG _) fun w2 hb=> ?_
  have B2:=Z9 ((uh B1).trans (hb.mono (uh B1).size))
  clear hb
  go_wp2_with fail
  go_ret
  exact ⟨rfl,uh B2⟩
end Go.Proofs.YtffcgajndmhpkaaGreatDoor
namespace Go.Proofs.YtffcgajndmhpkaaGreatDoor
open Go.ChangeShapes Go.WideShapes Go.ChangeAt Go.RowKit Go.Sort
set_option linter.unusedVariables false
theorem Li (v:Value) (w:World):(Instr.typeAssert (.iface 296 v) 279 294 true).run Tryz.prog w= .ok (.tuple #[.agg E11,.bool false]) w:=by kernel_rfl
theorem Lh (v:Value) (w:World):(Instr.typeAssert (.iface 296 v) 279 296 true).run Tryz.prog w= .ok (.tuple #[v,.bool true]) w:=by kernel_rfl
theorem M5 (v:Value) (w:World):(Instr.typeAssert (.iface 297 v) 279 294 true).run Tryz.prog w= .ok (.tuple #[.agg E11,.bool false]) w:=by kernel_rfl
theorem M0 (v:Value) (w:World):(Instr.typeAssert (.iface 297 v) 279 296 true).run Tryz.prog w= .ok (.tuple #[.agg #[],.bool false]) w:=by kernel_rfl
theorem Lj (v:Value) (w:World):(Instr.typeAssert (.iface 294 v) 279 294 true).run Tryz.prog w= .ok (.tuple #[v,.bool true]) w:=by kernel_rfl
attribute [local go_sem] Li Lh M5 M0 Lj
end Go.Proofs.YtffcgajndmhpkaaGreatDoor
