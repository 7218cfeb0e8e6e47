/- Part 9 of what the proof rests on. No condition but those that a theorem names. -/
import Derived.Test.YtffcgajndmhpkaaGreatDoorXt08
set_option maxHeartbeats 8000000
set_option maxRecDepth 100000
namespace Go.Proofs.YtffcgajndmhpkaaGreatDoor
open Go.ChangeShapes Go.WideShapes Go.ChangeAt Go.RowKit Go.Sort
set_option linter.unusedVariables false
attribute [local go_sem ↓] MU Q2
theorem XS (n:Int) (w:World):Calls Tryz.prog 161 #[.int .i64 n] w fun e w'=>e= .returned (.bool (inB n (-1000000000000) 1000000000000))/\w'=w:=by
 go_enter Tryz.func161,Tryz.ntmps161
 go_wp2_with (go_at_call 40;refine (Z1 _ _ _ _).mono ?_;rintro e w' ⟨rfl,rfl⟩)
 go_ret
 exact ⟨rfl,rfl⟩
theorem Zx (st be rk my gu lo hi hd ca ut wk:Int) (w:World):Calls Tryz.prog 100 #[.agg (I11 st be rk my gu lo hi hd ca ut wk)] w fun e w'=>e= .returned (.bool (ZJ (st,be,rk,my,gu,lo,hi,hd,ca,ut,wk)))/\Below w.heap.size w w':=by
 by_cases hst:st=0
 ·subst hst
  unfold ZJ
  rw [Tn rfl,Bool.or_false]
  obtain ⟨q,hq⟩:∃ q,XB (0,be,rk,my,gu,lo,hi,hd,ca,ut,wk)=q:=⟨_,rfl⟩
  rw [hq]
  have hz:Uz (0,be,rk,my,gu,lo,hi,hd,ca,ut,wk) (0,0,0,0,0,0,0,0,0,0,0)=q:=hq
  clear hq
  go_enter Tryz.func100,Tryz.ntmps100
  go_wp2_with fail
  go_ret
  exact ⟨rfl,(ba _ _)⟩
 ·have hne:(st ==0)=false:=by simpa using hst
  unfold ZJ
  rw [Up hst,Bool.false_or]
  unfold Zw
  simp only
  obtain ⟨x0,x1⟩:=VH rk
  obtain ⟨x,hx⟩:∃ x,Zy rk=x:=⟨_,rfl⟩
  rw [hx] at x0 x1 ⊢
  have Hw:=Z9 hx
  have hwr:IntKind.i64.wrap (x-1)=x-1:=by rw [IntKind.wrap_i64];omega
  clear hx hst
  cases h0:inB st 1 3
  ·go_enter Tryz.func100,Tryz.ntmps100
   go_wp2_with (first | (go_at_call 40;refine (Z1 _ _ _ _).mono ?_;rintro e w' ⟨rfl,rfl⟩) | (go_at_call 159;refine (Y4 _ _).mono ?_;rintro e w' ⟨rfl,rfl⟩) | (go_at_call 160;refine (YZ _ _ _).mono ?_;rintro e w' ⟨rfl,rfl⟩))
   go_ret
   exact ⟨rfl,(ba _ _)⟩
  cases h1:inB be 0 7
  ·go_enter Tryz.func100,Tryz.ntmps100
   go_wp2_with (first | (go_at_call 40;refine (Z1 _ _ _ _).mono ?_;rintro e w' ⟨rfl,rfl⟩) | (go_at_call 159;refine (Y4 _ _).mono ?_;rintro e w' ⟨rfl,rfl⟩) | (go_at_call 160;refine (YZ _ _ _).mono ?_;rintro e w' ⟨rfl,rfl⟩))
   go_ret
   exact ⟨rfl,(ba _ _)⟩
  cases h2:inB rk (-5) 5
  ·go_enter Tryz.func100,Tryz.ntmps100
   go_wp2_with (first | (go_at_call 40;refine (Z1 _ _ _ _).mono ?_;rintro e w' ⟨rfl,rfl⟩) | (go_at_call 159;refine (Y4 _ _).mono ?_;rintro e w' ⟨rfl,rfl⟩) | (go_at_call 160;refine (YZ _ _ _).mono ?_;rintro e w' ⟨rfl,rfl⟩))
   go_ret
   exact ⟨rfl,(ba _ _)⟩
  cases h3:inB my 1 255
  ·go_enter Tryz.func100,Tryz.ntmps100
   go_wp2_with (first | (go_at_call 40;refine (Z1 _ _ _ _).mono ?_;rintro e w' ⟨rfl,rfl⟩) | (go_at_call 159;refine (Y4 _ _).mono ?_;rintro e w' ⟨rfl,rfl⟩) | (go_at_call 160;refine (YZ _ _ _).mono ?_;rintro e w' ⟨rfl,rfl⟩))
   go_ret
   exact ⟨rfl,(ba _ _)⟩
  cases h4:inB gu (-1) 5
  ·go_enter Tryz.func100,Tryz.ntmps100
   go_wp2_with (first | (go_at_call 40;refine (Z1 _ _ _ _).mono ?_;rintro e w' ⟨rfl,rfl⟩) | (go_at_call 159;refine (Y4 _ _).mono ?_;rintro e w' ⟨rfl,rfl⟩) | (go_at_call 160;refine (YZ _ _ _).mono ?_;rintro e w' ⟨rfl,rfl⟩))
   go_ret
   exact ⟨rfl,(ba _ _)⟩
  cases h5:Yj lo hi
  ·go_enter Tryz.func100,Tryz.ntmps100
   go_wp2_with (first | (go_at_call 40;refine (Z1 _ _ _ _).mono ?_;rintro e w' ⟨rfl,rfl⟩) | (go_at_call 159;refine (Y4 _ _).mono ?_;rintro e w' ⟨rfl,rfl⟩) | (go_at_call 160;refine (YZ _ _ _).mono ?_;rintro e w' ⟨rfl,rfl⟩))
   go_ret
   exact ⟨rfl,(ba _ _)⟩
  cases h6:inB hd (-1000000000000) 1000000000000
  ·go_enter Tryz.func100,Tryz.ntmps100
   go_wp2_with (first | (go_at_call 40;refine (Z1 _ _ _ _).mono ?_;rintro e w' ⟨rfl,rfl⟩) | (go_at_call 159;refine (Y4 _ _).mono ?_;rintro e w' ⟨rfl,rfl⟩) | (go_at_call 160;refine (YZ _ _ _).mono ?_;rintro e w' ⟨rfl,rfl⟩))
   go_quiet (first | exact Calls.quiet_of_same (Z1 _ _ _ _) | exact Calls.quiet_of_same (XS _ _) | exact Calls.quiet_of_same (YV (uh Hw) _) | exact Calls.quiet_of_same (YC _ _))
   go_wp2_with fail
   go_ret
   exact ⟨rfl,YX ((ba _ _)) _⟩
  cases h7:inB ca 0 (x-1)
  ·go_enter Tryz.func100,Tryz.ntmps100
   go_wp2_with (first | (go_at_call 40;refine (Z1 _ _ _ _).mono ?_;rintro e w' ⟨rfl,rfl⟩) | (go_at_call 159;refine (Y4 _ _).mono ?_;rintro e w' ⟨rfl,rfl⟩) | (go_at_call 160;refine (YZ _ _ _).mono ?_;rintro e w' ⟨rfl,rfl⟩))
   go_quiet (first | exact Calls.quiet_of_same (Z1 _ _ _ _) | exact Calls.quiet_of_same (XS _ _) | exact Calls.quiet_of_same (YV (uh Hw) _) | exact Calls.quiet_of_same (YC _ _))
   go_wp2_with fail
   go_ret
   exact ⟨rfl,YX ((ba _ _)) _⟩
  cases h8:inB ut 0 1024
  ·go_enter Tryz.func100,Tryz.ntmps100
   go_wp2_with (first | (go_at_call 40;refine (Z1 _ _ _ _).mono ?_;rintro e w' ⟨rfl,rfl⟩) | (go_at_call 159;refine (Y4 _ _).mono ?_;rintro e w' ⟨rfl,rfl⟩) | (go_at_call 160;refine (YZ _ _ _).mono ?_;rintro e w' ⟨rfl,rfl⟩))
   go_quiet (first | exact Calls.quiet_of_same (Z1 _ _ _ _) | exact Calls.quiet_of_same (XS _ _) | exact Calls.quiet_of_same (YV (uh Hw) _) | exact Calls.quiet_of_same (YC _ _))
   go_wp2_with fail
   go_ret
   exact ⟨rfl,YX ((ba _ _)) _⟩
  cases h9:inB wk 0 100000000000
  ·go_enter Tryz.func100,Tryz.ntmps100
   go_wp2_with (first | (go_at_call 40;refine (Z1 _ _ _ _).mono ?_;rintro e w' ⟨rfl,rfl⟩) | (go_at_call 159;refine (Y4 _ _).mono ?_;rintro e w' ⟨rfl,rfl⟩) | (go_at_call 160;refine (YZ _ _ _).mono ?_;rintro e w' ⟨rfl,rfl⟩))
   go_quiet (first | exact Calls.quiet_of_same (Z1 _ _ _ _) | exact Calls.quiet_of_same (XS _ _) | exact Calls.quiet_of_same (YV (uh Hw) _) | exact Calls.quiet_of_same (YC _ _))
   go_wp2_with fail
   go_ret
   exact ⟨rfl,YX ((ba _ _)) _⟩
  go_enter Tryz.func100,Tryz.ntmps100
  go_wp2_with (first | (go_at_call 40;refine (Z1 _ _ _ _).mono ?_;rintro e w' ⟨rfl,rfl⟩) | (go_at_call 159;refine (Y4 _ _).mono ?_;rintro e w' ⟨rfl,rfl⟩) | (go_at_call 160;refine (YZ _ _ _).mono ?_;rintro e w' ⟨rfl,rfl⟩))
  go_quiet (first | exact Calls.quiet_of_same (Z1 _ _ _ _) | exact Calls.quiet_of_same (XS _ _) | exact Calls.quiet_of_same (YV (uh Hw) _) | exact Calls.quiet_of_same (YC _ _))
  go_wp2_with fail
  go_ret
  exact ⟨rfl,YX ((ba _ _)) _⟩
end Go.Proofs.YtffcgajndmhpkaaGreatDoor
namespace Go.Proofs.YtffcgajndmhpkaaGreatDoor
open Go.ChangeShapes Go.WideShapes Go.ChangeAt Go.RowKit Go.Sort
set_option linter.unusedVariables false
theorem OA (st be rk my gu lo hi hd ca ut wk:Int) (w:World):Calls Tryz.prog 47 #[.agg (I11 st be rk my gu lo hi hd ca ut wk)] w fun e w'=>
  e= .returned (.bool (ZP (st,be,rk,my,gu,lo,hi,hd,ca,ut,wk)))/\Below w.heap.size w w':=by
 unfold ZP
 simp only
 cases h2:(st ==2)
 all_goals
  go_enter Tryz.func47,Tryz.ntmps47
  go_wp2_with fail
  go_ret
  exact ⟨by first | rfl | (simp),(ba _ _)⟩
theorem O6 (h m:Int) (w:World):Calls Tryz.prog 107 #[.int .i64 h,.int .i64 m] w fun e w'=>e= .returned (.bool (Xz h m))/\w'=w:=by
 unfold Xz
 cases h1:inB h (-1000000000000) 1000000000000
 ·go_enter Tryz.func107,Tryz.ntmps107
  go_wp2_with (first | (go_at_call 161;refine (XS _ _).mono ?_;rintro e w' ⟨rfl,rfl⟩) | (go_at_call 40;refine (Z1 _ _ _ _).mono ?_;rintro e w' ⟨rfl,rfl⟩))
  go_ret
  exact ⟨rfl,rfl⟩
 cases h2:inB m (-1000000000000) 1000000000000
 ·go_enter Tryz.func107,Tryz.ntmps107
  go_wp2_with (first | (go_at_call 161;refine (XS _ _).mono ?_;rintro e w' ⟨rfl,rfl⟩) | (go_at_call 40;refine (Z1 _ _ _ _).mono ?_;rintro e w' ⟨rfl,rfl⟩))
  go_ret
  exact ⟨rfl,rfl⟩
 obtain ⟨a0,a1⟩:=ZU h1
 obtain ⟨b0,b1⟩:=ZU h2
 go_enter Tryz.func107,Tryz.ntmps107
 go_wp2_with (first | (go_at_call 161;refine (XS _ _).mono ?_;rintro e w' ⟨rfl,rfl⟩) | (go_at_call 40;refine (Z1 _ _ _ _).mono ?_;rintro e w' ⟨rfl,rfl⟩))
 go_ret
 exact ⟨rfl,rfl⟩
theorem XR {w:World} {v:Value} {rs:List Z2} {q:Bool} (hq:Zf rs=q) (h:IsRooms w v rs):Calls Tryz.prog 103 #[.agg #[v]] w fun e w'=>e= .returned (.bool q)/\Below w.heap.size w w':=by
 have:=Xt h;rw [hq] at this;exact this
theorem XY {w:World} {v:Value} {ps:List ZA} {q:Bool} (hq:Zc ps=q) (h:XJ w v ps):Calls Tryz.prog 104 #[v] w fun e w'=>e= .returned (.bool q)/\Below w.heap.size w w':=by
 have:=Q4 h;rw [hq] at this;exact this
theorem SJ {w:World} {v:Value} {rs:List Z2} {n:Int} (hn:ZY rs=n) (h:IsRooms w v rs) (ha:Adds rs):Calls Tryz.prog 105 #[.agg #[v]] w fun e w'=>e= .returned (.int .i64 n)/\Below w.heap.size w w':=by
 have:=UY h ha;rw [hn] at this;exact this
theorem DI {x lo hi:Int} {q:Bool} (hq:inB x lo hi=q) (w:World):Calls Tryz.prog 40 #[.int .i64 x,.int .i64 lo,.int .i64 hi] w fun e w'=>e= .returned (.bool q)/\Below w.heap.size w w':=by
 have:=Z1 x lo hi w;rw [hq] at this
 exact this.mono fun e w' ⟨h1,h2⟩=>⟨h1,by rw [h2];exact Below.refl _ _⟩
theorem ND {st be rk my gu lo hi hd ca ut wk:Int} {q:Bool} (hq:ZJ (st,be,rk,my,gu,lo,hi,hd,ca,ut,wk)=q) (w:World):Calls Tryz.prog 100 #[.agg (I11 st be rk my gu lo hi hd ca ut wk)] w fun e w'=>e= .returned (.bool q)/\Below w.heap.size w w':=by
 have:=Zx st be rk my gu lo hi hd ca ut wk w;rw [hq] at this;exact this
theorem YS {st be rk my gu lo hi hd ca ut wk:Int} {q:Bool} (hq:ZP (st,be,rk,my,gu,lo,hi,hd,ca,ut,wk)=q) (w:World):Calls Tryz.prog 47 #[.agg (I11 st be rk my gu lo hi hd ca ut wk)] w fun e w'=>e= .returned (.bool q)/\Below w.heap.size w w':=by
 have:=OA st be rk my gu lo hi hd ca ut wk w;rw [hq] at this;exact this
theorem Ry {s i:Int} {q:Bool} (hq:Wf s i=q) (h0:0<=s) (h1:s<=255) (h2:0<=i) (h3:i<=7) (w:World):Calls Tryz.prog 106 #[.int .i64 s,.int .i64 i] w fun e w'=>e= .returned (.bool q)/\Below w.heap.size w w':=by
 have:=ME s i w h0 h1 h2 h3;rw [hq] at this
 exact this.mono fun e w' ⟨h1,h2⟩=>⟨h1,by rw [h2];exact Below.refl _ _⟩
theorem VQ {h k:Int} {q:Bool} (hq:Xz h k=q) (w:World):Calls Tryz.prog 107 #[.int .i64 h,.int .i64 k] w fun e w'=>e= .returned (.bool q)/\Below w.heap.size w w':=by
 have:=O6 h k w;rw [hq] at this
 exact this.mono fun e w' ⟨h1,h2⟩=>⟨h1,by rw [h2];exact Below.refl _ _⟩
theorem TQ {w:World} {v0 v1 v2 v3 v4:Value} {m:Z6} (h:Smy w v0 v1 v2 v3 v4 m) :
  Calls Tryz.prog 43 #[.agg #[v0,v1,v2,v3,v4,.int .i64 m.now]] w fun e w'=>e= .returned (.bool (Ze m))/\Below w.heap.size w w':=by
 have Hv:=Z9 (h.alloc (.cells #[v0,v1,v2,v3,v4,.int .i64 m.now] 32))
 obtain ⟨h0,h1,h2,h3,h4⟩:=h
 obtain ⟨a0,p0,rfl,hc0,hm0,r0⟩:=h0
 obtain ⟨a1,p1,rfl,hc1,hm1,_⟩:=h1
 obtain ⟨a2,p2,rfl,hc2,hm2,r2⟩:=h2
 obtain ⟨a3,p3,rfl,hc3,hm3,r3⟩:=h3
 obtain ⟨a4,p4,rfl,hc4,hm4,r4⟩:=h4
 have R0:=Z9 r0
 have R2:=Z9 r2
 have R3:=Z9 r3
 have R4:=Z9 r4
 clear r0 r2 r3 r4
 go_enter Tryz.func43,Tryz.ntmps43
 go_wp2_with fail
 obtain ⟨W,hW,BB,kb⟩:=Kg w 32 (S6 a0 p0 a1 p1 a2 p2 a3 p3 a4 p4 m)
 rw [hW]
 (try rw [hW] at Hv);clear hW
 have c0:=cell_regrown ((uh kb).cell (i:=0) (v:= .slice a0 m.rooms.length p0) rfl)
 have c1:=cell_regrown ((uh kb).cell (i:=1) (v:= .slice a1 m.guilds.length p1) rfl)
 have c2:=cell_regrown ((uh kb).cell (i:=2) (v:= .slice a2 m.smiths.length p2) rfl)
 have c3:=cell_regrown ((uh kb).cell (i:=3) (v:= .slice a3 m.desks.length p3) rfl)
 have c4:=cell_regrown ((uh kb).cell (i:=4) (v:= .slice a4 m.paces.length p4) rfl)
 have c5:=cell_regrown ((uh kb).cell (i:=5) (v:= .int .i64 m.now) rfl)
 cases h0:Zf m.rooms
 ·have Q0:=Z9 h0
  clear h0
  refine wq ?_
  repeat (go_big_quiet_step (first | exact Calls.regrown_of (XR (uh Q0) ((uh Hv).below (below_regrown _ _ _)).rooms)))
  refine wqn fun W1 hb=> ?_
  clear c0 c1 c2 c3 c4 c5
  go_wp2_with fail
  go_ret
  exact ⟨Z5 (WN (by unfold YY;rw [uh Q0];rfl)).symm,(uh BB).trans (hb.mono (uh BB).size)⟩
 have Q0:=Z9 h0
 have QA:=Z9 (Ui h0)
 clear h0
 cases h1:Zc m.guilds
 ·have Q1:=Z9 h1
  clear h1
  refine wq ?_
  repeat (go_big_quiet_step (first | exact Calls.regrown_of (XR (uh Q0) ((uh Hv).below (below_regrown _ _ _)).rooms) | exact Calls.regrown_of (XY (uh Q1) ((uh Hv).below (below_regrown _ _ _)).guilds)))
  refine wqn fun W1 hb=> ?_
  clear c0 c1 c2 c3 c4 c5
  go_wp2_with fail
  go_ret
  exact ⟨Z5 (WN (by unfold YY;rw [uh Q0,uh Q1];rfl)).symm,(uh BB).trans (hb.mono (uh BB).size)⟩
 have Q1:=Z9 h1
 clear h1
 by_cases h2:12<m.smiths.length
 ·have h2i:(12:Int)<(m.smiths.length:Int):=by omega
  have h2d:decide ((12:Int)<(m.smiths.length:Int))=true:=decide_eq_true h2i
  refine wq ?_
  repeat (go_big_quiet_step (first | exact Calls.regrown_of (XR (uh Q0) ((uh Hv).below (below_regrown _ _ _)).rooms) | exact Calls.regrown_of (XY (uh Q1) ((uh Hv).below (below_regrown _ _ _)).guilds)))
  refine wqn fun W1 hb=> ?_
  clear c0 c1 c2 c3 c4 c5
  go_wp2_with fail
  go_ret
  exact ⟨Z5 (WN (by unfold YY;rw [uh Q0,uh Q1];simp;intro h9;omega)).symm,(uh BB).trans (hb.mono (uh BB).size)⟩
 have h2i:¬ (12:Int)<(m.smiths.length:Int):=by omega
 have h2d:decide ((12:Int)<(m.smiths.length:Int))=false:=decide_eq_false h2i
 obtain ⟨n,hn⟩:∃ n,ZY m.rooms=n:=⟨_,rfl⟩
 have Q3:=Z9 hn
 clear hn
 by_cases h3:(m.desks.length:Int)=n
 rotate_left
 ·have h3b:((m.desks.length:Int) !=n)=true:=by simpa using h3
  refine wq ?_
  repeat (go_big_quiet_step (first | exact Calls.regrown_of (XR (uh Q0) ((uh Hv).below (below_regrown _ _ _)).rooms) | exact Calls.regrown_of (XY (uh Q1) ((uh Hv).below (below_regrown _ _ _)).guilds) | exact Calls.regrown_of (SJ (uh Q3) ((uh Hv).below (below_regrown _ _ _)).rooms (uh QA))))
  refine wqn fun W1 hb=> ?_
  clear c0 c1 c2 c3 c4 c5
  go_wp2_with fail
  go_ret
  exact ⟨Z5 (WN (by unfold YY;rw [uh Q0,uh Q1,uh Q3];simp [h3])).symm,(uh BB).trans (hb.mono (uh BB).size)⟩
 have h3b:((m.desks.length:Int) !=n)=false:=by simpa using h3
 by_cases h4:m.paces.length=m.rooms.length
 rotate_left
 ·have h4b:((m.paces.length:Int) !=(m.rooms.length:Int))=true:=by simp;omega
  refine wq ?_
  repeat (go_big_quiet_step (first | exact Calls.regrown_of (XR (uh Q0) ((uh Hv).below (below_regrown _ _ _)).rooms) | exact Calls.regrown_of (XY (uh Q1) ((uh Hv).below (below_regrown _ _ _)).guilds) | exact Calls.regrown_of (SJ (uh Q3) ((uh Hv).below (below_regrown _ _ _)).rooms (uh QA))))
  refine wqn fun W1 hb=> ?_
  clear c0 c1 c2 c3 c4 c5
  go_wp2_with fail
  go_ret
  exact ⟨Z5 (WN (by unfold YY;rw [uh Q0,uh Q1];simp [h4])).symm,(uh BB).trans (hb.mono (uh BB).size)⟩
 have h4b:((m.paces.length:Int) !=(m.rooms.length:Int))=false:=by simp;omega
 cases h5:inB m.now 0 1000000
 ·have Q5:=Z9 h5
  clear h5
  refine wq ?_
  repeat (go_big_quiet_step (first | exact Calls.regrown_of (XR (uh Q0) ((uh Hv).below (below_regrown _ _ _)).rooms) | exact Calls.regrown_of (XY (uh Q1) ((uh Hv).below (below_regrown _ _ _)).guilds) | exact Calls.regrown_of (SJ (uh Q3) ((uh Hv).below (below_regrown _ _ _)).rooms (uh QA)) | exact Calls.regrown_of (DI (uh Q5) _)))
  refine wqn fun W1 hb=> ?_
  clear c0 c1 c2 c3 c4 c5
  go_wp2_with fail
  go_ret
  exact ⟨Z5 (WN (by unfold YY;rw [uh Q0,uh Q1,uh Q3,uh Q5];simp)).symm,(uh BB).trans (hb.mono (uh BB).size)⟩
 have Q5:=Z9 h5
 clear h5
 have QH:Hid (YY m=true):=Z9 (by unfold YY;rw [uh Q0,uh Q1,uh Q3,uh Q5];simp [h3,h4];omega)
 refine wq ?_
 repeat (go_big_quiet_step (first | exact Calls.regrown_of (XR (uh Q0) ((uh Hv).below (below_regrown _ _ _)).rooms) | exact Calls.regrown_of (XY (uh Q1) ((uh Hv).below (below_regrown _ _ _)).guilds) | exact Calls.regrown_of (SJ (uh Q3) ((uh Hv).below (below_regrown _ _ _)).rooms (uh QA)) | exact Calls.regrown_of (DI (uh Q5) _)))
 refine wqn fun W1 hb=> ?_
 clear c0 c1 c2 c3 c4 c5
 replace kb:=bl kb hb
 replace Hv:=Z9 ((uh Hv).below hb)
 replace BB:=bt BB hb
 clear hb
 have H3:=Z9 h3
 have H4:=Z9 h4
 clear Hv Q0 Q1 Q3 Q5 QA h2d h3b h4b h3 h4
 have c3:=(uh kb).cell (i:=3) (v:= .slice a3 m.desks.length p3) rfl
 go_wp2_with fail
 clear c3
 go_loopw [3,4] (fun o i wr=> ∃ k:Nat,k<=m.desks.length/\o= .bool (US m k)/\i= .int .i64 k/\We m k=true/\Blk wr w.heap.size 32 (S6 a0 p0 a1 p1 a2 p2 a3 p3 a4 p4 m)/\Below w.heap.size w wr) (fun _ i _=>m.desks.length-(intOf i).toNat)
 case atStart=>exact ⟨0,Nat.zero_le _,rfl,rfl,rfl,uh kb,uh BB⟩
 case round=>
  obtain ⟨k,hk,rfl,rfl,hup,kb1,hb1⟩:=hrel
  clear kb BB
  have kb:=Z9 kb1
  have BB:=Z9 hb1
  have Hup:=Z9 hup
  clear kb1 hb1 hup
  obtain ⟨ob,hob⟩:∃ b,US m k=b:=⟨_,rfl⟩
  rw [hob]
  have Hob:=Z9 hob
  clear hob
  have c3:=(uh kb).cell (i:=3) (v:= .slice a3 m.desks.length p3) rfl
  by_cases hlt:k<m.desks.length
  ·rcases uh R3 with e0 | ⟨b,off,rfl,hbw,hcl⟩
   ·rw [e0] at hlt;simp at hlt
   obtain ⟨d0,d1,d2⟩:=Zi hcl hlt
   rw [<-(uh BB).cell (p:=⟨b,off+k*3,none⟩) hbw] at d0
   rw [<-(uh BB).cell (p:=⟨b,off+k*3+2,none⟩) hbw] at d2
   clear d1 hcl
   have HU:=Z9 (show We m (k+1)=(We m k && Wu (Z8 m.desks k)) from UG k)
   have HO:=Z9 (show US m (k+1)=(US m k || (Z8 m.desks k).1) from Dd k)
   have HL:=Z9 (J5 (m:=m) hlt)
   generalize Z8 m.desks k=dd at *
   obtain ⟨op,who,mk⟩:=dd
   simp only at d0 d2
   cases hmk:inB mk (-900000000000) 900000000000
   ·cases ob
    all_goals
     go_wp2_with (go_at_call 40;refine (Z1 _ _ _ _).mono ?_;rintro e w' ⟨rfl,h9⟩;subst w')
     go_ret
     exact ⟨Z5 (uh HL hmk).symm,uh BB⟩
   ·cases ob
    all_goals
     go_wp2_with (go_at_call 40;refine (Z1 _ _ _ _).mono ?_;rintro e w' ⟨rfl,h9⟩;subst w')
     go_roundw
     case rel=>exact ⟨k+1,by omega,by rw [uh HO,uh Hob];simp,by go_num,by rw [uh HU,uh Hup];exact hmk,uh kb,uh BB⟩
     case measure=>exact ms
  ·obtain rfl:k=m.desks.length:=by omega
   have QD:=Hup
   clear Hup
   have c4:=(uh kb).cell (i:=4) (v:= .slice a4 m.paces.length p4) rfl
   go_wp2_with fail
   clear c3 c4
   go_loopw [5] (fun i wr=> ∃ k:Nat,k<=m.paces.length/\i= .int .i64 k/\WJ m k=true/\Blk wr w.heap.size 32 (S6 a0 p0 a1 p1 a2 p2 a3 p3 a4 p4 m)/\Below w.heap.size w wr) (fun i _=>m.paces.length-(intOf i).toNat)
   case atStart=>exact ⟨0,Nat.zero_le _,rfl,rfl,uh kb,uh BB⟩
   case round=>
    obtain ⟨k,hk,rfl,hup,kb1,hb1⟩:=hrel
    clear kb BB
    have kb:=Z9 kb1
    have BB:=Z9 hb1
    have Hup:=Z9 hup
    clear kb1 hb1 hup
    have c0:=(uh kb).cell (i:=0) (v:= .slice a0 m.rooms.length p0) rfl
    have c4:=(uh kb).cell (i:=4) (v:= .slice a4 m.paces.length p4) rfl
    by_cases hlt:k<m.paces.length
    ·have hlr:k<m.rooms.length:=by have:=uh H4;omega
     rcases uh R4 with e0 | ⟨b,off,rfl,hbw,hcl⟩
     ·rw [e0] at hlt;simp at hlt
     rcases uh R0 with e0 | ⟨b',off',rfl,hbw',hcl'⟩
     ·rw [e0] at hlr;simp at hlr
     have d0:=OH hcl hlt
     obtain ⟨_,pv,d1,hip⟩:=hcl' k hlr
     rw [<-(uh BB).cell (p:=⟨b,off+k,none⟩) hbw] at d0
     rw [<-(uh BB).cell (p:=⟨b',off'+k*2+1,none⟩) hbw'] at d1
     obtain ⟨pa,pcap,rfl,hpc,hpm,_⟩:=hip
     clear hcl hcl'
     have HU:=Z9 (show WJ m (k+1)=(WJ m k && WY m k) from UG k)
     have HL:=Z9 (J6 (m:=m) hlt)
     have HP:=Z9 (show WY m k=inB (Z8 m.paces k) 0 (((ZV m.rooms k).2.length:Int)-1) from rfl)
     generalize Z8 m.paces k=z at *
     generalize (ZV m.rooms k).2.length=nl at *
     have hwr:IntKind.i64.wrap ((nl:Int)-1)=(nl:Int)-1:=by rw [IntKind.wrap_i64];omega
     cases hz:inB z 0 ((nl:Int)-1)
     ·go_wp2_with fail
      go_quiet (exact Calls.quiet_of_same (Z1 _ _ _ _))
      go_wp2_with fail
      go_ret
      exact ⟨Z5 (uh HL (by rw [uh HP];exact hz)).symm,YX (uh BB) _⟩
     ·go_wp2_with fail
      go_quiet (exact Calls.quiet_of_same (Z1 _ _ _ _))
      go_wp2_with fail
      go_roundw
      case rel=>exact ⟨k+1,by omega,by go_num,by rw [uh HU,uh Hup,uh HP,hz];rfl,(uh kb).drewN _,YX (uh BB) _⟩
      case measure=>exact ms
    ·obtain rfl:k=m.paces.length:=by omega
     have QP:=Hup
     clear Hup
     have c2:=(uh kb).cell (i:=2) (v:= .slice a2 m.smiths.length p2) rfl
     go_wp2_with fail
     clear c0 c2 c4
     go_loopw [6] (fun i wr=> ∃ k:Nat,k<=m.smiths.length/\i= .int .i64 k/\WK m k=true/\Blk wr w.heap.size 32 (S6 a0 p0 a1 p1 a2 p2 a3 p3 a4 p4 m)/\Below w.heap.size w wr) (fun i _=>m.smiths.length-(intOf i).toNat)
     case atStart=>exact ⟨0,Nat.zero_le _,rfl,rfl,uh kb,uh BB⟩
     case round=>
      obtain ⟨k,hk,rfl,hup,kb1,hb1⟩:=hrel
      clear kb BB
      have kb:=Z9 kb1
      have BB:=Z9 hb1
      have Hup:=Z9 hup
      clear kb1 hb1 hup
      have c1:=(uh kb).cell (i:=1) (v:= .slice a1 m.guilds.length p1) rfl
      have c2:=(uh kb).cell (i:=2) (v:= .slice a2 m.smiths.length p2) rfl
      have c3:=(uh kb).cell (i:=3) (v:= .slice a3 m.desks.length p3) rfl
      by_cases hlt:k<m.smiths.length
      ·rcases uh R2 with e0 | ⟨b,off,rfl,hbw,hcl⟩
       ·rw [e0] at hlt;simp at hlt
       obtain ⟨d0,d1,d2,d3,d4,d5,d6,d7,d8,d9,d10⟩:=ZB hcl hlt
       rw [<-(uh BB).cell (p:=⟨b,off+k*11,none⟩) hbw] at d0
       rw [<-(uh BB).cell (p:=⟨b,off+k*11+1,none⟩) hbw] at d1
       rw [<-(uh BB).cell (p:=⟨b,off+k*11+2,none⟩) hbw] at d2
       rw [<-(uh BB).cell (p:=⟨b,off+k*11+3,none⟩) hbw] at d3
       rw [<-(uh BB).cell (p:=⟨b,off+k*11+4,none⟩) hbw] at d4
       rw [<-(uh BB).cell (p:=⟨b,off+k*11+5,none⟩) hbw] at d5
       rw [<-(uh BB).cell (p:=⟨b,off+k*11+6,none⟩) hbw] at d6
       rw [<-(uh BB).cell (p:=⟨b,off+k*11+7,none⟩) hbw] at d7
       rw [<-(uh BB).cell (p:=⟨b,off+k*11+8,none⟩) hbw] at d8
       rw [<-(uh BB).cell (p:=⟨b,off+k*11+9,none⟩) hbw] at d9
       rw [<-(uh BB).cell (p:=⟨b,off+k*11+10,none⟩) hbw] at d10
       clear hcl
       have HU:=Z9 (show WK m (k+1)=(WK m k && (Yt m (Z8 m.smiths k) && Ym m (Z8 m.smiths k))) from UG k)
       have HL:=Z9 (LZ (m:=m) hlt)
       generalize Z8 m.smiths k=ss at *
       obtain ⟨st,be,rk,my,gu,lo,hi,hd,ca,ut,wk⟩:=ss
       simp only at d0 d1 d2 d3 d4 d5 d6 d7 d8 d9 d10
       have hl0:w.heap.size<wr.heap.size:=(uh kb).lt
       go_wp2_with fail
       clear c1 c2 c3 d0 d1 d2 d3 d4 d5 d6 d7 d8 d9 d10
       obtain ⟨qs,hqs⟩:∃ q,ZJ (st,be,rk,my,gu,lo,hi,hd,ca,ut,wk)=q:=⟨_,rfl⟩
       have Hqs:=Z9 hqs
       clear hqs
       refine ck (ND (uh Hqs) _) fun w1 hb=> ?_
       have ks:Hid (Blk w1 wr.heap.size 39 (I11 st be rk my gu lo hi hd ca ut wk)):=Z9 ((Blk.new wr _ _).below hb (by simp))
       replace kb:=Z9 (((uh kb).alloc (.cells (I11 st be rk my gu lo hi hd ca ut wk) 39)).below hb (by simp;omega))
       replace BB:=Z9 ((((uh BB).alloc (uh BB).size (.cells (I11 st be rk my gu lo hi hd ca ut wk) 39))).trans (hb.mono (by simp;have:=(uh BB).size;omega)))
       clear hb hl0
       generalize wr.heap.size=sb at *
       have c1:=(uh kb).cell (i:=1) (v:= .slice a1 m.guilds.length p1) rfl
       have c3:=(uh kb).cell (i:=3) (v:= .slice a3 m.desks.length p3) rfl
       have d0:=(uh ks).cell (i:=0) (v:= .int .i64 st) rfl
       have d1:=(uh ks).cell (i:=1) (v:= .int .i64 be) rfl
       have d4:=(uh ks).cell (i:=4) (v:= .int .i64 gu) rfl
       cases qs
       ·go_wp2_with fail
        go_ret
        exact ⟨Z5 (uh HL (by unfold Yt;rw [uh Hqs];rfl)).symm,uh BB⟩
       ·by_cases hst:st=0
        ·subst hst
         have hne:((0:Int) !=0)=false:=rfl
         go_wp2_with fail
         have Hps:Hid (ZP (0,be,rk,my,gu,lo,hi,hd,ca,ut,wk)=false):=Z9 rfl
         have e0:=cell_regrown ((uh ks).cell (i:=0) (v:= .int .i64 0) rfl)
         have e1:=cell_regrown ((uh ks).cell (i:=1) (v:= .int .i64 be) rfl)
         have e2:=cell_regrown ((uh ks).cell (i:=2) (v:= .int .i64 rk) rfl)
         have e3:=cell_regrown ((uh ks).cell (i:=3) (v:= .int .i64 my) rfl)
         have e4:=cell_regrown ((uh ks).cell (i:=4) (v:= .int .i64 gu) rfl)
         have e5:=cell_regrown ((uh ks).cell (i:=5) (v:= .int .i64 lo) rfl)
         have e6:=cell_regrown ((uh ks).cell (i:=6) (v:= .int .i64 hi) rfl)
         have e7:=cell_regrown ((uh ks).cell (i:=7) (v:= .int .i64 hd) rfl)
         have e8:=cell_regrown ((uh ks).cell (i:=8) (v:= .int .i64 ca) rfl)
         have e9:=cell_regrown ((uh ks).cell (i:=9) (v:= .int .i64 ut) rfl)
         have e10:=cell_regrown ((uh ks).cell (i:=10) (v:= .int .i64 wk) rfl)
         refine wq ?_
         repeat (go_big_quiet_step (first | exact Calls.regrown_of (YS (uh Hps) _)))
         refine wqn fun W1 hb=> ?_
         replace kb:=bl kb hb
         replace BB:=bt BB hb
         clear hb
         go_wp2_with fail
         go_roundw
         case rel=>exact ⟨k+1,by omega,by go_num,by rw [uh HU,uh Hup];unfold Yt Ym;rw [uh Hqs,uh Hps];rfl,uh kb,uh BB⟩
         case measure=>exact ms
        have hne:(st !=0)=true:=by simpa using hst
        by_cases hgu:(m.guilds.length:Int)<=gu
        ·go_wp2_with fail
         go_ret
         exact ⟨Z5 (uh HL (by unfold Yt;rw [uh Hqs];simp [hst];intro h9;omega)).symm,uh BB⟩
        by_cases hbe:(m.desks.length:Int)<=be
        ·go_wp2_with fail
         go_ret
         exact ⟨Z5 (uh HL (by unfold Yt;rw [uh Hqs];simp [hst];intro h9;omega)).symm,uh BB⟩
        go_wp2_with fail
        have Hh:Hid (Yt m (st,be,rk,my,gu,lo,hi,hd,ca,ut,wk)=true):=Z9 (by unfold Yt;rw [uh Hqs];simp;omega)
        obtain ⟨ps,hps⟩:∃ q,ZP (st,be,rk,my,gu,lo,hi,hd,ca,ut,wk)=q:=⟨_,rfl⟩
        have Hps:=Z9 hps
        clear hps
        have e0:=cell_regrown ((uh ks).cell (i:=0) (v:= .int .i64 st) rfl)
        have e1:=cell_regrown ((uh ks).cell (i:=1) (v:= .int .i64 be) rfl)
        have e2:=cell_regrown ((uh ks).cell (i:=2) (v:= .int .i64 rk) rfl)
        have e3:=cell_regrown ((uh ks).cell (i:=3) (v:= .int .i64 my) rfl)
        have e4:=cell_regrown ((uh ks).cell (i:=4) (v:= .int .i64 gu) rfl)
        have e5:=cell_regrown ((uh ks).cell (i:=5) (v:= .int .i64 lo) rfl)
        have e6:=cell_regrown ((uh ks).cell (i:=6) (v:= .int .i64 hi) rfl)
        have e7:=cell_regrown ((uh ks).cell (i:=7) (v:= .int .i64 hd) rfl)
        have e8:=cell_regrown ((uh ks).cell (i:=8) (v:= .int .i64 ca) rfl)
        have e9:=cell_regrown ((uh ks).cell (i:=9) (v:= .int .i64 ut) rfl)
        have e10:=cell_regrown ((uh ks).cell (i:=10) (v:= .int .i64 wk) rfl)
        have e11:=cell_regrown ((uh kb).cell (i:=3) (v:= .slice a3 m.desks.length p3) rfl)
        cases ps
        ·refine wq ?_
         repeat (go_big_quiet_step (first | exact Calls.regrown_of (YS (uh Hps) _)))
         refine wqn fun W1 hb=> ?_
         replace kb:=bl kb hb
         replace BB:=bt BB hb
         clear hb
         go_wp2_with fail
         go_roundw
         case rel=>exact ⟨k+1,by omega,by go_num,by rw [uh HU,uh Hup];rw [uh Hh];unfold Ym;rw [uh Hps];rfl,uh kb,uh BB⟩
         case measure=>exact ms
        obtain ⟨b0,b1,b2,m0,m1,_⟩:=JQ (uh Hh) (uh Hps)
        simp only at b0 b1 b2 m0 m1
        obtain ⟨j,rfl⟩:∃ j:Nat,be=j:=⟨be.toNat,by omega⟩
        have hj:j<m.desks.length:=by omega
        rcases uh R3 with e9 | ⟨b',off',rfl,hbw',hcl'⟩
        ·rw [e9] at hj;simp at hj
        obtain ⟨t0,_,t2⟩:=Zi hcl' hj
        rw [<-(uh BB).cell (p:=⟨b',off'+j*3,none⟩) hbw'] at t0
        rw [<-(uh BB).cell (p:=⟨b',off'+j*3+2,none⟩) hbw'] at t2
        clear hcl'
        have HS:=Z9 (show Ym m (st,(j:Int),rk,my,gu,lo,hi,hd,ca,ut,wk)=(!ZP (st,(j:Int),rk,my,gu,lo,hi,hd,ca,ut,wk) || ((Z8 m.desks j).1 && (Wf my j && Xz hd (Z8 m.desks j).2.2))) from rfl)
        generalize Z8 m.desks j=dd at *
        obtain ⟨op,who,mk⟩:=dd
        simp only at t0 t2
        have t0:=cell_regrown t0
        have t2:=cell_regrown t2
        obtain ⟨qb,hqb⟩:∃ q,Wf my j=q:=⟨_,rfl⟩
        have Hbit:=Z9 hqb
        obtain ⟨qd,hqd⟩:∃ q,Xz hd mk=q:=⟨_,rfl⟩
        have Hbd:=Z9 hqd
        clear hqb hqd
        have HS2:=uh HS
        simp only [uh Hps,uh Hbit,uh Hbd] at HS2
        have HS3:=Z9 HS2
        clear HS HS2
        cases op
        ·refine wq ?_
         repeat (go_big_quiet_step (first | exact Calls.regrown_of (YS (uh Hps) _) | exact Calls.regrown_of (Ry (uh Hbit) (by omega) (by omega) (by omega) (by omega) _) | exact Calls.regrown_of (VQ (uh Hbd) _)))
         refine wqn fun W1 hb=> ?_
         replace kb:=bl kb hb
         replace BB:=bt BB hb
         clear hb
         go_wp2_with fail
         go_ret
         exact ⟨Z5 (uh HL (by rw [uh HS3];simp)).symm,uh BB⟩
        cases qb
        ·refine wq ?_
         repeat (go_big_quiet_step (first | exact Calls.regrown_of (YS (uh Hps) _) | exact Calls.regrown_of (Ry (uh Hbit) (by omega) (by omega) (by omega) (by omega) _) | exact Calls.regrown_of (VQ (uh Hbd) _)))
         refine wqn fun W1 hb=> ?_
         replace kb:=bl kb hb
         replace BB:=bt BB hb
         clear hb
         go_wp2_with fail
         go_ret
         exact ⟨Z5 (uh HL (by rw [uh HS3];simp)).symm,uh BB⟩
        cases qd
        ·refine wq ?_
         repeat (go_big_quiet_step (first | exact Calls.regrown_of (YS (uh Hps) _) | exact Calls.regrown_of (Ry (uh Hbit) (by omega) (by omega) (by omega) (by omega) _) | exact Calls.regrown_of (VQ (uh Hbd) _)))
         refine wqn fun W1 hb=> ?_
         replace kb:=bl kb hb
         replace BB:=bt BB hb
         clear hb
         go_wp2_with fail
         go_ret
         exact ⟨Z5 (uh HL (by rw [uh HS3];simp)).symm,uh BB⟩
        refine wq ?_
        repeat (go_big_quiet_step (first | exact Calls.regrown_of (YS (uh Hps) _) | exact Calls.regrown_of (Ry (uh Hbit) (by omega) (by omega) (by omega) (by omega) _) | exact Calls.regrown_of (VQ (uh Hbd) _)))
        refine wqn fun W1 hb=> ?_
        replace kb:=bl kb hb
        replace BB:=bt BB hb
        clear hb
        go_wp2_with fail
        go_roundw
        case rel=>exact ⟨k+1,by omega,by go_num,by rw [uh HU,uh Hup];rw [uh Hh,uh HS3];rfl,uh kb,uh BB⟩
        case measure=>exact ms
      ·obtain rfl:k=m.smiths.length:=by omega
       go_wp2_with fail
       go_ret
       exact ⟨Z5 (by rw [Ij (uh QH) (uh QD) (uh QP) (uh Hup)];exact (uh Hob).symm),uh BB⟩
theorem MR {ss : List Z3} {b : Int} {k : Nat} (h : Yv ss b k = none) : ∀ n, k ≤ n → Yv ss b n = none
  | 0, hn => by obtain rfl : k = 0 := by omega
                exact h
  | n + 1, hn => by
    by_cases e : k = n + 1
    · rw [← e]; exact h
    · have := MR h n (by omega)
      unfold Yv; rw [this]
theorem Fw {ss:List Z3} {b wk:Int} {wt:Bool} {k:Nat} (h:Yv ss b k=some (wk,wt)) (hs:¬ ((Z8 ss k).2.1=b/\ZP (Z8 ss k)=true)):Yv ss b (k+1)=some (wk,wt):=by
  unfold Yv;rw [h];simp only [if_neg hs]
theorem Fx {ss:List Z3} {b wk:Int} {wt:Bool} {k:Nat} (h:Yv ss b k=some (wk,wt)) (h1:(Z8 ss k).2.1=b) (h2:ZP (Z8 ss k)=true) (h3:(Z8 ss k).1=2):Yv ss b (k+1)=some (wk,true):=by
  unfold Yv;rw [h];simp only [if_pos (And.intro h1 h2),if_pos h3]
theorem Ed {ss:List Z3} {b wk:Int} {wt:Bool} {k:Nat} (h:Yv ss b k=some (wk,wt)) (h1:(Z8 ss k).2.1=b) (h2:ZP (Z8 ss k)=true) (h3:¬ (Z8 ss k).1=2) (h4:0<=wk):Yv ss b (k+1)=none:=by
  unfold Yv;rw [h];simp only [if_pos (And.intro h1 h2),if_neg h3,if_pos h4]
theorem Fy {ss:List Z3} {b wk:Int} {wt:Bool} {k:Nat} (h:Yv ss b k=some (wk,wt)) (h1:(Z8 ss k).2.1=b) (h2:ZP (Z8 ss k)=true) (h3:¬ (Z8 ss k).1=2) (h4:¬ 0<=wk):Yv ss b (k+1)=some ((k:Int),wt):=by
  unfold Yv;rw [h];simp only [if_pos (And.intro h1 h2),if_neg h3,if_neg h4]
theorem IG {m:Z6} (h:Ze m=false):ZO m=false:=by unfold ZO;rw [h];rfl
theorem O3 {m:Z6} {k:Nat} (hk:k<m.desks.length) (h:YL m k=false):ZO m=false:=by unfold ZO;rw [RW hk h];simp
theorem Eh {m:Z6} (h:Ze m=true) (h2:(List.range m.desks.length).all (YL m)=true):ZO m=true:=by unfold ZO;rw [h,h2];rfl
theorem M7 {m:Z6} {k:Nat} (h:Yv m.smiths k m.smiths.length=none):YL m k=false:=by unfold YL;rw [h]
theorem M8 {m:Z6} {k:Nat} {wk:Int} {wt:Bool} (h:Yv m.smiths k m.smiths.length=some (wk,wt)):YL m k=((Z8 m.desks k).2.1 ==wk && !(wt && decide (wk<0))):=by unfold YL;rw [h]
theorem G9 {w : World} {v0 v1 v2 v3 v4 : Value} {m : Z6} {q : Bool} (hq : Ze m = q) (h : Smy w v0 v1 v2 v3 v4 m) :
    Calls Tryz.prog 43 #[.agg #[v0, v1, v2, v3, v4, .int .i64 m.now]] w fun e w' => e = .returned (.bool q) ∧ Below w.heap.size w w' := by
  have := TQ h; rw [hq] at this; exact this
theorem Q8 {w : World} {v0 v1 v2 v3 v4 : Value} {m : Z6} (h : Smy w v0 v1 v2 v3 v4 m) :
    Calls Tryz.prog 12 #[.agg #[v0, v1, v2, v3, v4, .int .i64 m.now]] w fun e w' => e = .returned (.bool (ZO m)) ∧ Below w.heap.size w w' := by
  have Hv := Z9 (h.alloc (.cells #[v0, v1, v2, v3, v4, .int .i64 m.now] 32))
  obtain ⟨h0, h1, h2, h3, h4⟩ := h
  obtain ⟨a0, p0, rfl, hc0, hm0, _⟩ := h0
  obtain ⟨a1, p1, rfl, hc1, hm1, _⟩ := h1
  obtain ⟨a2, p2, rfl, hc2, hm2, r2⟩ := h2
  obtain ⟨a3, p3, rfl, hc3, hm3, r3⟩ := h3
  obtain ⟨a4, p4, rfl, hc4, hm4, _⟩ := h4
  have R2 := Z9 r2
  have R3 := Z9 r3
  clear r2 r3
  obtain ⟨ql, hql⟩ : ∃ q, Ze m = q := ⟨_, rfl⟩
  have QL := Z9 hql
  clear hql
  go_enter Tryz.func12, Tryz.ntmps12
  go_wp2_with fail
  refine ck (G9 (uh QL) (uh Hv)) fun w1 hb => ?_
  have kb : Hid (Blk w1 w.heap.size 32 (S6 a0 p0 a1 p1 a2 p2 a3 p3 a4 p4 m)) := Z9 ((Blk.new w _ _).below hb (by simp))
  have BB : Hid (Below w.heap.size w w1) := Z9 (((ba _ _)).trans (hb.mono (by simp)))
  clear hb Hv
  have c3 := (uh kb).cell (i := 3) (v := .slice a3 m.desks.length p3) rfl
  cases ql
  · go_wp2_with fail
    go_ret
    exact ⟨Z5 (IG (uh QL)).symm, uh BB⟩
  go_wp2_with fail
  clear c3
  go_loopw [3] (fun b wr => ∃ k : Nat, k ≤ m.desks.length ∧ b = .int .i64 k ∧ (List.range k).all (YL m) = true ∧ Blk wr w.heap.size 32 (S6 a0 p0 a1 p1 a2 p2 a3 p3 a4 p4 m) ∧ Below w.heap.size w wr) (fun b _ => m.desks.length - (intOf b).toNat)
  case atStart => exact ⟨0, Nat.zero_le _, rfl, rfl, uh kb, uh BB⟩
  case round =>
    obtain ⟨j, hj, rfl, hup, kb1, hb1⟩ := hrel
    clear kb BB
    have kb := Z9 kb1
    have BB := Z9 hb1
    have Hup := Z9 hup
    clear kb1 hb1 hup
    have c3 := (uh kb).cell (i := 3) (v := .slice a3 m.desks.length p3) rfl
    by_cases hlt : j < m.desks.length
    · have c2 := (uh kb).cell (i := 2) (v := .slice a2 m.smiths.length p2) rfl
      go_wp2_with fail
      clear c2 c3
      obtain ⟨wo, rfl⟩ : ∃ wo, wo = wr := ⟨wr, rfl⟩
      go_loopw [4, 5, 6] (fun x y i wr => ∃ (k : Nat) (wk : Int) (wt : Bool), k ≤ m.smiths.length ∧ x = .int .i64 wk ∧ y = .bool wt ∧ i = .int .i64 k ∧ -1 ≤ wk ∧ wk ≤ (k : Int) ∧ Yv m.smiths j k = some (wk, wt) ∧ Blk wr w.heap.size 32 (S6 a0 p0 a1 p1 a2 p2 a3 p3 a4 p4 m) ∧ Below w.heap.size w wr) (fun _ _ i _ => m.smiths.length - (intOf i).toNat)
      case atStart => exact ⟨0, -1, false, Nat.zero_le _, rfl, rfl, rfl, by omega, by omega, rfl, uh kb, uh BB⟩
      case round =>
        obtain ⟨k, wkk, wt, hk, rfl, rfl, rfl, wk0, wk1, hsc, kb1, hb1⟩ := hrel
        clear kb BB
        have kb := Z9 kb1
        have BB := Z9 hb1
        have Hsc := Z9 hsc
        clear kb1 hb1 hsc
        have c2 := (uh kb).cell (i := 2) (v := .slice a2 m.smiths.length p2) rfl
        by_cases hls : k < m.smiths.length
        · rcases uh R2 with e0 | ⟨b, off, rfl, hbw, hcl⟩
          · rw [e0] at hls; simp at hls
          obtain ⟨d0, d1, d2, d3, d4, d5, d6, d7, d8, d9, d10⟩ := ZB hcl hls
          rw [← (uh BB).cell (p := ⟨b, off + k * 11, none⟩) hbw] at d0
          rw [← (uh BB).cell (p := ⟨b, off + k * 11 + 1, none⟩) hbw] at d1
          rw [← (uh BB).cell (p := ⟨b, off + k * 11 + 2, none⟩) hbw] at d2
          rw [← (uh BB).cell (p := ⟨b, off + k * 11 + 3, none⟩) hbw] at d3
          rw [← (uh BB).cell (p := ⟨b, off + k * 11 + 4, none⟩) hbw] at d4
          rw [← (uh BB).cell (p := ⟨b, off + k * 11 + 5, none⟩) hbw] at d5
          rw [← (uh BB).cell (p := ⟨b, off + k * 11 + 6, none⟩) hbw] at d6
          rw [← (uh BB).cell (p := ⟨b, off + k * 11 + 7, none⟩) hbw] at d7
          rw [← (uh BB).cell (p := ⟨b, off + k * 11 + 8, none⟩) hbw] at d8
          rw [← (uh BB).cell (p := ⟨b, off + k * 11 + 9, none⟩) hbw] at d9
          rw [← (uh BB).cell (p := ⟨b, off + k * 11 + 10, none⟩) hbw] at d10
          clear hcl
          have S1 := Z9 (fun hs => Fw (uh Hsc) hs)
          have S2 := Z9 (fun h1 h2 h3 => Fx (uh Hsc) h1 h2 h3)
          have S3 := Z9 (fun h1 h2 h3 h4 => Ed (uh Hsc) h1 h2 h3 h4)
          have S4 := Z9 (fun h1 h2 h3 h4 => Fy (uh Hsc) h1 h2 h3 h4)
          generalize Z8 m.smiths k = ss at *
          obtain ⟨st, be, rk, my, gu, lo, hi, hd, ca, ut, wk⟩ := ss
          simp only at d0 d1 d2 d3 d4 d5 d6 d7 d8 d9 d10
          have hl0 : w.heap.size < wr.heap.size := (uh kb).lt
          by_cases hbe : be = (j : Int)
          rotate_left
          · have hbn : (be != (j : Int)) = true := by simpa using hbe
            go_wp2_with fail
            go_roundw
            case rel => exact ⟨k + 1, wkk, wt, by omega, rfl, rfl, by go_num, by omega, by omega, uh S1 (fun h9 => hbe h9.1), (uh kb).alloc _, (uh BB).alloc (uh BB).size _⟩
            case measure => exact ms
          subst hbe
          have hbn : ((j : Int) != (j : Int)) = false := by simp
          obtain ⟨ps, hps⟩ : ∃ q, ZP (st, (j : Int), rk, my, gu, lo, hi, hd, ca, ut, wk) = q := ⟨_, rfl⟩
          have Hps := Z9 hps
          clear hps
          go_wp2_with fail
          clear c2 d0 d1 d2 d3 d4 d5 d6 d7 d8 d9 d10
          refine ck (YS (uh Hps) _) fun w2 hb => ?_
          have ks : Hid (Blk w2 wr.heap.size 39 (I11 st (j : Int) rk my gu lo hi hd ca ut wk)) := Z9 ((Blk.new wr _ _).below hb (by simp))
          replace kb := Z9 (((uh kb).alloc (.cells (I11 st (j : Int) rk my gu lo hi hd ca ut wk) 39)).below hb (by simp; omega))
          replace BB := Z9 ((((uh BB).alloc (uh BB).size (.cells (I11 st (j : Int) rk my gu lo hi hd ca ut wk) 39))).trans (hb.mono (by simp; have := (uh BB).size; omega)))
          clear hb hl0
          have d0 := (uh ks).cell (i := 0) (v := .int .i64 st) rfl
          cases ps
          · go_wp2_with fail
            go_roundw
            case rel => exact ⟨k + 1, wkk, wt, by omega, rfl, rfl, by go_num, by omega, by omega, uh S1 (fun h9 => by have h8 := h9.2; rw [uh Hps] at h8; cases h8), uh kb, uh BB⟩
            case measure => exact ms
          by_cases hst : st = 2
          · subst hst
            go_wp2_with fail
            go_roundw
            case rel => exact ⟨k + 1, wkk, true, by omega, rfl, rfl, by go_num, by omega, by omega, uh S2 (by first | rfl | trivial) (uh Hps) (by first | rfl | trivial), uh kb, uh BB⟩
            case measure => exact ms
          have hsn : (st == 2) = false := by simpa using hst
          by_cases hw0 : 0 ≤ wkk
          · go_wp2_with fail
            go_ret
            exact ⟨Z5 (O3 hlt (M7 (MR (uh S3 (by first | rfl | trivial) (uh Hps) hst hw0) _ (by omega)))).symm, uh BB⟩
          go_wp2_with fail
          go_roundw
          case rel => exact ⟨k + 1, (k : Int), wt, by omega, rfl, rfl, by go_num, by omega, by omega, uh S4 (by first | rfl | trivial) (uh Hps) hst hw0, uh kb, uh BB⟩
          case measure => exact ms
        · obtain rfl : k = m.smiths.length := by omega
          have c3 := (uh kb).cell (i := 3) (v := .slice a3 m.desks.length p3) rfl
          rcases uh R3 with e0 | ⟨b', off', rfl, hbw', hcl'⟩
          · rw [e0] at hlt; simp at hlt
          obtain ⟨_, t1, _⟩ := Zi hcl' hlt
          rw [← (uh BB).cell (p := ⟨b', off' + j * 3 + 1, none⟩) hbw'] at t1
          clear hcl'
          have HB := Z9 (M8 (uh Hsc))
          have HL := Z9 (O3 (m := m) hlt)
          have HU := Z9 (show (List.range (j + 1)).all (YL m) = ((List.range j).all (YL m) && YL m j) from UG j)
          generalize Z8 m.desks j = dd at *
          obtain ⟨op, who, mk⟩ := dd
          simp only at t1
          by_cases hwho : who = wkk
          rotate_left
          · have hwn : (who != wkk) = true := by simpa using hwho
            go_wp2_with fail
            go_ret
            exact ⟨Z5 (uh HL (by rw [uh HB]; simp [hwho])).symm, uh BB⟩
          have hwn : (who != wkk) = false := by simpa using hwho
          have Hwho := Z9 hwho
          clear hwho
          cases wt
          · go_wp2_with fail
            go_roundw
            case rel => exact ⟨j + 1, by omega, by go_num, by rw [uh HU, uh Hup, uh HB, uh Hwho]; simp, uh kb, uh BB⟩
            case measure => exact ms
          by_cases hw0 : wkk < 0
          · go_wp2_with fail
            go_ret
            exact ⟨Z5 (uh HL (by rw [uh HB]; simp [hw0])).symm, uh BB⟩
          go_wp2_with fail
          go_roundw
          case rel => exact ⟨j + 1, by omega, by go_num, by rw [uh HU, uh Hup, uh HB, uh Hwho]; simp; omega, uh kb, uh BB⟩
          case measure => exact ms
    · obtain rfl : j = m.desks.length := by omega
      go_wp2_with fail
      go_ret
      exact ⟨Z5 (Eh (uh QL) (uh Hup)).symm, uh BB⟩
end Go.Proofs.YtffcgajndmhpkaaGreatDoor
