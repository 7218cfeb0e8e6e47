/- Part 9 of what the proof rests on. No condition but those that a theorem names. -/
import Derived.Test.YtffcgajndmhpkaaGreatDoorXw08
set_option maxHeartbeats 8000000
set_option maxRecDepth 100000
namespace Go.Proofs.YtffcgajndmhpkaaGreatDoor
open Go.ChangeShapes Go.WideShapes Go.ChangeAt Go.RowKit Go.Sort
set_option linter.unusedVariables false
attribute [local go_sem ↓] MJ QR
theorem XP (n:Int) (w:World):Calls Tryz.prog 161 #[.int .i64 n] w fun e w'=>e= .returned (.bool (inB n (-1000000000000) 1000000000000))/\w'=w:=by
 go_enter Tryz.func161,Tryz.ntmps161
 go_wp2_with (go_at_call 40;refine (ZZ _ _ _ _).mono ?_;rintro e w' ⟨rfl,rfl⟩)
 go_ret
 exact ⟨rfl,rfl⟩
theorem ZA (st be rk my gu lo hi hd ca ut wk:Int) (w:World):Calls Tryz.prog 100 #[.agg (I11 st be rk my gu lo hi hd ca ut wk)] w fun e w'=>e= .returned (.bool (ZE (st,be,rk,my,gu,lo,hi,hd,ca,ut,wk)))/\Below w.heap.size w w':=by
 by_cases hst:st=0
 ·subst hst
  unfold ZE
  rw [OD rfl,Bool.or_false]
  obtain ⟨q,hq⟩:∃ q,VX (0,be,rk,my,gu,lo,hi,hd,ca,ut,wk)=q:=⟨_,rfl⟩
  rw [hq]
  have hz:Uw (0,be,rk,my,gu,lo,hi,hd,ca,ut,wk) (0,0,0,0,0,0,0,0,0,0,0)=q:=hq
  clear hq
  go_enter Tryz.func100,Tryz.ntmps100
  go_wp2_with fail
  go_ret
  exact ⟨rfl,(ba _ _)⟩
 ·have hne:(st ==0)=false:=by simpa using hst
  unfold ZE
  rw [SL hst,Bool.false_or]
  unfold Zf
  simp only
  obtain ⟨x0,x1⟩:=UE rk
  obtain ⟨x,hx⟩:∃ x,Zx rk=x:=⟨_,rfl⟩
  rw [hx] at x0 x1 ⊢
  have Hw:=Z9 hx
  have hwr:IntKind.i64.wrap (x-1)=x-1:=by rw [IntKind.wrap_i64];omega
  clear hx hst
  cases h0:inB st 1 3
  ·go_enter Tryz.func100,Tryz.ntmps100
   go_wp2_with (first | (go_at_call 40;refine (ZZ _ _ _ _).mono ?_;rintro e w' ⟨rfl,rfl⟩) | (go_at_call 159;refine (Zc _ _).mono ?_;rintro e w' ⟨rfl,rfl⟩) | (go_at_call 160;refine (Y3 _ _ _).mono ?_;rintro e w' ⟨rfl,rfl⟩))
   go_ret
   exact ⟨rfl,(ba _ _)⟩
  cases h1:inB be 0 7
  ·go_enter Tryz.func100,Tryz.ntmps100
   go_wp2_with (first | (go_at_call 40;refine (ZZ _ _ _ _).mono ?_;rintro e w' ⟨rfl,rfl⟩) | (go_at_call 159;refine (Zc _ _).mono ?_;rintro e w' ⟨rfl,rfl⟩) | (go_at_call 160;refine (Y3 _ _ _).mono ?_;rintro e w' ⟨rfl,rfl⟩))
   go_ret
   exact ⟨rfl,(ba _ _)⟩
  cases h2:inB rk (-5) 5
  ·go_enter Tryz.func100,Tryz.ntmps100
   go_wp2_with (first | (go_at_call 40;refine (ZZ _ _ _ _).mono ?_;rintro e w' ⟨rfl,rfl⟩) | (go_at_call 159;refine (Zc _ _).mono ?_;rintro e w' ⟨rfl,rfl⟩) | (go_at_call 160;refine (Y3 _ _ _).mono ?_;rintro e w' ⟨rfl,rfl⟩))
   go_ret
   exact ⟨rfl,(ba _ _)⟩
  cases h3:inB my 1 255
  ·go_enter Tryz.func100,Tryz.ntmps100
   go_wp2_with (first | (go_at_call 40;refine (ZZ _ _ _ _).mono ?_;rintro e w' ⟨rfl,rfl⟩) | (go_at_call 159;refine (Zc _ _).mono ?_;rintro e w' ⟨rfl,rfl⟩) | (go_at_call 160;refine (Y3 _ _ _).mono ?_;rintro e w' ⟨rfl,rfl⟩))
   go_ret
   exact ⟨rfl,(ba _ _)⟩
  cases h4:inB gu (-1) 5
  ·go_enter Tryz.func100,Tryz.ntmps100
   go_wp2_with (first | (go_at_call 40;refine (ZZ _ _ _ _).mono ?_;rintro e w' ⟨rfl,rfl⟩) | (go_at_call 159;refine (Zc _ _).mono ?_;rintro e w' ⟨rfl,rfl⟩) | (go_at_call 160;refine (Y3 _ _ _).mono ?_;rintro e w' ⟨rfl,rfl⟩))
   go_ret
   exact ⟨rfl,(ba _ _)⟩
  cases h5:YG lo hi
  ·go_enter Tryz.func100,Tryz.ntmps100
   go_wp2_with (first | (go_at_call 40;refine (ZZ _ _ _ _).mono ?_;rintro e w' ⟨rfl,rfl⟩) | (go_at_call 159;refine (Zc _ _).mono ?_;rintro e w' ⟨rfl,rfl⟩) | (go_at_call 160;refine (Y3 _ _ _).mono ?_;rintro e w' ⟨rfl,rfl⟩))
   go_ret
   exact ⟨rfl,(ba _ _)⟩
  cases h6:inB hd (-1000000000000) 1000000000000
  ·go_enter Tryz.func100,Tryz.ntmps100
   go_wp2_with (first | (go_at_call 40;refine (ZZ _ _ _ _).mono ?_;rintro e w' ⟨rfl,rfl⟩) | (go_at_call 159;refine (Zc _ _).mono ?_;rintro e w' ⟨rfl,rfl⟩) | (go_at_call 160;refine (Y3 _ _ _).mono ?_;rintro e w' ⟨rfl,rfl⟩))
   go_quiet (first | exact Calls.quiet_of_same (ZZ _ _ _ _) | exact Calls.quiet_of_same (XP _ _) | exact Calls.quiet_of_same (YY (uh Hw) _) | exact Calls.quiet_of_same (YD _ _))
   go_wp2_with fail
   go_ret
   exact ⟨rfl,YP ((ba _ _)) _⟩
  cases h7:inB ca 0 (x-1)
  ·go_enter Tryz.func100,Tryz.ntmps100
   go_wp2_with (first | (go_at_call 40;refine (ZZ _ _ _ _).mono ?_;rintro e w' ⟨rfl,rfl⟩) | (go_at_call 159;refine (Zc _ _).mono ?_;rintro e w' ⟨rfl,rfl⟩) | (go_at_call 160;refine (Y3 _ _ _).mono ?_;rintro e w' ⟨rfl,rfl⟩))
   go_quiet (first | exact Calls.quiet_of_same (ZZ _ _ _ _) | exact Calls.quiet_of_same (XP _ _) | exact Calls.quiet_of_same (YY (uh Hw) _) | exact Calls.quiet_of_same (YD _ _))
   go_wp2_with fail
   go_ret
   exact ⟨rfl,YP ((ba _ _)) _⟩
  cases h8:inB ut 0 1024
  ·go_enter Tryz.func100,Tryz.ntmps100
   go_wp2_with (first | (go_at_call 40;refine (ZZ _ _ _ _).mono ?_;rintro e w' ⟨rfl,rfl⟩) | (go_at_call 159;refine (Zc _ _).mono ?_;rintro e w' ⟨rfl,rfl⟩) | (go_at_call 160;refine (Y3 _ _ _).mono ?_;rintro e w' ⟨rfl,rfl⟩))
   go_quiet (first | exact Calls.quiet_of_same (ZZ _ _ _ _) | exact Calls.quiet_of_same (XP _ _) | exact Calls.quiet_of_same (YY (uh Hw) _) | exact Calls.quiet_of_same (YD _ _))
   go_wp2_with fail
   go_ret
   exact ⟨rfl,YP ((ba _ _)) _⟩
  cases h9:inB wk 0 100000000000
  ·go_enter Tryz.func100,Tryz.ntmps100
   go_wp2_with (first | (go_at_call 40;refine (ZZ _ _ _ _).mono ?_;rintro e w' ⟨rfl,rfl⟩) | (go_at_call 159;refine (Zc _ _).mono ?_;rintro e w' ⟨rfl,rfl⟩) | (go_at_call 160;refine (Y3 _ _ _).mono ?_;rintro e w' ⟨rfl,rfl⟩))
   go_quiet (first | exact Calls.quiet_of_same (ZZ _ _ _ _) | exact Calls.quiet_of_same (XP _ _) | exact Calls.quiet_of_same (YY (uh Hw) _) | exact Calls.quiet_of_same (YD _ _))
   go_wp2_with fail
   go_ret
   exact ⟨rfl,YP ((ba _ _)) _⟩
  go_enter Tryz.func100,Tryz.ntmps100
  go_wp2_with (first | (go_at_call 40;refine (ZZ _ _ _ _).mono ?_;rintro e w' ⟨rfl,rfl⟩) | (go_at_call 159;refine (Zc _ _).mono ?_;rintro e w' ⟨rfl,rfl⟩) | (go_at_call 160;refine (Y3 _ _ _).mono ?_;rintro e w' ⟨rfl,rfl⟩))
  go_quiet (first | exact Calls.quiet_of_same (ZZ _ _ _ _) | exact Calls.quiet_of_same (XP _ _) | exact Calls.quiet_of_same (YY (uh Hw) _) | exact Calls.quiet_of_same (YD _ _))
  go_wp2_with fail
  go_ret
  exact ⟨rfl,YP ((ba _ _)) _⟩
end Go.Proofs.YtffcgajndmhpkaaGreatDoor
namespace Go.Proofs.YtffcgajndmhpkaaGreatDoor
open Go.ChangeShapes Go.WideShapes Go.ChangeAt Go.RowKit Go.Sort
set_option linter.unusedVariables false
theorem Ok (st be rk my gu lo hi hd ca ut wk:Int) (w:World):Calls Tryz.prog 47 #[.agg (I11 st be rk my gu lo hi hd ca ut wk)] w fun e w'=>
  e= .returned (.bool (ZR (st,be,rk,my,gu,lo,hi,hd,ca,ut,wk)))/\Below w.heap.size w w':=by
 unfold ZR
 simp only
 cases h2:(st ==2)
 all_goals
  go_enter Tryz.func47,Tryz.ntmps47
  go_wp2_with fail
  go_ret
  exact ⟨by first | rfl | (simp),(ba _ _)⟩
theorem OS (h m:Int) (w:World):Calls Tryz.prog 107 #[.int .i64 h,.int .i64 m] w fun e w'=>e= .returned (.bool (Xw h m))/\w'=w:=by
 unfold Xw
 cases h1:inB h (-1000000000000) 1000000000000
 ·go_enter Tryz.func107,Tryz.ntmps107
  go_wp2_with (first | (go_at_call 161;refine (XP _ _).mono ?_;rintro e w' ⟨rfl,rfl⟩) | (go_at_call 40;refine (ZZ _ _ _ _).mono ?_;rintro e w' ⟨rfl,rfl⟩))
  go_ret
  exact ⟨rfl,rfl⟩
 cases h2:inB m (-1000000000000) 1000000000000
 ·go_enter Tryz.func107,Tryz.ntmps107
  go_wp2_with (first | (go_at_call 161;refine (XP _ _).mono ?_;rintro e w' ⟨rfl,rfl⟩) | (go_at_call 40;refine (ZZ _ _ _ _).mono ?_;rintro e w' ⟨rfl,rfl⟩))
  go_ret
  exact ⟨rfl,rfl⟩
 obtain ⟨a0,a1⟩:=ZU h1
 obtain ⟨b0,b1⟩:=ZU h2
 go_enter Tryz.func107,Tryz.ntmps107
 go_wp2_with (first | (go_at_call 161;refine (XP _ _).mono ?_;rintro e w' ⟨rfl,rfl⟩) | (go_at_call 40;refine (ZZ _ _ _ _).mono ?_;rintro e w' ⟨rfl,rfl⟩))
 go_ret
 exact ⟨rfl,rfl⟩
theorem XN {w:World} {v:Value} {rs:List Z2} {q:Bool} (hq:Zh rs=q) (h:IsRooms w v rs):Calls Tryz.prog 103 #[.agg #[v]] w fun e w'=>e= .returned (.bool q)/\Below w.heap.size w w':=by
 have:=Xr h;rw [hq] at this;exact this
theorem XT {w:World} {v:Value} {ps:List ZF} {q:Bool} (hq:Zw ps=q) (h:Yg w v ps):Calls Tryz.prog 104 #[v] w fun e w'=>e= .returned (.bool q)/\Below w.heap.size w w':=by
 have:=QS h;rw [hq] at this;exact this
theorem Su {w:World} {v:Value} {rs:List Z2} {n:Int} (hn:Z1 rs=n) (h:IsRooms w v rs) (ha:Adds rs):Calls Tryz.prog 105 #[.agg #[v]] w fun e w'=>e= .returned (.int .i64 n)/\Below w.heap.size w w':=by
 have:=UT h ha;rw [hn] at this;exact this
theorem Dn {x lo hi:Int} {q:Bool} (hq:inB x lo hi=q) (w:World):Calls Tryz.prog 40 #[.int .i64 x,.int .i64 lo,.int .i64 hi] w fun e w'=>e= .returned (.bool q)/\Below w.heap.size w w':=by
 have:=ZZ x lo hi w;rw [hq] at this
 exact this.mono fun e w' ⟨h1,h2⟩=>⟨h1,by rw [h2];exact Below.refl _ _⟩
theorem Nt {st be rk my gu lo hi hd ca ut wk:Int} {q:Bool} (hq:ZE (st,be,rk,my,gu,lo,hi,hd,ca,ut,wk)=q) (w:World):Calls Tryz.prog 100 #[.agg (I11 st be rk my gu lo hi hd ca ut wk)] w fun e w'=>e= .returned (.bool q)/\Below w.heap.size w w':=by
 have:=ZA st be rk my gu lo hi hd ca ut wk w;rw [hq] at this;exact this
theorem YV {st be rk my gu lo hi hd ca ut wk:Int} {q:Bool} (hq:ZR (st,be,rk,my,gu,lo,hi,hd,ca,ut,wk)=q) (w:World):Calls Tryz.prog 47 #[.agg (I11 st be rk my gu lo hi hd ca ut wk)] w fun e w'=>e= .returned (.bool q)/\Below w.heap.size w w':=by
 have:=Ok st be rk my gu lo hi hd ca ut wk w;rw [hq] at this;exact this
theorem Rh {s i:Int} {q:Bool} (hq:We s i=q) (h0:0<=s) (h1:s<=255) (h2:0<=i) (h3:i<=7) (w:World):Calls Tryz.prog 106 #[.int .i64 s,.int .i64 i] w fun e w'=>e= .returned (.bool q)/\Below w.heap.size w w':=by
 have:=Mr s i w h0 h1 h2 h3;rw [hq] at this
 exact this.mono fun e w' ⟨h1,h2⟩=>⟨h1,by rw [h2];exact Below.refl _ _⟩
theorem VI {h k:Int} {q:Bool} (hq:Xw h k=q) (w:World):Calls Tryz.prog 107 #[.int .i64 h,.int .i64 k] w fun e w'=>e= .returned (.bool q)/\Below w.heap.size w w':=by
 have:=OS h k w;rw [hq] at this
 exact this.mono fun e w' ⟨h1,h2⟩=>⟨h1,by rw [h2];exact Below.refl _ _⟩
theorem VC {w:World} {v0 v1 v2 v3 v4:Value} {m:Z4} (h:Smy w v0 v1 v2 v3 v4 m) :
  Calls Tryz.prog 43 #[.agg #[v0,v1,v2,v3,v4,.int .i64 m.now]] w fun e w'=>e= .returned (.bool (Y0 m))/\Below w.heap.size w w':=by
 have Hv:=Z9 (h.alloc (.cells #[v0,v1,v2,v3,v4,.int .i64 m.now] 32))
 obtain ⟨h0,h1,h2,h3,h4⟩:=h
 obtain ⟨a0,p0,rfl,hc0,hm0,r0⟩:=h0
 obtain ⟨a1,p1,rfl,hc1,hm1,_⟩:=h1
 obtain ⟨a2,p2,rfl,hc2,hm2,r2⟩:=h2
 obtain ⟨a3,p3,rfl,hc3,hm3,r3⟩:=h3
 obtain ⟨a4,p4,rfl,hc4,hm4,r4⟩:=h4
 have R0:=Z9 r0
 have R2:=Z9 r2
 have R3:=Z9 r3
 have R4:=Z9 r4
 clear r0 r2 r3 r4
 go_enter Tryz.func43,Tryz.ntmps43
 go_wp2_with fail
 obtain ⟨W,hW,BB,kb⟩:=J5 w 32 (S6 a0 p0 a1 p1 a2 p2 a3 p3 a4 p4 m)
 rw [hW]
 (try rw [hW] at Hv);clear hW
 have c0:=cell_regrown ((uh kb).cell (i:=0) (v:= .slice a0 m.rooms.length p0) rfl)
 have c1:=cell_regrown ((uh kb).cell (i:=1) (v:= .slice a1 m.guilds.length p1) rfl)
 have c2:=cell_regrown ((uh kb).cell (i:=2) (v:= .slice a2 m.smiths.length p2) rfl)
 have c3:=cell_regrown ((uh kb).cell (i:=3) (v:= .slice a3 m.desks.length p3) rfl)
 have c4:=cell_regrown ((uh kb).cell (i:=4) (v:= .slice a4 m.paces.length p4) rfl)
 have c5:=cell_regrown ((uh kb).cell (i:=5) (v:= .int .i64 m.now) rfl)
 cases h0:Zh m.rooms
 ·have Q0:=Z9 h0
  clear h0
  refine wq ?_
  repeat (go_big_quiet_step (first | exact Calls.regrown_of (XN (uh Q0) ((uh Hv).below (below_regrown _ _ _)).rooms)))
  refine wqn fun W1 hb=> ?_
  clear c0 c1 c2 c3 c4 c5
  go_wp2_with fail
  go_ret
  exact ⟨Z5 (WK (by unfold Y2;rw [uh Q0];rfl)).symm,(uh BB).trans (hb.mono (uh BB).size)⟩
 have Q0:=Z9 h0
 have QA:=Z9 (Ud h0)
 clear h0
 cases h1:Zw m.guilds
 ·have Q1:=Z9 h1
  clear h1
  refine wq ?_
  repeat (go_big_quiet_step (first | exact Calls.regrown_of (XN (uh Q0) ((uh Hv).below (below_regrown _ _ _)).rooms) | exact Calls.regrown_of (XT (uh Q1) ((uh Hv).below (below_regrown _ _ _)).guilds)))
  refine wqn fun W1 hb=> ?_
  clear c0 c1 c2 c3 c4 c5
  go_wp2_with fail
  go_ret
  exact ⟨Z5 (WK (by unfold Y2;rw [uh Q0,uh Q1];rfl)).symm,(uh BB).trans (hb.mono (uh BB).size)⟩
 have Q1:=Z9 h1
 clear h1
 by_cases h2:12<m.smiths.length
 ·have h2i:(12:Int)<(m.smiths.length:Int):=by omega
  have h2d:decide ((12:Int)<(m.smiths.length:Int))=true:=decide_eq_true h2i
  refine wq ?_
  repeat (go_big_quiet_step (first | exact Calls.regrown_of (XN (uh Q0) ((uh Hv).below (below_regrown _ _ _)).rooms) | exact Calls.regrown_of (XT (uh Q1) ((uh Hv).below (below_regrown _ _ _)).guilds)))
  refine wqn fun W1 hb=> ?_
  clear c0 c1 c2 c3 c4 c5
  go_wp2_with fail
  go_ret
  exact ⟨Z5 (WK (by unfold Y2;rw [uh Q0,uh Q1];simp;intro h9;omega)).symm,(uh BB).trans (hb.mono (uh BB).size)⟩
 have h2i:¬ (12:Int)<(m.smiths.length:Int):=by omega
 have h2d:decide ((12:Int)<(m.smiths.length:Int))=false:=decide_eq_false h2i
 obtain ⟨n,hn⟩:∃ n,Z1 m.rooms=n:=⟨_,rfl⟩
 have Q3:=Z9 hn
 clear hn
 by_cases h3:(m.desks.length:Int)=n
 rotate_left
 ·have h3b:((m.desks.length:Int) !=n)=true:=by simpa using h3
  refine wq ?_
  repeat (go_big_quiet_step (first | exact Calls.regrown_of (XN (uh Q0) ((uh Hv).below (below_regrown _ _ _)).rooms) | exact Calls.regrown_of (XT (uh Q1) ((uh Hv).below (below_regrown _ _ _)).guilds) | exact Calls.regrown_of (Su (uh Q3) ((uh Hv).below (below_regrown _ _ _)).rooms (uh QA))))
  refine wqn fun W1 hb=> ?_
  clear c0 c1 c2 c3 c4 c5
  go_wp2_with fail
  go_ret
  exact ⟨Z5 (WK (by unfold Y2;rw [uh Q0,uh Q1,uh Q3];simp [h3])).symm,(uh BB).trans (hb.mono (uh BB).size)⟩
 have h3b:((m.desks.length:Int) !=n)=false:=by simpa using h3
 by_cases h4:m.paces.length=m.rooms.length
 rotate_left
 ·have h4b:((m.paces.length:Int) !=(m.rooms.length:Int))=true:=by simp;omega
  refine wq ?_
  repeat (go_big_quiet_step (first | exact Calls.regrown_of (XN (uh Q0) ((uh Hv).below (below_regrown _ _ _)).rooms) | exact Calls.regrown_of (XT (uh Q1) ((uh Hv).below (below_regrown _ _ _)).guilds) | exact Calls.regrown_of (Su (uh Q3) ((uh Hv).below (below_regrown _ _ _)).rooms (uh QA))))
  refine wqn fun W1 hb=> ?_
  clear c0 c1 c2 c3 c4 c5
  go_wp2_with fail
  go_ret
  exact ⟨Z5 (WK (by unfold Y2;rw [uh Q0,uh Q1];simp [h4])).symm,(uh BB).trans (hb.mono (uh BB).size)⟩
 have h4b:((m.paces.length:Int) !=(m.rooms.length:Int))=false:=by simp;omega
 cases h5:inB m.now 0 1000000
 ·have Q5:=Z9 h5
  clear h5
  refine wq ?_
  repeat (go_big_quiet_step (first | exact Calls.regrown_of (XN (uh Q0) ((uh Hv).below (below_regrown _ _ _)).rooms) | exact Calls.regrown_of (XT (uh Q1) ((uh Hv).below (below_regrown _ _ _)).guilds) | exact Calls.regrown_of (Su (uh Q3) ((uh Hv).below (below_regrown _ _ _)).rooms (uh QA)) | exact Calls.regrown_of (Dn (uh Q5) _)))
  refine wqn fun W1 hb=> ?_
  clear c0 c1 c2 c3 c4 c5
  go_wp2_with fail
  go_ret
  exact ⟨Z5 (WK (by unfold Y2;rw [uh Q0,uh Q1,uh Q3,uh Q5];simp)).symm,(uh BB).trans (hb.mono (uh BB).size)⟩
 have Q5:=Z9 h5
 clear h5
 have QH:Hid (Y2 m=true):=Z9 (by unfold Y2;rw [uh Q0,uh Q1,uh Q3,uh Q5];simp [h3,h4];omega)
 refine wq ?_
 repeat (go_big_quiet_step (first | exact Calls.regrown_of (XN (uh Q0) ((uh Hv).below (below_regrown _ _ _)).rooms) | exact Calls.regrown_of (XT (uh Q1) ((uh Hv).below (below_regrown _ _ _)).guilds) | exact Calls.regrown_of (Su (uh Q3) ((uh Hv).below (below_regrown _ _ _)).rooms (uh QA)) | exact Calls.regrown_of (Dn (uh Q5) _)))
 refine wqn fun W1 hb=> ?_
 clear c0 c1 c2 c3 c4 c5
 replace kb:=bl kb hb
 replace Hv:=Z9 ((uh Hv).below hb)
 replace BB:=bt BB hb
 clear hb
 have H3:=Z9 h3
 have H4:=Z9 h4
 clear Hv Q0 Q1 Q3 Q5 QA h2d h3b h4b h3 h4
 have c3:=(uh kb).cell (i:=3) (v:= .slice a3 m.desks.length p3) rfl
 go_wp2_with fail
 clear c3
 go_loopw [3,4] (fun o i wr=> ∃ k:Nat,k<=m.desks.length/\o= .bool (UO m k)/\i= .int .i64 k/\Wd m k=true/\Blk wr w.heap.size 32 (S6 a0 p0 a1 p1 a2 p2 a3 p3 a4 p4 m)/\Below w.heap.size w wr) (fun _ i _=>m.desks.length-(intOf i).toNat)
 case atStart=>exact ⟨0,Nat.zero_le _,rfl,rfl,rfl,uh kb,uh BB⟩
 case round=>
  obtain ⟨k,hk,rfl,rfl,hup,kb1,hb1⟩:=hrel
  clear kb BB
  have kb:=Z9 kb1
  have BB:=Z9 hb1
  have Hup:=Z9 hup
  clear kb1 hb1 hup
  obtain ⟨ob,hob⟩:∃ b,UO m k=b:=⟨_,rfl⟩
  rw [hob]
  have Hob:=Z9 hob
  clear hob
  have c3:=(uh kb).cell (i:=3) (v:= .slice a3 m.desks.length p3) rfl
  by_cases hlt:k<m.desks.length
  ·rcases uh R3 with e0 | ⟨b,off,rfl,hbw,hcl⟩
   ·rw [e0] at hlt;simp at hlt
   obtain ⟨d0,d1,d2⟩:=Zp hcl hlt
   rw [<-(uh BB).cell (p:=⟨b,off+k*3,none⟩) hbw] at d0
   rw [<-(uh BB).cell (p:=⟨b,off+k*3+2,none⟩) hbw] at d2
   clear d1 hcl
   have HU:=Z9 (show Wd m (k+1)=(Wd m k && Ws (Z8 m.desks k)) from UF k)
   have HO:=Z9 (show UO m (k+1)=(UO m k || (Z8 m.desks k).1) from CP k)
   have HL:=Z9 (JV (m:=m) hlt)
   generalize Z8 m.desks k=dd at *
   obtain ⟨op,who,mk⟩:=dd
   simp only at d0 d2
   cases hmk:inB mk (-900000000000) 900000000000
   ·cases ob
    all_goals
     go_wp2_with (go_at_call 40;refine (ZZ _ _ _ _).mono ?_;rintro e w' ⟨rfl,h9⟩;subst w')
     go_ret
     exact ⟨Z5 (uh HL hmk).symm,uh BB⟩
   ·cases ob
    all_goals
     go_wp2_with (go_at_call 40;refine (ZZ _ _ _ _).mono ?_;rintro e w' ⟨rfl,h9⟩;subst w')
     go_roundw
     case rel=>exact ⟨k+1,by omega,by rw [uh HO,uh Hob];simp,by go_num,by rw [uh HU,uh Hup];exact hmk,uh kb,uh BB⟩
     case measure=>exact ms
  ·obtain rfl:k=m.desks.length:=by omega
   have QD:=Hup
   clear Hup
   have c4:=(uh kb).cell (i:=4) (v:= .slice a4 m.paces.length p4) rfl
   go_wp2_with fail
   clear c3 c4
   go_loopw [5] (fun i wr=> ∃ k:Nat,k<=m.paces.length/\i= .int .i64 k/\WC m k=true/\Blk wr w.heap.size 32 (S6 a0 p0 a1 p1 a2 p2 a3 p3 a4 p4 m)/\Below w.heap.size w wr) (fun i _=>m.paces.length-(intOf i).toNat)
   case atStart=>exact ⟨0,Nat.zero_le _,rfl,rfl,uh kb,uh BB⟩
   case round=>
    obtain ⟨k,hk,rfl,hup,kb1,hb1⟩:=hrel
    clear kb BB
    have kb:=Z9 kb1
    have BB:=Z9 hb1
    have Hup:=Z9 hup
    clear kb1 hb1 hup
    have c0:=(uh kb).cell (i:=0) (v:= .slice a0 m.rooms.length p0) rfl
    have c4:=(uh kb).cell (i:=4) (v:= .slice a4 m.paces.length p4) rfl
    by_cases hlt:k<m.paces.length
    ·have hlr:k<m.rooms.length:=by have:=uh H4;omega
     rcases uh R4 with e0 | ⟨b,off,rfl,hbw,hcl⟩
     ·rw [e0] at hlt;simp at hlt
     rcases uh R0 with e0 | ⟨b',off',rfl,hbw',hcl'⟩
     ·rw [e0] at hlr;simp at hlr
     have d0:=Ow hcl hlt
     obtain ⟨_,pv,d1,hip⟩:=hcl' k hlr
     rw [<-(uh BB).cell (p:=⟨b,off+k,none⟩) hbw] at d0
     rw [<-(uh BB).cell (p:=⟨b',off'+k*2+1,none⟩) hbw'] at d1
     obtain ⟨pa,pcap,rfl,hpc,hpm,_⟩:=hip
     clear hcl hcl'
     have HU:=Z9 (show WC m (k+1)=(WC m k && WS m k) from UF k)
     have HL:=Z9 (JW (m:=m) hlt)
     have HP:=Z9 (show WS m k=inB (Z8 m.paces k) 0 (((Z0 m.rooms k).2.length:Int)-1) from rfl)
     generalize Z8 m.paces k=z at *
     generalize (Z0 m.rooms k).2.length=nl at *
     have hwr:IntKind.i64.wrap ((nl:Int)-1)=(nl:Int)-1:=by rw [IntKind.wrap_i64];omega
     cases hz:inB z 0 ((nl:Int)-1)
     ·go_wp2_with fail
      go_quiet (exact Calls.quiet_of_same (ZZ _ _ _ _))
      go_wp2_with fail
      go_ret
      exact ⟨Z5 (uh HL (by rw [uh HP];exact hz)).symm,YP (uh BB) _⟩
     ·go_wp2_with fail
      go_quiet (exact Calls.quiet_of_same (ZZ _ _ _ _))
      go_wp2_with fail
      go_roundw
      case rel=>exact ⟨k+1,by omega,by go_num,by rw [uh HU,uh Hup,uh HP,hz];rfl,(uh kb).drewN _,YP (uh BB) _⟩
      case measure=>exact ms
    ·obtain rfl:k=m.paces.length:=by omega
     have QP:=Hup
     clear Hup
     have c2:=(uh kb).cell (i:=2) (v:= .slice a2 m.smiths.length p2) rfl
     go_wp2_with fail
     clear c0 c2 c4
     go_loopw [6] (fun i wr=> ∃ k:Nat,k<=m.smiths.length/\i= .int .i64 k/\WD m k=true/\Blk wr w.heap.size 32 (S6 a0 p0 a1 p1 a2 p2 a3 p3 a4 p4 m)/\Below w.heap.size w wr) (fun i _=>m.smiths.length-(intOf i).toNat)
     case atStart=>exact ⟨0,Nat.zero_le _,rfl,rfl,uh kb,uh BB⟩
     case round=>
      obtain ⟨k,hk,rfl,hup,kb1,hb1⟩:=hrel
      clear kb BB
      have kb:=Z9 kb1
      have BB:=Z9 hb1
      have Hup:=Z9 hup
      clear kb1 hb1 hup
      have c1:=(uh kb).cell (i:=1) (v:= .slice a1 m.guilds.length p1) rfl
      have c2:=(uh kb).cell (i:=2) (v:= .slice a2 m.smiths.length p2) rfl
      have c3:=(uh kb).cell (i:=3) (v:= .slice a3 m.desks.length p3) rfl
      by_cases hlt:k<m.smiths.length
      ·rcases uh R2 with e0 | ⟨b,off,rfl,hbw,hcl⟩
       ·rw [e0] at hlt;simp at hlt
       obtain ⟨d0,d1,d2,d3,d4,d5,d6,d7,d8,d9,d10⟩:=ZC hcl hlt
       rw [<-(uh BB).cell (p:=⟨b,off+k*11,none⟩) hbw] at d0
       rw [<-(uh BB).cell (p:=⟨b,off+k*11+1,none⟩) hbw] at d1
       rw [<-(uh BB).cell (p:=⟨b,off+k*11+2,none⟩) hbw] at d2
       rw [<-(uh BB).cell (p:=⟨b,off+k*11+3,none⟩) hbw] at d3
       rw [<-(uh BB).cell (p:=⟨b,off+k*11+4,none⟩) hbw] at d4
       rw [<-(uh BB).cell (p:=⟨b,off+k*11+5,none⟩) hbw] at d5
       rw [<-(uh BB).cell (p:=⟨b,off+k*11+6,none⟩) hbw] at d6
       rw [<-(uh BB).cell (p:=⟨b,off+k*11+7,none⟩) hbw] at d7
       rw [<-(uh BB).cell (p:=⟨b,off+k*11+8,none⟩) hbw] at d8
       rw [<-(uh BB).cell (p:=⟨b,off+k*11+9,none⟩) hbw] at d9
       rw [<-(uh BB).cell (p:=⟨b,off+k*11+10,none⟩) hbw] at d10
       clear hcl
       have HU:=Z9 (show WD m (k+1)=(WD m k && (Yv m (Z8 m.smiths k) && Yj m (Z8 m.smiths k))) from UF k)
       have HL:=Z9 (LM (m:=m) hlt)
       generalize Z8 m.smiths k=ss at *
       obtain ⟨st,be,rk,my,gu,lo,hi,hd,ca,ut,wk⟩:=ss
       simp only at d0 d1 d2 d3 d4 d5 d6 d7 d8 d9 d10
       have hl0:w.heap.size<wr.heap.size:=(uh kb).lt
       go_wp2_with fail
       clear c1 c2 c3 d0 d1 d2 d3 d4 d5 d6 d7 d8 d9 d10
       obtain ⟨qs,hqs⟩:∃ q,ZE (st,be,rk,my,gu,lo,hi,hd,ca,ut,wk)=q:=⟨_,rfl⟩
       have Hqs:=Z9 hqs
       clear hqs
       refine ck (Nt (uh Hqs) _) fun w1 hb=> ?_
       have ks:Hid (Blk w1 wr.heap.size 39 (I11 st be rk my gu lo hi hd ca ut wk)):=Z9 ((Blk.new wr _ _).below hb (by simp))
       replace kb:=Z9 (((uh kb).alloc (.cells (I11 st be rk my gu lo hi hd ca ut wk) 39)).below hb (by simp;omega))
       replace BB:=Z9 ((((uh BB).alloc (uh BB).size (.cells (I11 st be rk my gu lo hi hd ca ut wk) 39))).trans (hb.mono (by simp;have:=(uh BB).size;omega)))
       clear hb hl0
       generalize wr.heap.size=sb at *
       have c1:=(uh kb).cell (i:=1) (v:= .slice a1 m.guilds.length p1) rfl
       have c3:=(uh kb).cell (i:=3) (v:= .slice a3 m.desks.length p3) rfl
       have d0:=(uh ks).cell (i:=0) (v:= .int .i64 st) rfl
       have d1:=(uh ks).cell (i:=1) (v:= .int .i64 be) rfl
       have d4:=(uh ks).cell (i:=4) (v:= .int .i64 gu) rfl
       cases qs
       ·go_wp2_with fail
        go_ret
        exact ⟨Z5 (uh HL (by unfold Yv;rw [uh Hqs];rfl)).symm,uh BB⟩
       ·by_cases hst:st=0
        ·subst hst
         have hne:((0:Int) !=0)=false:=rfl
         go_wp2_with fail
         have Hps:Hid (ZR (0,be,rk,my,gu,lo,hi,hd,ca,ut,wk)=false):=Z9 rfl
         have e0:=cell_regrown ((uh ks).cell (i:=0) (v:= .int .i64 0) rfl)
         have e1:=cell_regrown ((uh ks).cell (i:=1) (v:= .int .i64 be) rfl)
         have e2:=cell_regrown ((uh ks).cell (i:=2) (v:= .int .i64 rk) rfl)
         have e3:=cell_regrown ((uh ks).cell (i:=3) (v:= .int .i64 my) rfl)
         have e4:=cell_regrown ((uh ks).cell (i:=4) (v:= .int .i64 gu) rfl)
         have e5:=cell_regrown ((uh ks).cell (i:=5) (v:= .int .i64 lo) rfl)
         have e6:=cell_regrown ((uh ks).cell (i:=6) (v:= .int .i64 hi) rfl)
         have e7:=cell_regrown ((uh ks).cell (i:=7) (v:= .int .i64 hd) rfl)
         have e8:=cell_regrown ((uh ks).cell (i:=8) (v:= .int .i64 ca) rfl)
         have e9:=cell_regrown ((uh ks).cell (i:=9) (v:= .int .i64 ut) rfl)
         have e10:=cell_regrown ((uh ks).cell (i:=10) (v:= .int .i64 wk) rfl)
         refine wq ?_
         repeat (go_big_quiet_step (first | exact Calls.regrown_of (YV (uh Hps) _)))
         refine wqn fun W1 hb=> ?_
         replace kb:=bl kb hb
         replace BB:=bt BB hb
         clear hb
         go_wp2_with fail
         go_roundw
         case rel=>exact ⟨k+1,by omega,by go_num,by rw [uh HU,uh Hup];unfold Yv Yj;rw [uh Hqs,uh Hps];rfl,uh kb,uh BB⟩
         case measure=>exact ms
        have hne:(st !=0)=true:=by simpa using hst
        by_cases hgu:(m.guilds.length:Int)<=gu
        ·go_wp2_with fail
         go_ret
         exact ⟨Z5 (uh HL (by unfold Yv;rw [uh Hqs];simp [hst];intro h9;omega)).symm,uh BB⟩
        by_cases hbe:(m.desks.length:Int)<=be
        ·go_wp2_with fail
         go_ret
         exact ⟨Z5 (uh HL (by unfold Yv;rw [uh Hqs];simp [hst];intro h9;omega)).symm,uh BB⟩
        go_wp2_with fail
        have Hh:Hid (Yv m (st,be,rk,my,gu,lo,hi,hd,ca,ut,wk)=true):=Z9 (by unfold Yv;rw [uh Hqs];simp;omega)
        obtain ⟨ps,hps⟩:∃ q,ZR (st,be,rk,my,gu,lo,hi,hd,ca,ut,wk)=q:=⟨_,rfl⟩
        have Hps:=Z9 hps
        clear hps
        have e0:=cell_regrown ((uh ks).cell (i:=0) (v:= .int .i64 st) rfl)
        have e1:=cell_regrown ((uh ks).cell (i:=1) (v:= .int .i64 be) rfl)
        have e2:=cell_regrown ((uh ks).cell (i:=2) (v:= .int .i64 rk) rfl)
        have e3:=cell_regrown ((uh ks).cell (i:=3) (v:= .int .i64 my) rfl)
        have e4:=cell_regrown ((uh ks).cell (i:=4) (v:= .int .i64 gu) rfl)
        have e5:=cell_regrown ((uh ks).cell (i:=5) (v:= .int .i64 lo) rfl)
        have e6:=cell_regrown ((uh ks).cell (i:=6) (v:= .int .i64 hi) rfl)
        have e7:=cell_regrown ((uh ks).cell (i:=7) (v:= .int .i64 hd) rfl)
        have e8:=cell_regrown ((uh ks).cell (i:=8) (v:= .int .i64 ca) rfl)
        have e9:=cell_regrown ((uh ks).cell (i:=9) (v:= .int .i64 ut) rfl)
        have e10:=cell_regrown ((uh ks).cell (i:=10) (v:= .int .i64 wk) rfl)
        have e11:=cell_regrown ((uh kb).cell (i:=3) (v:= .slice a3 m.desks.length p3) rfl)
        cases ps
        ·refine wq ?_
         repeat (go_big_quiet_step (first | exact Calls.regrown_of (YV (uh Hps) _)))
         refine wqn fun W1 hb=> ?_
         replace kb:=bl kb hb
         replace BB:=bt BB hb
         clear hb
         go_wp2_with fail
         go_roundw
         case rel=>exact ⟨k+1,by omega,by go_num,by rw [uh HU,uh Hup];rw [uh Hh];unfold Yj;rw [uh Hps];rfl,uh kb,uh BB⟩
         case measure=>exact ms
        obtain ⟨b0,b1,b2,m0,m1,_⟩:=JH (uh Hh) (uh Hps)
        simp only at b0 b1 b2 m0 m1
        obtain ⟨j,rfl⟩:∃ j:Nat,be=j:=⟨be.toNat,by omega⟩
        have hj:j<m.desks.length:=by omega
        rcases uh R3 with e9 | ⟨b',off',rfl,hbw',hcl'⟩
        ·rw [e9] at hj;simp at hj
        obtain ⟨t0,_,t2⟩:=Zp hcl' hj
        rw [<-(uh BB).cell (p:=⟨b',off'+j*3,none⟩) hbw'] at t0
        rw [<-(uh BB).cell (p:=⟨b',off'+j*3+2,none⟩) hbw'] at t2
        clear hcl'
        have HS:=Z9 (show Yj m (st,(j:Int),rk,my,gu,lo,hi,hd,ca,ut,wk)=(!ZR (st,(j:Int),rk,my,gu,lo,hi,hd,ca,ut,wk) || ((Z8 m.desks j).1 && (We my j && Xw hd (Z8 m.desks j).2.2))) from rfl)
        generalize Z8 m.desks j=dd at *
        obtain ⟨op,who,mk⟩:=dd
        simp only at t0 t2
        have t0:=cell_regrown t0
        have t2:=cell_regrown t2
        obtain ⟨qb,hqb⟩:∃ q,We my j=q:=⟨_,rfl⟩
        have Hbit:=Z9 hqb
        obtain ⟨qd,hqd⟩:∃ q,Xw hd mk=q:=⟨_,rfl⟩
        have Hbd:=Z9 hqd
        clear hqb hqd
        have HS2:=uh HS
        simp only [uh Hps,uh Hbit,uh Hbd] at HS2
        have HS3:=Z9 HS2
        clear HS HS2
        cases op
        ·refine wq ?_
         repeat (go_big_quiet_step (first | exact Calls.regrown_of (YV (uh Hps) _) | exact Calls.regrown_of (Rh (uh Hbit) (by omega) (by omega) (by omega) (by omega) _) | exact Calls.regrown_of (VI (uh Hbd) _)))
         refine wqn fun W1 hb=> ?_
         replace kb:=bl kb hb
         replace BB:=bt BB hb
         clear hb
         go_wp2_with fail
         go_ret
         exact ⟨Z5 (uh HL (by rw [uh HS3];simp)).symm,uh BB⟩
        cases qb
        ·refine wq ?_
         repeat (go_big_quiet_step (first | exact Calls.regrown_of (YV (uh Hps) _) | exact Calls.regrown_of (Rh (uh Hbit) (by omega) (by omega) (by omega) (by omega) _) | exact Calls.regrown_of (VI (uh Hbd) _)))
         refine wqn fun W1 hb=> ?_
         replace kb:=bl kb hb
         replace BB:=bt BB hb
         clear hb
         go_wp2_with fail
         go_ret
         exact ⟨Z5 (uh HL (by rw [uh HS3];simp)).symm,uh BB⟩
        cases qd
        ·refine wq ?_
         repeat (go_big_quiet_step (first | exact Calls.regrown_of (YV (uh Hps) _) | exact Calls.regrown_of (Rh (uh Hbit) (by omega) (by omega) (by omega) (by omega) _) | exact Calls.regrown_of (VI (uh Hbd) _)))
         refine wqn fun W1 hb=> ?_
         replace kb:=bl kb hb
         replace BB:=bt BB hb
         clear hb
         go_wp2_with fail
         go_ret
         exact ⟨Z5 (uh HL (by rw [uh HS3];simp)).symm,uh BB⟩
        refine wq ?_
        repeat (go_big_quiet_step (first | exact Calls.regrown_of (YV (uh Hps) _) | exact Calls.regrown_of (Rh (uh Hbit) (by omega) (by omega) (by omega) (by omega) _) | exact Calls.regrown_of (VI (uh Hbd) _)))
        refine wqn fun W1 hb=> ?_
        replace kb:=bl kb hb
        replace BB:=bt BB hb
        clear hb
        go_wp2_with fail
        go_roundw
        case rel=>exact ⟨k+1,by omega,by go_num,by rw [uh HU,uh Hup];rw [uh Hh,uh HS3];rfl,uh kb,uh BB⟩
        case measure=>exact ms
      ·obtain rfl:k=m.smiths.length:=by omega
       go_wp2_with fail
       go_ret
       exact ⟨Z5 (by rw [G9 (uh QH) (uh QD) (uh QP) (uh Hup)];exact (uh Hob).symm),uh BB⟩
end Go.Proofs.YtffcgajndmhpkaaGreatDoor
