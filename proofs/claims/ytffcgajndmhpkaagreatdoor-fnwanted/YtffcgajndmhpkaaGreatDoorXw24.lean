/- Part 24 of what the proof rests on. No condition but those that a theorem names. -/
import Derived.Test.YtffcgajndmhpkaaGreatDoorXw23
set_option maxHeartbeats 8000000
set_option maxRecDepth 100000
namespace Go.Proofs.YtffcgajndmhpkaaGreatDoor
open Go.ChangeShapes Go.WideShapes Go.ChangeAt Go.RowKit Go.Sort
set_option linter.unusedVariables false
set_option maxRecDepth 100000
variable {w w' w0 w1 w2 w3 w₀ wr W W' X A B C : World} {v v0 v1 v2 v3 v4 u u0 u1 u2 u3 u4 : Value}
def TS (d:Yq):Bool:=d.1
theorem SO (a:Option Addr) (n cap:Nat) (i:Int) (w:World):Calls Tryz.prog 171 #[.slice a n cap,.int .i64 i] w fun e w'=>e= .returned (.bool (XA n i))/\w'=w:=by
 by_cases h0:0<=i
 ·by_cases h1:i<(n:Int)
  all_goals
   go_enter Tryz.func171,Tryz.ntmps171
   go_wp2_with fail
   go_ret
   exact ⟨Z5 (by unfold XA;simp [h0,h1]),rfl⟩
 ·go_enter Tryz.func171,Tryz.ntmps171
  go_wp2_with fail
  go_ret
  exact ⟨Z5 (by unfold XA;simp;omega),rfl⟩
theorem LB (a:Option Addr) (n cap:Nat) (i:Int) (w:World):Calls Tryz.prog 271 #[.slice a n cap,.int .i64 i] w fun e w'=>e= .returned (.bool (XA n i))/\w'=w:=by
 by_cases h0:0<=i
 ·by_cases h1:i<(n:Int)
  all_goals
   go_enter Tryz.func271,Tryz.ntmps271
   go_wp2_with fail
   go_ret
   exact ⟨Z5 (by unfold XA;simp [h0,h1]),rfl⟩
 ·go_enter Tryz.func271,Tryz.ntmps271
  go_wp2_with fail
  go_ret
  exact ⟨Z5 (by unfold XA;simp;omega),rfl⟩
theorem PV (a:Option Addr) (n cap:Nat) (i:Int) (w:World):Calls Tryz.prog 119 #[.slice a n cap,.int .i64 i] w fun e w'=>e= .returned (.bool (XA n i))/\w'=w:=by
 by_cases h0:0<=i
 ·by_cases h1:i<(n:Int)
  all_goals
   go_enter Tryz.func119,Tryz.ntmps119
   go_wp2_with fail
   go_ret
   exact ⟨Z5 (by unfold XA;simp [h0,h1]),rfl⟩
 ·go_enter Tryz.func119,Tryz.ntmps119
  go_wp2_with fail
  go_ret
  exact ⟨Z5 (by unfold XA;simp;omega),rfl⟩
theorem Wl (st be rk my gu lo hi hd ca ut wk:Int) (w:World):Calls Tryz.prog 170 #[.agg (I11 st be rk my gu lo hi hd ca ut wk)] w fun e w'=>e= .returned (.bool (st ==0))/\Below w.heap.size w w':=by
 go_enter Tryz.func170,Tryz.ntmps170
 go_wp2_with fail
 go_ret
 exact ⟨rfl,(ba _ _)⟩
theorem GM (st be rk my gu lo hi hd ca ut wk:Int) (w:World):Calls Tryz.prog 172 #[.agg (I11 st be rk my gu lo hi hd ca ut wk)] w fun e w'=>e= .returned (.bool (st ==1))/\Below w.heap.size w w':=by
 go_enter Tryz.func172,Tryz.ntmps172
 go_wp2_with fail
 go_ret
 exact ⟨rfl,(ba _ _)⟩
theorem RP (op:Bool) (who mk:Int) (w:World):Calls Tryz.prog 173 #[.agg #[.bool op,.int .i64 who,.int .i64 mk]] w fun e w'=>e= .returned (.bool op)/\Below w.heap.size w w':=by
 go_enter Tryz.func173,Tryz.ntmps173
 go_wp2_with fail
 go_ret
 exact ⟨rfl,(ba _ _)⟩
theorem JC (op:Bool) (who mk:Int) (w:World):Calls Tryz.prog 218 #[.agg #[.bool op,.int .i64 who,.int .i64 mk]] w fun e w'=>e= .returned (.bool (Ws (op,who,mk)))/\Below w.heap.size w w':=by
 go_enter Tryz.func218,Tryz.ntmps218
 go_wp2_with fail
 refine (ZD _ _ _ _).mono ?_
 rintro e w' ⟨rfl,h9⟩
 subst w'
 go_wp2_with fail
 go_ret
 exact ⟨rfl,(ba _ _)⟩
theorem Di (st be rk my gu lo hi hd ca ut wk b:Int) (w:World):Calls Tryz.prog 227 #[.agg (I11 st be rk my gu lo hi hd ca ut wk),.int .i64 b] w fun e w'=>e= .returned (.bool (atB b (st,be,rk,my,gu,lo,hi,hd,ca,ut,wk)))/\Below w.heap.size w w':=by
 by_cases h2:st=2
 ·subst h2
  go_enter Tryz.func227,Tryz.ntmps227
  go_wp2_with fail
  go_ret
  exact ⟨Z5 (by unfold atB;simp),(ba _ _)⟩
 have n2:(st ==2)=false:=by simpa using h2
 by_cases h3:st=3
 ·subst h3
  go_enter Tryz.func227,Tryz.ntmps227
  go_wp2_with fail
  go_ret
  exact ⟨Z5 (by unfold atB;simp),(ba _ _)⟩
 have n3:(st ==3)=false:=by simpa using h3
 go_enter Tryz.func227,Tryz.ntmps227
 go_wp2_with fail
 go_ret
 exact ⟨Z5 (by unfold atB;simp [n2,n3]),(ba _ _)⟩
theorem K6 (st be rk my gu lo hi hd ca ut wk b:Int) (w:World):Calls Tryz.prog 229 #[.agg (I11 st be rk my gu lo hi hd ca ut wk),.int .i64 b] w fun e w'=>e= .returned (.bool (Zm b (st,be,rk,my,gu,lo,hi,hd,ca,ut,wk)))/\Below w.heap.size w w':=by
 by_cases h3:st=3
 ·subst h3
  go_enter Tryz.func229,Tryz.ntmps229
  go_wp2_with fail
  go_ret
  exact ⟨Z5 (by unfold Zm;simp),(ba _ _)⟩
 have n3:(st ==3)=false:=by simpa using h3
 go_enter Tryz.func229,Tryz.ntmps229
 go_wp2_with fail
 go_ret
 exact ⟨Z5 (by unfold Zm;simp [n3]),(ba _ _)⟩
theorem Mb (st be rk my gu lo hi hd ca ut wk b:Int) (R:Nat) (w:World) (hc:w.cell? ⟨R,0,none⟩=some (.int .i64 b)) (hR:R<w.heap.size):Calls Tryz.prog 226 #[.agg (I11 st be rk my gu lo hi hd ca ut wk),.pointer (some ⟨R,0,none⟩)] w fun e w'=>e= .returned (.bool (atB b (st,be,rk,my,gu,lo,hi,hd,ca,ut,wk)))/\Below w.heap.size w w':=by
 have hne:R ≠ w.heap.size:=Nat.ne_of_lt hR
 go_enter Tryz.func226,Tryz.ntmps226
 go_wp2_with fail
 refine ck (Di st be rk my gu lo hi hd ca ut wk b _) fun w1 hb=> ?_
 have Hb:=Z9 (((Below.refl w.heap.size w).alloc (Nat.le_refl _) _).trans (hb.mono (by simp)))
 clear hb
 go_wp2_with fail
 go_ret
 exact ⟨rfl,uh Hb⟩
theorem PH (st be rk my gu lo hi hd ca ut wk b:Int) (R:Nat) (w:World) (hc:w.cell? ⟨R,0,none⟩=some (.int .i64 b)) (hR:R<w.heap.size):Calls Tryz.prog 228 #[.agg (I11 st be rk my gu lo hi hd ca ut wk),.pointer (some ⟨R,0,none⟩)] w fun e w'=>e= .returned (.bool (Zm b (st,be,rk,my,gu,lo,hi,hd,ca,ut,wk)))/\Below w.heap.size w w':=by
 have hne:R ≠ w.heap.size:=Nat.ne_of_lt hR
 go_enter Tryz.func228,Tryz.ntmps228
 go_wp2_with fail
 refine ck (K6 st be rk my gu lo hi hd ca ut wk b _) fun w1 hb=> ?_
 have Hb:=Z9 (((Below.refl w.heap.size w).alloc (Nat.le_refl _) _).trans (hb.mono (by simp)))
 clear hb
 go_wp2_with fail
 go_ret
 exact ⟨rfl,uh Hb⟩
theorem Qq (st be rk my gu lo hi hd ca ut wk:Int) (a:Option Addr) (n cap:Nat) (w:World):Calls Tryz.prog 216 #[.agg (I11 st be rk my gu lo hi hd ca ut wk),.slice a n cap] w fun e w'=>e= .returned (.bool (XB n (st,be,rk,my,gu,lo,hi,hd,ca,ut,wk)))/\Below w.heap.size w w':=by
 have hx:∀ q:Bool,Calls Tryz.prog 216 #[.agg (I11 st be rk my gu lo hi hd ca ut wk),.slice a n cap] w (fun e w'=>e= .returned (.bool q)/\Below w.heap.size w w')->q=XB n (st,be,rk,my,gu,lo,hi,hd,ca,ut,wk)->Calls Tryz.prog 216 #[.agg (I11 st be rk my gu lo hi hd ca ut wk),.slice a n cap] w fun e w'=>e= .returned (.bool (XB n (st,be,rk,my,gu,lo,hi,hd,ca,ut,wk)))/\Below w.heap.size w w':=fun q h e=>by rw [<-e];exact h
 by_cases h0:st=0
 ·subst h0
  refine hx true ?_ (by unfold XB;simp)
  go_enter Tryz.func216,Tryz.ntmps216
  go_wp2_with fail
  refine ck (Wl 0 be rk my gu lo hi hd ca ut wk _) fun w1 hb=> ?_
  have Hb:=Z9 (((Below.refl w.heap.size w).alloc (Nat.le_refl _) _).trans (hb.mono (by simp)))
  clear hb
  go_wp2_with fail
  go_ret
  exact ⟨rfl,uh Hb⟩
 have n0:(st ==0)=false:=by simpa using h0
 by_cases h1:gu= -1
 ·subst h1
  refine hx true ?_ (by unfold XB;simp)
  go_enter Tryz.func216,Tryz.ntmps216
  go_wp2_with fail
  refine (Wl st be rk my (-1) lo hi hd ca ut wk _).mono ?_
  rw [n0]
  rintro e w1 ⟨rfl,hb⟩
  have c4:w1.cell? ⟨w.heap.size,4,none⟩=some (.int .i64 (-1)):=(hb.cell (p:=⟨w.heap.size,4,none⟩) (by simp)).trans (Zu _ rfl)
  have Hb:=Z9 (((Below.refl w.heap.size w).alloc (Nat.le_refl _) _).trans (hb.mono (by simp)))
  clear hb
  go_wp2_with fail
  go_ret
  exact ⟨rfl,uh Hb⟩
 have n1:(gu == -1)=false:=by simpa using h1
 refine hx (XA n gu) ?_ (by unfold XB;simp [n0,n1])
 go_enter Tryz.func216,Tryz.ntmps216
 go_wp2_with fail
 refine (Wl st be rk my gu lo hi hd ca ut wk _).mono ?_
 rw [n0]
 rintro e w1 ⟨rfl,hb⟩
 have c4:w1.cell? ⟨w.heap.size,4,none⟩=some (.int .i64 gu):=(hb.cell (p:=⟨w.heap.size,4,none⟩) (by simp)).trans (Zu _ rfl)
 have Hb:=Z9 (((Below.refl w.heap.size w).alloc (Nat.le_refl _) _).trans (hb.mono (by simp)))
 clear hb
 go_wp2_with fail
 refine ck (LB a n cap gu _) fun w2 h9=> ?_
 subst w2
 go_wp2_with fail
 go_ret
 exact ⟨rfl,uh Hb⟩
theorem Nq (st be rk my gu lo hi hd ca ut wk:Int) (R:Nat) (a:Option Addr) (n cap:Nat) (w:World) (hc:w.cell? ⟨R,0,none⟩=some (.slice a n cap)) (hR:R<w.heap.size):Calls Tryz.prog 215 #[.agg (I11 st be rk my gu lo hi hd ca ut wk),.pointer (some ⟨R,0,none⟩)] w fun e w'=>e= .returned (.bool (XB n (st,be,rk,my,gu,lo,hi,hd,ca,ut,wk)))/\Below w.heap.size w w':=by
 have hne:R ≠ w.heap.size:=Nat.ne_of_lt hR
 go_enter Tryz.func215,Tryz.ntmps215
 go_wp2_with fail
 refine ck (Qq st be rk my gu lo hi hd ca ut wk a n cap _) fun w1 hb=> ?_
 have Hb:=Z9 (((Below.refl w.heap.size w).alloc (Nat.le_refl _) _).trans (hb.mono (by simp)))
 clear hb
 go_wp2_with fail
 go_ret
 exact ⟨rfl,uh Hb⟩
theorem Calls.bool_of {P:Program} {f:FuncId} {args:Array Value} {q q':Bool} (h:Calls P f args w fun e w'=>e= .returned (.bool q)/\Below w.heap.size w w') (e:q=q'):Calls P f args w fun e w'=>e= .returned (.bool q')/\Below w.heap.size w w':=by rw [<-e];exact h
theorem Nb (st be rk my gu lo hi hd ca ut wk:Int) {ds:List Yq} (h:Vy w v ds):Calls Tryz.prog 112 #[.agg (I11 st be rk my gu lo hi hd ca ut wk),v] w fun e w'=>e= .returned (.bool (Xo ds (st,be,rk,my,gu,lo,hi,hd,ca,ut,wk)))/\Below w.heap.size w w':=by
 obtain ⟨a,cap,rfl,hc,hm,hr⟩:=h
 have Hr:=Z9 hr
 clear hr
 by_cases h0:st=0
 ·subst h0
  refine Calls.bool_of (q:=true) ?_ (by unfold Xo;simp)
  go_enter Tryz.func112,Tryz.ntmps112
  go_wp2_with fail
  refine ck (Wl 0 be rk my gu lo hi hd ca ut wk _) fun w1 hb=> ?_
  have Hb:=Z9 (((Below.refl w.heap.size w).alloc (Nat.le_refl _) _).trans (hb.mono (by simp)))
  clear hb
  go_wp2_with fail
  go_ret
  exact ⟨rfl,uh Hb⟩
 have n0:(st ==0)=false:=by simpa using h0
 cases hh:XA ds.length be
 ·refine Calls.bool_of (q:=false) ?_ (by unfold Xo;simp only [n0,hh];rfl)
  have Hh:=Z9 hh
  clear hh
  go_enter Tryz.func112,Tryz.ntmps112
  go_wp2_with fail
  refine (Wl st be rk my gu lo hi hd ca ut wk _).mono ?_
  rw [n0]
  rintro e w1 ⟨rfl,hb⟩
  have c1:w1.cell? ⟨w.heap.size,1,none⟩=some (.int .i64 be):=(hb.cell (p:=⟨w.heap.size,1,none⟩) (by simp)).trans (Zu _ rfl)
  have Hb:=Z9 (((Below.refl w.heap.size w).alloc (Nat.le_refl _) _).trans (hb.mono (by simp)))
  clear hb
  go_wp2_with fail
  refine (SO a ds.length cap be _).mono ?_
  rw [uh Hh]
  rintro e w2 ⟨rfl,h9⟩
  subst w2
  go_wp2_with fail
  go_ret
  exact ⟨rfl,uh Hb⟩
 have hbe:0<=be/\be<(ds.length:Int):=by unfold XA at hh;simpa using hh
 obtain ⟨j,rfl⟩:∃ j:Nat,be=j:=⟨be.toNat,by omega⟩
 have hj:j<ds.length:=by omega
 have hj1:(j:Int)<(ds.length:Int):=by omega
 rcases uh Hr with e0 | ⟨b,off,rfl,hbw,hcl⟩
 ·rw [e0] at hj;simp at hj
 obtain ⟨t0,t1,t2⟩:=Zp hcl hj
 have hD:Xo ds (st,(j:Int),rk,my,gu,lo,hi,hd,ca,ut,wk)=(st ==1 || ((Z8 ds j).1 && (UZ my j && Wb hd (Z8 ds j).2.2))):=by
  unfold Xo
  simp only [n0,hh,Int.toNat_natCast,Bool.false_or,Bool.true_and]
 have HD:=Z9 hD
 have Hh:=Z9 hh
 clear hD hh hcl Hr
 generalize Z8 ds j=d at *
 obtain ⟨op,who,mk⟩:=d
 simp only at t0 t1 t2
 obtain ⟨qm,hqm⟩:∃ q,UZ my j=q:=⟨_,rfl⟩
 have Hm:=Z9 hqm
 obtain ⟨qb,hqb⟩:∃ q,Wb hd mk=q:=⟨_,rfl⟩
 have Hbd:=Z9 hqb
 clear hqm hqb
 refine Calls.bool_of (q:=(st ==1 || (op && (qm && qb)))) ?_ (by rw [uh HD,uh Hm,uh Hbd])
 clear HD
 go_enter Tryz.func112,Tryz.ntmps112
 go_wp2_with fail
 refine (Wl st (j:Int) rk my gu lo hi hd ca ut wk _).mono ?_
 rw [n0]
 rintro e w1 ⟨rfl,hb⟩
 have SB:Hid (Blk w1 w.heap.size 39 (I11 st j rk my gu lo hi hd ca ut wk)):=Z9 ((Blk.new w _ _).below hb (by simp))
 have Hb:=Z9 (((Below.refl w.heap.size w).alloc (Nat.le_refl _) _).trans (hb.mono (by simp)))
 rw [<-(uh Hb).cell (p:=⟨b,off+j*3,none⟩) hbw] at t0
 rw [<-(uh Hb).cell (p:=⟨b,off+j*3+1,none⟩) hbw] at t1
 rw [<-(uh Hb).cell (p:=⟨b,off+j*3+2,none⟩) hbw] at t2
 clear hb
 have s1:=(uh SB).cell (i:=1) (v:= .int .i64 j) rfl
 go_wp2_with fail
 refine (SO _ ds.length cap (j:Int) _).mono ?_
 rw [uh Hh]
 rintro e w2 ⟨rfl,h9⟩
 subst w2
 clear s1
 have s1:=(uh SB).cell (i:=1) (v:= .int .i64 j) rfl
 have hbw1:b<w1.heap.size:=Nat.lt_of_lt_of_le hbw (uh Hb).size
 have hl0:=(uh SB).lt
 go_upto_region 6 with fail
 clear t0 t1 t2 s1
 replace SB:Hid (Blk (w1.alloc (.cells #[.bool op,.int .i64 who,.int .i64 mk] 53)) w.heap.size 39 (I11 st j rk my gu lo hi hd ca ut wk)):=Z9 ((uh SB).alloc _)
 have DB:Hid (Blk (w1.alloc (.cells #[.bool op,.int .i64 who,.int .i64 mk] 53)) w1.heap.size 53 #[.bool op,.int .i64 who,.int .i64 mk]):=Z9 (Blk.new w1 _ _)
 replace Hb:Hid (Below w.heap.size w (w1.alloc (.cells #[.bool op,.int .i64 who,.int .i64 mk] 53))):=Z9 ((uh Hb).alloc (uh Hb).size _)
 generalize w1.alloc (.cells #[.bool op,.int .i64 who,.int .i64 mk] 53)=W at *
 generalize w1.heap.size=db at *
 obtain ⟨s0,s1,s2,s3,s4,s5,s6,s7,s8,s9,s10⟩:=(uh SB).c11
 go_wp2_with fail
 refine ck (GM st (j:Int) rk my gu lo hi hd ca ut wk _) fun w3 hb=> ?_
 replace SB:=bl SB hb
 replace DB:=bl DB hb
 replace Hb:=Z9 ((uh Hb).trans (hb.mono (uh Hb).size))
 clear hb s0 s1 s2 s3 s4 s5 s6 s7 s8 s9 s10
 by_cases h1:st=1
 ·subst h1
  go_wp2_with fail
  go_ret
  exact ⟨Z5 (by simp),uh Hb⟩
 have n1:(st ==1)=false:=by simpa using h1
 rw [n1]
 have g0:=(uh DB).cell (i:=0) (v:= .bool op) rfl
 have g1:=(uh DB).cell (i:=1) (v:= .int .i64 who) rfl
 have g2:=(uh DB).cell (i:=2) (v:= .int .i64 mk) rfl
 go_wp2_with fail
 refine ck (RP op who mk _) fun w4 hb=> ?_
 replace SB:=bl SB hb
 replace DB:=bl DB hb
 replace Hb:=Z9 ((uh Hb).trans (hb.mono (uh Hb).size))
 clear hb g0 g1 g2
 cases op
 ·go_wp2_with fail
  go_ret
  exact ⟨Z5 (by simp [h1]),uh Hb⟩
 have s1:=(uh SB).cell (i:=1) (v:= .int .i64 j) rfl
 have s3:=(uh SB).cell (i:=3) (v:= .int .i64 my) rfl
 have s7:=(uh SB).cell (i:=7) (v:= .int .i64 hd) rfl
 have g2:=(uh DB).cell (i:=2) (v:= .int .i64 mk) rfl
 go_wp2_with fail
 refine (UI my (j:Int) _).mono ?_
 rw [uh Hm]
 rintro e w5 ⟨rfl,h9⟩
 subst w5
 cases qm
 ·go_wp2_with fail
  go_ret
  exact ⟨Z5 (by simp [h1]),uh Hb⟩
 go_wp2_with fail
 refine (Ob hd mk _).mono ?_
 rw [uh Hbd]
 rintro e w6 ⟨rfl,hb⟩
 replace Hb:=Z9 ((uh Hb).trans (hb.mono (uh Hb).size))
 clear hb
 go_wp2_with fail
 go_ret
 exact ⟨Z5 (by simp [h1]),uh Hb⟩
theorem Eo  {ss:List Z3} (h:Wu w v ss):Calls Tryz.prog 110 #[v,.func (Fn.func 214) #[] #[]] w fun e w'=>e= .returned (.bool (Yz ZE ss ss.length))/\Below w.heap.size w w':=by
 obtain ⟨a,cap,rfl,hc,hm,hr⟩:=h
 have Hr:=Z9 hr
 clear hr
 go_enter Tryz.func110,Tryz.ntmps110
 go_wp2_with fail
 go_loopw [9] (fun i wr=> ∃ k:Nat,k<=ss.length/\i= .int .i64 k/\Yz ZE ss k=true/\Below w.heap.size w wr) (fun i _=>ss.length-(intOf i).toNat)
 case atStart=>exact ⟨0,Nat.zero_le _,rfl,rfl,Below.refl _ _⟩
 case round=>
  obtain ⟨k,hk,rfl,hst,hb0⟩:=hrel
  have Hst:=Z9 hst
  have BB:=Z9 hb0
  by_cases hlt:k<ss.length
  ·have hlt1:(k:Int)<(ss.length:Int):=by omega
   rcases uh Hr with e0 | ⟨b,off,rfl,hbw,hcl⟩
   ·rw [e0] at hlt;simp at hlt
   obtain ⟨d0,d1,d2,d3,d4,d5,d6,d7,d8,d9,d10⟩:=ZC hcl hlt
   rw [<-hb0.cell (p:=⟨b,off+k*11,none⟩) hbw] at d0
   rw [<-hb0.cell (p:=⟨b,off+k*11+1,none⟩) hbw] at d1
   rw [<-hb0.cell (p:=⟨b,off+k*11+2,none⟩) hbw] at d2
   rw [<-hb0.cell (p:=⟨b,off+k*11+3,none⟩) hbw] at d3
   rw [<-hb0.cell (p:=⟨b,off+k*11+4,none⟩) hbw] at d4
   rw [<-hb0.cell (p:=⟨b,off+k*11+5,none⟩) hbw] at d5
   rw [<-hb0.cell (p:=⟨b,off+k*11+6,none⟩) hbw] at d6
   rw [<-hb0.cell (p:=⟨b,off+k*11+7,none⟩) hbw] at d7
   rw [<-hb0.cell (p:=⟨b,off+k*11+8,none⟩) hbw] at d8
   rw [<-hb0.cell (p:=⟨b,off+k*11+9,none⟩) hbw] at d9
   rw [<-hb0.cell (p:=⟨b,off+k*11+10,none⟩) hbw] at d10
   have HU:=Z9 (fun hh=>Q2 (p:=ZE) (xs:=ss) (k:=k) hst hh)
   have HN:=Z9 (fun hh=>QZ (p:=ZE) (xs:=ss) hlt hh)
   clear hcl hst hb0
   generalize Z8 ss k=s at *
   obtain ⟨st,be,rk,my,gu,lo,hi,hd,ca,ut,wk⟩:=s
   simp only at d0 d1 d2 d3 d4 d5 d6 d7 d8 d9 d10
   have hbr:b<wr.heap.size:=Nat.lt_of_lt_of_le hbw (uh BB).size
   go_wp2_with fail
   clear d0 d1 d2 d3 d4 d5 d6 d7 d8 d9 d10
   obtain ⟨q,hq⟩:∃ q,ZE (st,be,rk,my,gu,lo,hi,hd,ca,ut,wk)=q:=⟨_,rfl⟩
   have Hq:=Z9 hq
   clear hq
   have hba:Below wr.heap.size wr (wr.alloc (.cells (I11 st be rk my gu lo hi hd ca ut wk) 39)):=ba _ _
   replace BB:=bt BB hba
   clear hba
   refine (Pw st be rk my gu lo hi hd ca ut wk _).mono ?_
   rw [uh Hq]
   rintro e w1 ⟨rfl,hb⟩
   replace BB:=bt BB hb
   clear hb
   cases q
   ·go_wp2_with fail
    go_ret
    exact ⟨Z5 (uh HN (uh Hq)).symm,uh BB⟩
   ·go_wp2_with fail
    go_roundw
    case rel=>exact ⟨k+1,by omega,by go_num,uh HU (uh Hq),uh BB⟩
    case measure=>exact ms
  ·obtain rfl:k=ss.length:=by omega
   go_wp2_with fail
   go_ret
   exact ⟨Z5 (uh Hst).symm,uh BB⟩
theorem Lf  {ss:List Z3} {R n gc:Nat} {ga:Option Addr} (h:Wu w v ss) (hc0:w.cell? ⟨R,0,none⟩=some (.slice ga n gc)) (hR:R<w.heap.size):Calls Tryz.prog 110 #[v,.func (Fn.func 215) #[] #[.pointer (some ⟨R,0,none⟩)]] w fun e w'=>e= .returned (.bool (Yz (XB n) ss ss.length))/\Below w.heap.size w w':=by
 obtain ⟨a,cap,rfl,hc,hm,hr⟩:=h
 have Hr:=Z9 hr
 clear hr
 have HC:=Z9 hc0
 clear hc0
 go_enter Tryz.func110,Tryz.ntmps110
 go_wp2_with fail
 go_loopw [9] (fun i wr=> ∃ k:Nat,k<=ss.length/\i= .int .i64 k/\Yz (XB n) ss k=true/\Below w.heap.size w wr) (fun i _=>ss.length-(intOf i).toNat)
 case atStart=>exact ⟨0,Nat.zero_le _,rfl,rfl,Below.refl _ _⟩
 case round=>
  obtain ⟨k,hk,rfl,hst,hb0⟩:=hrel
  have Hst:=Z9 hst
  have BB:=Z9 hb0
  by_cases hlt:k<ss.length
  ·have hlt1:(k:Int)<(ss.length:Int):=by omega
   rcases uh Hr with e0 | ⟨b,off,rfl,hbw,hcl⟩
   ·rw [e0] at hlt;simp at hlt
   obtain ⟨d0,d1,d2,d3,d4,d5,d6,d7,d8,d9,d10⟩:=ZC hcl hlt
   rw [<-hb0.cell (p:=⟨b,off+k*11,none⟩) hbw] at d0
   rw [<-hb0.cell (p:=⟨b,off+k*11+1,none⟩) hbw] at d1
   rw [<-hb0.cell (p:=⟨b,off+k*11+2,none⟩) hbw] at d2
   rw [<-hb0.cell (p:=⟨b,off+k*11+3,none⟩) hbw] at d3
   rw [<-hb0.cell (p:=⟨b,off+k*11+4,none⟩) hbw] at d4
   rw [<-hb0.cell (p:=⟨b,off+k*11+5,none⟩) hbw] at d5
   rw [<-hb0.cell (p:=⟨b,off+k*11+6,none⟩) hbw] at d6
   rw [<-hb0.cell (p:=⟨b,off+k*11+7,none⟩) hbw] at d7
   rw [<-hb0.cell (p:=⟨b,off+k*11+8,none⟩) hbw] at d8
   rw [<-hb0.cell (p:=⟨b,off+k*11+9,none⟩) hbw] at d9
   rw [<-hb0.cell (p:=⟨b,off+k*11+10,none⟩) hbw] at d10
   have HU:=Z9 (fun hh=>Q2 (p:=(XB n)) (xs:=ss) (k:=k) hst hh)
   have HN:=Z9 (fun hh=>QZ (p:=(XB n)) (xs:=ss) hlt hh)
   clear hcl hst hb0
   generalize Z8 ss k=s at *
   obtain ⟨st,be,rk,my,gu,lo,hi,hd,ca,ut,wk⟩:=s
   simp only at d0 d1 d2 d3 d4 d5 d6 d7 d8 d9 d10
   have hbr:b<wr.heap.size:=Nat.lt_of_lt_of_le hbw (uh BB).size
   go_wp2_with fail
   clear d0 d1 d2 d3 d4 d5 d6 d7 d8 d9 d10
   obtain ⟨q,hq⟩:∃ q,(XB n) (st,be,rk,my,gu,lo,hi,hd,ca,ut,wk)=q:=⟨_,rfl⟩
   have Hq:=Z9 hq
   clear hq
   have hba:Below wr.heap.size wr (wr.alloc (.cells (I11 st be rk my gu lo hi hd ca ut wk) 39)):=ba _ _
   replace BB:=bt BB hba
   clear hba
   refine (Nq st be rk my gu lo hi hd ca ut wk R ga n gc _ (((uh BB).cell (p:=⟨R,0,none⟩) hR).trans (uh HC)) (Nat.lt_of_lt_of_le hR (uh BB).size)).mono ?_
   rw [uh Hq]
   rintro e w1 ⟨rfl,hb⟩
   replace BB:=bt BB hb
   clear hb
   cases q
   ·go_wp2_with fail
    go_ret
    exact ⟨Z5 (uh HN (uh Hq)).symm,uh BB⟩
   ·go_wp2_with fail
    go_roundw
    case rel=>exact ⟨k+1,by omega,by go_num,uh HU (uh Hq),uh BB⟩
    case measure=>exact ms
  ·obtain rfl:k=ss.length:=by omega
   go_wp2_with fail
   go_ret
   exact ⟨Z5 (uh Hst).symm,uh BB⟩
theorem IY  {ss:List Yq} (h:Vy w v ss):Calls Tryz.prog 217 #[v,.func (Fn.func 218) #[] #[]] w fun e w'=>e= .returned (.bool (Yz Ws ss ss.length))/\Below w.heap.size w w':=by
 obtain ⟨a,cap,rfl,hc,hm,hr⟩:=h
 have Hr:=Z9 hr
 clear hr
 go_enter Tryz.func217,Tryz.ntmps217
 go_wp2_with fail
 go_loopw [9] (fun i wr=> ∃ k:Nat,k<=ss.length/\i= .int .i64 k/\Yz Ws ss k=true/\Below w.heap.size w wr) (fun i _=>ss.length-(intOf i).toNat)
 case atStart=>exact ⟨0,Nat.zero_le _,rfl,rfl,Below.refl _ _⟩
 case round=>
  obtain ⟨k,hk,rfl,hst,hb0⟩:=hrel
  have Hst:=Z9 hst
  have BB:=Z9 hb0
  by_cases hlt:k<ss.length
  ·have hlt1:(k:Int)<(ss.length:Int):=by omega
   rcases uh Hr with e0 | ⟨b,off,rfl,hbw,hcl⟩
   ·rw [e0] at hlt;simp at hlt
   obtain ⟨d0,d1,d2⟩:=Zp hcl hlt
   rw [<-hb0.cell (p:=⟨b,off+k*3,none⟩) hbw] at d0
   rw [<-hb0.cell (p:=⟨b,off+k*3+1,none⟩) hbw] at d1
   rw [<-hb0.cell (p:=⟨b,off+k*3+2,none⟩) hbw] at d2
   have HU:=Z9 (fun hh=>Q2 (p:=Ws) (xs:=ss) (k:=k) hst hh)
   have HN:=Z9 (fun hh=>QZ (p:=Ws) (xs:=ss) hlt hh)
   clear hcl hst hb0
   generalize Z8 ss k=s at *
   obtain ⟨op,who,mk⟩:=s
   simp only at d0 d1 d2
   have hbr:b<wr.heap.size:=Nat.lt_of_lt_of_le hbw (uh BB).size
   go_wp2_with fail
   clear d0 d1 d2
   obtain ⟨q,hq⟩:∃ q,Ws (op,who,mk)=q:=⟨_,rfl⟩
   have Hq:=Z9 hq
   clear hq
   have hba:Below wr.heap.size wr (wr.alloc (.cells #[.bool op,.int .i64 who,.int .i64 mk] 53)):=ba _ _
   replace BB:=bt BB hba
   clear hba
   refine (JC op who mk _).mono ?_
   rw [uh Hq]
   rintro e w1 ⟨rfl,hb⟩
   replace BB:=bt BB hb
   clear hb
   cases q
   ·go_wp2_with fail
    go_ret
    exact ⟨Z5 (uh HN (uh Hq)).symm,uh BB⟩
   ·go_wp2_with fail
    go_roundw
    case rel=>exact ⟨k+1,by omega,by go_num,uh HU (uh Hq),uh BB⟩
    case measure=>exact ms
  ·obtain rfl:k=ss.length:=by omega
   go_wp2_with fail
   go_ret
   exact ⟨Z5 (uh Hst).symm,uh BB⟩
theorem KU  {ss:List Z3} {R:Nat} {bn:Int} (h:Wu w v ss) (hl:ss.length<=1000) (hc0:w.cell? ⟨R,0,none⟩=some (.int .i64 bn)) (hR:R<w.heap.size):Calls Tryz.prog 225 #[v,.func (Fn.func 226) #[] #[.pointer (some ⟨R,0,none⟩)]] w fun e w'=> ∃ v',e= .returned v'/\NumsAt w.heap.size w' v' (ZW (atB bn) ss ss.length)/\Below w.heap.size w w':=by
 obtain ⟨a,cap,rfl,hc,hm,hr⟩:=h
 have Hr:=Z9 hr
 clear hr
 have HC:=Z9 hc0
 clear hc0
 go_enter Tryz.func225,Tryz.ntmps225
 go_wp2_with fail
 go_loopw [5,11] (fun l i wr=> ∃ k:Nat,k<=ss.length/\i= .int .i64 k/\NumsAt w.heap.size wr l (ZW (atB bn) ss k)/\Below w.heap.size w wr) (fun _ i _=>ss.length-(intOf i).toNat)
 case atStart=>exact ⟨0,Nat.zero_le _,rfl,Zd rfl (Nat.le_refl _),(ba _ _)⟩
 case round=>
  obtain ⟨k,hk,rfl,hln,hb0⟩:=hrel
  obtain ⟨la,lc,rfl⟩:=RecAt.shape hln
  have HL:=Z9 hln
  have BB:=Z9 hb0
  have hfl:=WL (atB bn) ss k
  clear hln
  by_cases hlt:k<ss.length
  ·have hlt1:(k:Int)<(ss.length:Int):=by omega
   rcases uh Hr with e0 | ⟨b,off,rfl,hbw,hcl⟩
   ·rw [e0] at hlt;simp at hlt
   obtain ⟨d0,d1,d2,d3,d4,d5,d6,d7,d8,d9,d10⟩:=ZC hcl hlt
   rw [<-hb0.cell (p:=⟨b,off+k*11,none⟩) hbw] at d0
   rw [<-hb0.cell (p:=⟨b,off+k*11+1,none⟩) hbw] at d1
   rw [<-hb0.cell (p:=⟨b,off+k*11+2,none⟩) hbw] at d2
   rw [<-hb0.cell (p:=⟨b,off+k*11+3,none⟩) hbw] at d3
   rw [<-hb0.cell (p:=⟨b,off+k*11+4,none⟩) hbw] at d4
   rw [<-hb0.cell (p:=⟨b,off+k*11+5,none⟩) hbw] at d5
   rw [<-hb0.cell (p:=⟨b,off+k*11+6,none⟩) hbw] at d6
   rw [<-hb0.cell (p:=⟨b,off+k*11+7,none⟩) hbw] at d7
   rw [<-hb0.cell (p:=⟨b,off+k*11+8,none⟩) hbw] at d8
   rw [<-hb0.cell (p:=⟨b,off+k*11+9,none⟩) hbw] at d9
   rw [<-hb0.cell (p:=⟨b,off+k*11+10,none⟩) hbw] at d10
   have HY:=Z9 (fun hh=>YQ (p:=(atB bn)) (xs:=ss) (k:=k) hh)
   have HN:=Z9 (fun hh=>Yl (p:=(atB bn)) (xs:=ss) (k:=k) hh)
   clear hcl hb0
   generalize Z8 ss k=s at *
   obtain ⟨st,be,rk,my,gu,lo,hi,hd,ca,ut,wk⟩:=s
   simp only at d0 d1 d2 d3 d4 d5 d6 d7 d8 d9 d10
   have hbr:b<wr.heap.size:=Nat.lt_of_lt_of_le hbw (uh BB).size
   go_wp2_with fail
   clear d0 d1 d2 d3 d4 d5 d6 d7 d8 d9 d10
   obtain ⟨q,hq⟩:∃ q,(atB bn) (st,be,rk,my,gu,lo,hi,hd,ca,ut,wk)=q:=⟨_,rfl⟩
   have Hq:=Z9 hq
   clear hq
   have hba:Below wr.heap.size wr (wr.alloc (.cells (I11 st be rk my gu lo hi hd ca ut wk) 39)):=ba _ _
   replace BB:=bt BB hba
   replace HL:=Z9 (RecAt.later (uh HL) hba)
   clear hba
   refine (Mb st be rk my gu lo hi hd ca ut wk bn R _ (((uh BB).cell (p:=⟨R,0,none⟩) hR).trans (uh HC)) (Nat.lt_of_lt_of_le hR (uh BB).size)).mono ?_
   rw [uh Hq]
   rintro e w1 ⟨rfl,hb⟩
   replace BB:=bt BB hb
   replace HL:=Z9 (RecAt.later (uh HL) hb)
   clear hb
   cases q
   ·go_wp2_with fail
    go_roundw
    case rel=>exact ⟨k+1,by omega,by go_num,by rw [uh HN (uh Hq)];exact uh HL,uh BB⟩
    case measure=>exact ms
   ·have hsx:=(uh BB).size
    go_wp2_with (at_builtin;refine ZO tyN rfl (.tmp 19) (.tmp 21) 192 Tryz.underlying192 rfl w.heap.size _ _ (ZW (atB bn) ss k) [(k:Int)] rfl rfl (RecAt.later (uh HL) ((ba _ _))) (V6 (k:Int) rfl (Nat.le_refl _) (by omega)) (by simp;omega) (by simp;omega) ?_;intro u9 w9 hp9 hg9 hat9;have HP9:=Z9 hp9;have HG9:=Z9 hg9;clear hp9 hg9 hat9)
    have hgo:∀ i,(Value.slice la (ZW (atB bn) ss k).length lc).ownBlock=some i->w.heap.size<=i:=fun i e=>(RecAt.lt (uh HL) e).1
    have hb9:Below w.heap.size w1 w9:=((Below.refl _ _).alloc hsx _).trans ((Below.refl _ _).grown (uh HG9) (by simp;omega) hgo)
    have hb8:=(uh BB).trans hb9
    go_wp2_with fail
    go_roundw
    case rel=>exact ⟨k+1,by omega,by go_num,by rw [uh HY (uh Hq)];exact uh HP9,hb8⟩
    case measure=>exact ms
  ·obtain rfl:k=ss.length:=by omega
   go_wp2_with fail
   go_ret
   exact ⟨_,rfl,uh HL,uh BB⟩
theorem Pd  {ss:List Z3} {R:Nat} {bn:Int} (h:Wu w v ss) (hl:ss.length<=1000) (hc0:w.cell? ⟨R,0,none⟩=some (.int .i64 bn)) (hR:R<w.heap.size):Calls Tryz.prog 225 #[v,.func (Fn.func 228) #[] #[.pointer (some ⟨R,0,none⟩)]] w fun e w'=> ∃ v',e= .returned v'/\NumsAt w.heap.size w' v' (ZW (Zm bn) ss ss.length)/\Below w.heap.size w w':=by
 obtain ⟨a,cap,rfl,hc,hm,hr⟩:=h
 have Hr:=Z9 hr
 clear hr
 have HC:=Z9 hc0
 clear hc0
 go_enter Tryz.func225,Tryz.ntmps225
 go_wp2_with fail
 go_loopw [5,11] (fun l i wr=> ∃ k:Nat,k<=ss.length/\i= .int .i64 k/\NumsAt w.heap.size wr l (ZW (Zm bn) ss k)/\Below w.heap.size w wr) (fun _ i _=>ss.length-(intOf i).toNat)
 case atStart=>exact ⟨0,Nat.zero_le _,rfl,Zd rfl (Nat.le_refl _),(ba _ _)⟩
 case round=>
  obtain ⟨k,hk,rfl,hln,hb0⟩:=hrel
  obtain ⟨la,lc,rfl⟩:=RecAt.shape hln
  have HL:=Z9 hln
  have BB:=Z9 hb0
  have hfl:=WL (Zm bn) ss k
  clear hln
  by_cases hlt:k<ss.length
  ·have hlt1:(k:Int)<(ss.length:Int):=by omega
   rcases uh Hr with e0 | ⟨b,off,rfl,hbw,hcl⟩
   ·rw [e0] at hlt;simp at hlt
   obtain ⟨d0,d1,d2,d3,d4,d5,d6,d7,d8,d9,d10⟩:=ZC hcl hlt
   rw [<-hb0.cell (p:=⟨b,off+k*11,none⟩) hbw] at d0
   rw [<-hb0.cell (p:=⟨b,off+k*11+1,none⟩) hbw] at d1
   rw [<-hb0.cell (p:=⟨b,off+k*11+2,none⟩) hbw] at d2
   rw [<-hb0.cell (p:=⟨b,off+k*11+3,none⟩) hbw] at d3
   rw [<-hb0.cell (p:=⟨b,off+k*11+4,none⟩) hbw] at d4
   rw [<-hb0.cell (p:=⟨b,off+k*11+5,none⟩) hbw] at d5
   rw [<-hb0.cell (p:=⟨b,off+k*11+6,none⟩) hbw] at d6
   rw [<-hb0.cell (p:=⟨b,off+k*11+7,none⟩) hbw] at d7
   rw [<-hb0.cell (p:=⟨b,off+k*11+8,none⟩) hbw] at d8
   rw [<-hb0.cell (p:=⟨b,off+k*11+9,none⟩) hbw] at d9
   rw [<-hb0.cell (p:=⟨b,off+k*11+10,none⟩) hbw] at d10
   have HY:=Z9 (fun hh=>YQ (p:=(Zm bn)) (xs:=ss) (k:=k) hh)
   have HN:=Z9 (fun hh=>Yl (p:=(Zm bn)) (xs:=ss) (k:=k) hh)
   clear hcl hb0
   generalize Z8 ss k=s at *
   obtain ⟨st,be,rk,my,gu,lo,hi,hd,ca,ut,wk⟩:=s
   simp only at d0 d1 d2 d3 d4 d5 d6 d7 d8 d9 d10
   have hbr:b<wr.heap.size:=Nat.lt_of_lt_of_le hbw (uh BB).size
   go_wp2_with fail
   clear d0 d1 d2 d3 d4 d5 d6 d7 d8 d9 d10
   obtain ⟨q,hq⟩:∃ q,(Zm bn) (st,be,rk,my,gu,lo,hi,hd,ca,ut,wk)=q:=⟨_,rfl⟩
   have Hq:=Z9 hq
   clear hq
   have hba:Below wr.heap.size wr (wr.alloc (.cells (I11 st be rk my gu lo hi hd ca ut wk) 39)):=ba _ _
   replace BB:=bt BB hba
   replace HL:=Z9 (RecAt.later (uh HL) hba)
   clear hba
   refine (PH st be rk my gu lo hi hd ca ut wk bn R _ (((uh BB).cell (p:=⟨R,0,none⟩) hR).trans (uh HC)) (Nat.lt_of_lt_of_le hR (uh BB).size)).mono ?_
   rw [uh Hq]
   rintro e w1 ⟨rfl,hb⟩
   replace BB:=bt BB hb
   replace HL:=Z9 (RecAt.later (uh HL) hb)
   clear hb
   cases q
   ·go_wp2_with fail
    go_roundw
    case rel=>exact ⟨k+1,by omega,by go_num,by rw [uh HN (uh Hq)];exact uh HL,uh BB⟩
    case measure=>exact ms
   ·have hsx:=(uh BB).size
    go_wp2_with (at_builtin;refine ZO tyN rfl (.tmp 19) (.tmp 21) 192 Tryz.underlying192 rfl w.heap.size _ _ (ZW (Zm bn) ss k) [(k:Int)] rfl rfl (RecAt.later (uh HL) ((ba _ _))) (V6 (k:Int) rfl (Nat.le_refl _) (by omega)) (by simp;omega) (by simp;omega) ?_;intro u9 w9 hp9 hg9 hat9;have HP9:=Z9 hp9;have HG9:=Z9 hg9;clear hp9 hg9 hat9)
    have hgo:∀ i,(Value.slice la (ZW (Zm bn) ss k).length lc).ownBlock=some i->w.heap.size<=i:=fun i e=>(RecAt.lt (uh HL) e).1
    have hb9:Below w.heap.size w1 w9:=((Below.refl _ _).alloc hsx _).trans ((Below.refl _ _).grown (uh HG9) (by simp;omega) hgo)
    have hb8:=(uh BB).trans hb9
    go_wp2_with fail
    go_roundw
    case rel=>exact ⟨k+1,by omega,by go_num,by rw [uh HY (uh Hq)];exact uh HP9,hb8⟩
    case measure=>exact ms
  ·obtain rfl:k=ss.length:=by omega
   go_wp2_with fail
   go_ret
   exact ⟨_,rfl,uh HL,uh BB⟩
theorem Nz  {ss:List Yq} (h:Vy w v ss) (hl:ss.length<=1000):Calls Tryz.prog 219 #[v,.func (Fn.func 173) #[] #[]] w fun e w'=> ∃ v',e= .returned v'/\NumsAt w.heap.size w' v' (ZW TS ss ss.length)/\Below w.heap.size w w':=by
 obtain ⟨a,cap,rfl,hc,hm,hr⟩:=h
 have Hr:=Z9 hr
 clear hr
 go_enter Tryz.func219,Tryz.ntmps219
 go_wp2_with fail
 go_loopw [5,11] (fun l i wr=> ∃ k:Nat,k<=ss.length/\i= .int .i64 k/\NumsAt w.heap.size wr l (ZW TS ss k)/\Below w.heap.size w wr) (fun _ i _=>ss.length-(intOf i).toNat)
 case atStart=>exact ⟨0,Nat.zero_le _,rfl,Zd rfl (Nat.le_refl _),(ba _ _)⟩
 case round=>
  obtain ⟨k,hk,rfl,hln,hb0⟩:=hrel
  obtain ⟨la,lc,rfl⟩:=RecAt.shape hln
  have HL:=Z9 hln
  have BB:=Z9 hb0
  have hfl:=WL TS ss k
  clear hln
  by_cases hlt:k<ss.length
  ·have hlt1:(k:Int)<(ss.length:Int):=by omega
   rcases uh Hr with e0 | ⟨b,off,rfl,hbw,hcl⟩
   ·rw [e0] at hlt;simp at hlt
   obtain ⟨d0,d1,d2⟩:=Zp hcl hlt
   rw [<-hb0.cell (p:=⟨b,off+k*3,none⟩) hbw] at d0
   rw [<-hb0.cell (p:=⟨b,off+k*3+1,none⟩) hbw] at d1
   rw [<-hb0.cell (p:=⟨b,off+k*3+2,none⟩) hbw] at d2
   have HY:=Z9 (fun hh=>YQ (p:=TS) (xs:=ss) (k:=k) hh)
   have HN:=Z9 (fun hh=>Yl (p:=TS) (xs:=ss) (k:=k) hh)
   clear hcl hb0
   generalize Z8 ss k=s at *
   obtain ⟨op,who,mk⟩:=s
   simp only at d0 d1 d2
   have hbr:b<wr.heap.size:=Nat.lt_of_lt_of_le hbw (uh BB).size
   go_wp2_with fail
   clear d0 d1 d2
   obtain ⟨q,hq⟩:∃ q,TS (op,who,mk)=q:=⟨_,rfl⟩
   have Hq:=Z9 hq
   clear hq
   have hba:Below wr.heap.size wr (wr.alloc (.cells #[.bool op,.int .i64 who,.int .i64 mk] 53)):=ba _ _
   replace BB:=bt BB hba
   replace HL:=Z9 (RecAt.later (uh HL) hba)
   clear hba
   refine ck (Calls.bool_of (RP op who mk _) (uh Hq)) fun w1 hb=> ?_
   replace BB:=bt BB hb
   replace HL:=Z9 (RecAt.later (uh HL) hb)
   clear hb
   cases q
   ·go_wp2_with fail
    go_roundw
    case rel=>exact ⟨k+1,by omega,by go_num,by rw [uh HN (uh Hq)];exact uh HL,uh BB⟩
    case measure=>exact ms
   ·have hsx:=(uh BB).size
    go_wp2_with (at_builtin;refine ZO tyN rfl (.tmp 19) (.tmp 21) 192 Tryz.underlying192 rfl w.heap.size _ _ (ZW TS ss k) [(k:Int)] rfl rfl (RecAt.later (uh HL) ((ba _ _))) (V6 (k:Int) rfl (Nat.le_refl _) (by omega)) (by simp;omega) (by simp;omega) ?_;intro u9 w9 hp9 hg9 hat9;have HP9:=Z9 hp9;have HG9:=Z9 hg9;clear hp9 hg9 hat9)
    have hgo:∀ i,(Value.slice la (ZW TS ss k).length lc).ownBlock=some i->w.heap.size<=i:=fun i e=>(RecAt.lt (uh HL) e).1
    have hb9:Below w.heap.size w1 w9:=((Below.refl _ _).alloc hsx _).trans ((Below.refl _ _).grown (uh HG9) (by simp;omega) hgo)
    have hb8:=(uh BB).trans hb9
    go_wp2_with fail
    go_roundw
    case rel=>exact ⟨k+1,by omega,by go_num,by rw [uh HY (uh Hq)];exact uh HP9,hb8⟩
    case measure=>exact ms
  ·obtain rfl:k=ss.length:=by omega
   go_wp2_with fail
   go_ret
   exact ⟨_,rfl,uh HL,uh BB⟩
end Go.Proofs.YtffcgajndmhpkaaGreatDoor
