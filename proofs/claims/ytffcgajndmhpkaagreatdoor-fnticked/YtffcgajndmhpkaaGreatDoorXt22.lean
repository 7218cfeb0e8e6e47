/- Part 22 of what the proof rests on. No condition but those that a theorem names. -/
import Derived.Test.YtffcgajndmhpkaaGreatDoorXt21
set_option maxHeartbeats 8000000
set_option maxRecDepth 100000
namespace Go.Proofs.YtffcgajndmhpkaaGreatDoor
open Go.ChangeShapes Go.WideShapes Go.ChangeAt Go.RowKit Go.Sort
set_option linter.unusedVariables false
set_option maxRecDepth 100000
variable {w w' w0 w1 w2 w3 w₀ wr W W' X A B C : World} {v v0 v1 v2 v3 v4 u u0 u1 u2 u3 u4 : Value}
def T0 (d:Yq):Bool:=d.1
theorem Qc (a:Option Addr) (n cap:Nat) (i:Int) (w:World):Calls Tryz.prog 171 #[.slice a n cap,.int .i64 i] w fun e w'=>e= .returned (.bool (Wx n i))/\w'=w:=by
 by_cases h0:0<=i
 ·by_cases h1:i<(n:Int)
  all_goals
   go_enter Tryz.func171,Tryz.ntmps171
   go_wp2_with fail
   go_ret
   exact ⟨Z5 (by unfold Wx;simp [h0,h1]),rfl⟩
 ·go_enter Tryz.func171,Tryz.ntmps171
  go_wp2_with fail
  go_ret
  exact ⟨Z5 (by unfold Wx;simp;omega),rfl⟩
theorem LQ (a:Option Addr) (n cap:Nat) (i:Int) (w:World):Calls Tryz.prog 271 #[.slice a n cap,.int .i64 i] w fun e w'=>e= .returned (.bool (Wx n i))/\w'=w:=by
 by_cases h0:0<=i
 ·by_cases h1:i<(n:Int)
  all_goals
   go_enter Tryz.func271,Tryz.ntmps271
   go_wp2_with fail
   go_ret
   exact ⟨Z5 (by unfold Wx;simp [h0,h1]),rfl⟩
 ·go_enter Tryz.func271,Tryz.ntmps271
  go_wp2_with fail
  go_ret
  exact ⟨Z5 (by unfold Wx;simp;omega),rfl⟩
theorem JM (a:Option Addr) (n cap:Nat) (i:Int) (w:World):Calls Tryz.prog 119 #[.slice a n cap,.int .i64 i] w fun e w'=>e= .returned (.bool (Wx n i))/\w'=w:=by
 by_cases h0:0<=i
 ·by_cases h1:i<(n:Int)
  all_goals
   go_enter Tryz.func119,Tryz.ntmps119
   go_wp2_with fail
   go_ret
   exact ⟨Z5 (by unfold Wx;simp [h0,h1]),rfl⟩
 ·go_enter Tryz.func119,Tryz.ntmps119
  go_wp2_with fail
  go_ret
  exact ⟨Z5 (by unfold Wx;simp;omega),rfl⟩
theorem Wn (st be rk my gu lo hi hd ca ut wk:Int) (w:World):Calls Tryz.prog 170 #[.agg (I11 st be rk my gu lo hi hd ca ut wk)] w fun e w'=>e= .returned (.bool (st ==0))/\Below w.heap.size w w':=by
 go_enter Tryz.func170,Tryz.ntmps170
 go_wp2_with fail
 go_ret
 exact ⟨rfl,(ba _ _)⟩
theorem G0 (st be rk my gu lo hi hd ca ut wk:Int) (w:World):Calls Tryz.prog 172 #[.agg (I11 st be rk my gu lo hi hd ca ut wk)] w fun e w'=>e= .returned (.bool (st ==1))/\Below w.heap.size w w':=by
 go_enter Tryz.func172,Tryz.ntmps172
 go_wp2_with fail
 go_ret
 exact ⟨rfl,(ba _ _)⟩
theorem Ow (op:Bool) (who mk:Int) (w:World):Calls Tryz.prog 173 #[.agg #[.bool op,.int .i64 who,.int .i64 mk]] w fun e w'=>e= .returned (.bool op)/\Below w.heap.size w w':=by
 go_enter Tryz.func173,Tryz.ntmps173
 go_wp2_with fail
 go_ret
 exact ⟨rfl,(ba _ _)⟩
theorem JL (op:Bool) (who mk:Int) (w:World):Calls Tryz.prog 218 #[.agg #[.bool op,.int .i64 who,.int .i64 mk]] w fun e w'=>e= .returned (.bool (Wu (op,who,mk)))/\Below w.heap.size w w':=by
 go_enter Tryz.func218,Tryz.ntmps218
 go_wp2_with fail
 refine (ZC _ _ _ _).mono ?_
 rintro e w' ⟨rfl,h9⟩
 subst w'
 go_wp2_with fail
 go_ret
 exact ⟨rfl,(ba _ _)⟩
theorem DD (st be rk my gu lo hi hd ca ut wk b:Int) (w:World):Calls Tryz.prog 227 #[.agg (I11 st be rk my gu lo hi hd ca ut wk),.int .i64 b] w fun e w'=>e= .returned (.bool (atB b (st,be,rk,my,gu,lo,hi,hd,ca,ut,wk)))/\Below w.heap.size w w':=by
 by_cases h2:st=2
 ·subst h2
  go_enter Tryz.func227,Tryz.ntmps227
  go_wp2_with fail
  go_ret
  exact ⟨Z5 (by unfold atB;simp),(ba _ _)⟩
 have n2:(st ==2)=false:=by simpa using h2
 by_cases h3:st=3
 ·subst h3
  go_enter Tryz.func227,Tryz.ntmps227
  go_wp2_with fail
  go_ret
  exact ⟨Z5 (by unfold atB;simp),(ba _ _)⟩
 have n3:(st ==3)=false:=by simpa using h3
 go_enter Tryz.func227,Tryz.ntmps227
 go_wp2_with fail
 go_ret
 exact ⟨Z5 (by unfold atB;simp [n2,n3]),(ba _ _)⟩
theorem Li (st be rk my gu lo hi hd ca ut wk b:Int) (w:World):Calls Tryz.prog 229 #[.agg (I11 st be rk my gu lo hi hd ca ut wk),.int .i64 b] w fun e w'=>e= .returned (.bool (Zl b (st,be,rk,my,gu,lo,hi,hd,ca,ut,wk)))/\Below w.heap.size w w':=by
 by_cases h3:st=3
 ·subst h3
  go_enter Tryz.func229,Tryz.ntmps229
  go_wp2_with fail
  go_ret
  exact ⟨Z5 (by unfold Zl;simp),(ba _ _)⟩
 have n3:(st ==3)=false:=by simpa using h3
 go_enter Tryz.func229,Tryz.ntmps229
 go_wp2_with fail
 go_ret
 exact ⟨Z5 (by unfold Zl;simp [n3]),(ba _ _)⟩
theorem Mm (st be rk my gu lo hi hd ca ut wk b:Int) (R:Nat) (w:World) (hc:w.cell? ⟨R,0,none⟩=some (.int .i64 b)) (hR:R<w.heap.size):Calls Tryz.prog 226 #[.agg (I11 st be rk my gu lo hi hd ca ut wk),.pointer (some ⟨R,0,none⟩)] w fun e w'=>e= .returned (.bool (atB b (st,be,rk,my,gu,lo,hi,hd,ca,ut,wk)))/\Below w.heap.size w w':=by
 have hne:R ≠ w.heap.size:=Nat.ne_of_lt hR
 go_enter Tryz.func226,Tryz.ntmps226
 go_wp2_with fail
 refine ck (DD st be rk my gu lo hi hd ca ut wk b _) fun w1 hb=> ?_
 have Hb:=Z9 (((Below.refl w.heap.size w).alloc (Nat.le_refl _) _).trans (hb.mono (by simp)))
 clear hb
 go_wp2_with fail
 go_ret
 exact ⟨rfl,uh Hb⟩
theorem PW (st be rk my gu lo hi hd ca ut wk b:Int) (R:Nat) (w:World) (hc:w.cell? ⟨R,0,none⟩=some (.int .i64 b)) (hR:R<w.heap.size):Calls Tryz.prog 228 #[.agg (I11 st be rk my gu lo hi hd ca ut wk),.pointer (some ⟨R,0,none⟩)] w fun e w'=>e= .returned (.bool (Zl b (st,be,rk,my,gu,lo,hi,hd,ca,ut,wk)))/\Below w.heap.size w w':=by
 have hne:R ≠ w.heap.size:=Nat.ne_of_lt hR
 go_enter Tryz.func228,Tryz.ntmps228
 go_wp2_with fail
 refine ck (Li st be rk my gu lo hi hd ca ut wk b _) fun w1 hb=> ?_
 have Hb:=Z9 (((Below.refl w.heap.size w).alloc (Nat.le_refl _) _).trans (hb.mono (by simp)))
 clear hb
 go_wp2_with fail
 go_ret
 exact ⟨rfl,uh Hb⟩
theorem QG (st be rk my gu lo hi hd ca ut wk:Int) (a:Option Addr) (n cap:Nat) (w:World):Calls Tryz.prog 216 #[.agg (I11 st be rk my gu lo hi hd ca ut wk),.slice a n cap] w fun e w'=>e= .returned (.bool (XG n (st,be,rk,my,gu,lo,hi,hd,ca,ut,wk)))/\Below w.heap.size w w':=by
 have hx:∀ q:Bool,Calls Tryz.prog 216 #[.agg (I11 st be rk my gu lo hi hd ca ut wk),.slice a n cap] w (fun e w'=>e= .returned (.bool q)/\Below w.heap.size w w')->q=XG n (st,be,rk,my,gu,lo,hi,hd,ca,ut,wk)->Calls Tryz.prog 216 #[.agg (I11 st be rk my gu lo hi hd ca ut wk),.slice a n cap] w fun e w'=>e= .returned (.bool (XG n (st,be,rk,my,gu,lo,hi,hd,ca,ut,wk)))/\Below w.heap.size w w':=fun q h e=>by rw [<-e];exact h
 by_cases h0:st=0
 ·subst h0
  refine hx true ?_ (by unfold XG;simp)
  go_enter Tryz.func216,Tryz.ntmps216
  go_wp2_with fail
  refine ck (Wn 0 be rk my gu lo hi hd ca ut wk _) fun w1 hb=> ?_
  have Hb:=Z9 (((Below.refl w.heap.size w).alloc (Nat.le_refl _) _).trans (hb.mono (by simp)))
  clear hb
  go_wp2_with fail
  go_ret
  exact ⟨rfl,uh Hb⟩
 have n0:(st ==0)=false:=by simpa using h0
 by_cases h1:gu= -1
 ·subst h1
  refine hx true ?_ (by unfold XG;simp)
  go_enter Tryz.func216,Tryz.ntmps216
  go_wp2_with fail
  refine (Wn st be rk my (-1) lo hi hd ca ut wk _).mono ?_
  rw [n0]
  rintro e w1 ⟨rfl,hb⟩
  have c4:w1.cell? ⟨w.heap.size,4,none⟩=some (.int .i64 (-1)):=(hb.cell (p:=⟨w.heap.size,4,none⟩) (by simp)).trans (Zt _ rfl)
  have Hb:=Z9 (((Below.refl w.heap.size w).alloc (Nat.le_refl _) _).trans (hb.mono (by simp)))
  clear hb
  go_wp2_with fail
  go_ret
  exact ⟨rfl,uh Hb⟩
 have n1:(gu == -1)=false:=by simpa using h1
 refine hx (Wx n gu) ?_ (by unfold XG;simp [n0,n1])
 go_enter Tryz.func216,Tryz.ntmps216
 go_wp2_with fail
 refine (Wn st be rk my gu lo hi hd ca ut wk _).mono ?_
 rw [n0]
 rintro e w1 ⟨rfl,hb⟩
 have c4:w1.cell? ⟨w.heap.size,4,none⟩=some (.int .i64 gu):=(hb.cell (p:=⟨w.heap.size,4,none⟩) (by simp)).trans (Zt _ rfl)
 have Hb:=Z9 (((Below.refl w.heap.size w).alloc (Nat.le_refl _) _).trans (hb.mono (by simp)))
 clear hb
 go_wp2_with fail
 refine ck (LQ a n cap gu _) fun w2 h9=> ?_
 subst w2
 go_wp2_with fail
 go_ret
 exact ⟨rfl,uh Hb⟩
theorem NA (st be rk my gu lo hi hd ca ut wk:Int) (R:Nat) (a:Option Addr) (n cap:Nat) (w:World) (hc:w.cell? ⟨R,0,none⟩=some (.slice a n cap)) (hR:R<w.heap.size):Calls Tryz.prog 215 #[.agg (I11 st be rk my gu lo hi hd ca ut wk),.pointer (some ⟨R,0,none⟩)] w fun e w'=>e= .returned (.bool (XG n (st,be,rk,my,gu,lo,hi,hd,ca,ut,wk)))/\Below w.heap.size w w':=by
 have hne:R ≠ w.heap.size:=Nat.ne_of_lt hR
 go_enter Tryz.func215,Tryz.ntmps215
 go_wp2_with fail
 refine ck (QG st be rk my gu lo hi hd ca ut wk a n cap _) fun w1 hb=> ?_
 have Hb:=Z9 (((Below.refl w.heap.size w).alloc (Nat.le_refl _) _).trans (hb.mono (by simp)))
 clear hb
 go_wp2_with fail
 go_ret
 exact ⟨rfl,uh Hb⟩
theorem Calls.bool_of {P:Program} {f:FuncId} {args:Array Value} {q q':Bool} (h:Calls P f args w fun e w'=>e= .returned (.bool q)/\Below w.heap.size w w') (e:q=q'):Calls P f args w fun e w'=>e= .returned (.bool q')/\Below w.heap.size w w':=by rw [<-e];exact h
theorem Ni (st be rk my gu lo hi hd ca ut wk:Int) {ds:List Yq} (h:VI w v ds):Calls Tryz.prog 112 #[.agg (I11 st be rk my gu lo hi hd ca ut wk),v] w fun e w'=>e= .returned (.bool (Xr ds (st,be,rk,my,gu,lo,hi,hd,ca,ut,wk)))/\Below w.heap.size w w':=by
 obtain ⟨a,cap,rfl,hc,hm,hr⟩:=h
 have Hr:=Z9 hr
 clear hr
 by_cases h0:st=0
 ·subst h0
  refine Calls.bool_of (q:=true) ?_ (by unfold Xr;simp)
  go_enter Tryz.func112,Tryz.ntmps112
  go_wp2_with fail
  refine ck (Wn 0 be rk my gu lo hi hd ca ut wk _) fun w1 hb=> ?_
  have Hb:=Z9 (((Below.refl w.heap.size w).alloc (Nat.le_refl _) _).trans (hb.mono (by simp)))
  clear hb
  go_wp2_with fail
  go_ret
  exact ⟨rfl,uh Hb⟩
 have n0:(st ==0)=false:=by simpa using h0
 cases hh:Wx ds.length be
 ·refine Calls.bool_of (q:=false) ?_ (by unfold Xr;simp only [n0,hh];rfl)
  have Hh:=Z9 hh
  clear hh
  go_enter Tryz.func112,Tryz.ntmps112
  go_wp2_with fail
  refine (Wn st be rk my gu lo hi hd ca ut wk _).mono ?_
  rw [n0]
  rintro e w1 ⟨rfl,hb⟩
  have c1:w1.cell? ⟨w.heap.size,1,none⟩=some (.int .i64 be):=(hb.cell (p:=⟨w.heap.size,1,none⟩) (by simp)).trans (Zt _ rfl)
  have Hb:=Z9 (((Below.refl w.heap.size w).alloc (Nat.le_refl _) _).trans (hb.mono (by simp)))
  clear hb
  go_wp2_with fail
  refine (Qc a ds.length cap be _).mono ?_
  rw [uh Hh]
  rintro e w2 ⟨rfl,h9⟩
  subst w2
  go_wp2_with fail
  go_ret
  exact ⟨rfl,uh Hb⟩
 have hbe:0<=be/\be<(ds.length:Int):=by unfold Wx at hh;simpa using hh
 obtain ⟨j,rfl⟩:∃ j:Nat,be=j:=⟨be.toNat,by omega⟩
 have hj:j<ds.length:=by omega
 have hj1:(j:Int)<(ds.length:Int):=by omega
 rcases uh Hr with e0 | ⟨b,off,rfl,hbw,hcl⟩
 ·rw [e0] at hj;simp at hj
 obtain ⟨t0,t1,t2⟩:=Zi hcl hj
 have hD:Xr ds (st,(j:Int),rk,my,gu,lo,hi,hd,ca,ut,wk)=(st ==1 || ((Z8 ds j).1 && (Sb my j && Wc hd (Z8 ds j).2.2))):=by
  unfold Xr
  simp only [n0,hh,Int.toNat_natCast,Bool.false_or,Bool.true_and]
 have HD:=Z9 hD
 have Hh:=Z9 hh
 clear hD hh hcl Hr
 generalize Z8 ds j=d at *
 obtain ⟨op,who,mk⟩:=d
 simp only at t0 t1 t2
 obtain ⟨qm,hqm⟩:∃ q,Sb my j=q:=⟨_,rfl⟩
 have Hm:=Z9 hqm
 obtain ⟨qb,hqb⟩:∃ q,Wc hd mk=q:=⟨_,rfl⟩
 have Hbd:=Z9 hqb
 clear hqm hqb
 refine Calls.bool_of (q:=(st ==1 || (op && (qm && qb)))) ?_ (by rw [uh HD,uh Hm,uh Hbd])
 clear HD
 go_enter Tryz.func112,Tryz.ntmps112
 go_wp2_with fail
 refine (Wn st (j:Int) rk my gu lo hi hd ca ut wk _).mono ?_
 rw [n0]
 rintro e w1 ⟨rfl,hb⟩
 have SB:Hid (Blk w1 w.heap.size 39 (I11 st j rk my gu lo hi hd ca ut wk)):=Z9 ((Blk.new w _ _).below hb (by simp))
 have Hb:=Z9 (((Below.refl w.heap.size w).alloc (Nat.le_refl _) _).trans (hb.mono (by simp)))
 rw [<-(uh Hb).cell (p:=⟨b,off+j*3,none⟩) hbw] at t0
 rw [<-(uh Hb).cell (p:=⟨b,off+j*3+1,none⟩) hbw] at t1
 rw [<-(uh Hb).cell (p:=⟨b,off+j*3+2,none⟩) hbw] at t2
 clear hb
 have s1:=(uh SB).cell (i:=1) (v:= .int .i64 j) rfl
 go_wp2_with fail
 refine (Qc _ ds.length cap (j:Int) _).mono ?_
 rw [uh Hh]
 rintro e w2 ⟨rfl,h9⟩
 subst w2
 clear s1
 have s1:=(uh SB).cell (i:=1) (v:= .int .i64 j) rfl
 have hbw1:b<w1.heap.size:=Nat.lt_of_lt_of_le hbw (uh Hb).size
 have hl0:=(uh SB).lt
 go_upto_region 6 with fail
 clear t0 t1 t2 s1
 replace SB:Hid (Blk (w1.alloc (.cells #[.bool op,.int .i64 who,.int .i64 mk] 53)) w.heap.size 39 (I11 st j rk my gu lo hi hd ca ut wk)):=Z9 ((uh SB).alloc _)
 have DB:Hid (Blk (w1.alloc (.cells #[.bool op,.int .i64 who,.int .i64 mk] 53)) w1.heap.size 53 #[.bool op,.int .i64 who,.int .i64 mk]):=Z9 (Blk.new w1 _ _)
 replace Hb:Hid (Below w.heap.size w (w1.alloc (.cells #[.bool op,.int .i64 who,.int .i64 mk] 53))):=Z9 ((uh Hb).alloc (uh Hb).size _)
 generalize w1.alloc (.cells #[.bool op,.int .i64 who,.int .i64 mk] 53)=W at *
 generalize w1.heap.size=db at *
 obtain ⟨s0,s1,s2,s3,s4,s5,s6,s7,s8,s9,s10⟩:=(uh SB).c11
 go_wp2_with fail
 refine ck (G0 st (j:Int) rk my gu lo hi hd ca ut wk _) fun w3 hb=> ?_
 replace SB:=bl SB hb
 replace DB:=bl DB hb
 replace Hb:=Z9 ((uh Hb).trans (hb.mono (uh Hb).size))
 clear hb s0 s1 s2 s3 s4 s5 s6 s7 s8 s9 s10
 by_cases h1:st=1
 ·subst h1
  go_wp2_with fail
  go_ret
  exact ⟨Z5 (by simp),uh Hb⟩
 have n1:(st ==1)=false:=by simpa using h1
 rw [n1]
 have g0:=(uh DB).cell (i:=0) (v:= .bool op) rfl
 have g1:=(uh DB).cell (i:=1) (v:= .int .i64 who) rfl
 have g2:=(uh DB).cell (i:=2) (v:= .int .i64 mk) rfl
 go_wp2_with fail
 refine ck (Ow op who mk _) fun w4 hb=> ?_
 replace SB:=bl SB hb
 replace DB:=bl DB hb
 replace Hb:=Z9 ((uh Hb).trans (hb.mono (uh Hb).size))
 clear hb g0 g1 g2
 cases op
 ·go_wp2_with fail
  go_ret
  exact ⟨Z5 (by simp [h1]),uh Hb⟩
 have s1:=(uh SB).cell (i:=1) (v:= .int .i64 j) rfl
 have s3:=(uh SB).cell (i:=3) (v:= .int .i64 my) rfl
 have s7:=(uh SB).cell (i:=7) (v:= .int .i64 hd) rfl
 have g2:=(uh DB).cell (i:=2) (v:= .int .i64 mk) rfl
 go_wp2_with fail
 refine (UL my (j:Int) _).mono ?_
 rw [uh Hm]
 rintro e w5 ⟨rfl,h9⟩
 subst w5
 cases qm
 ·go_wp2_with fail
  go_ret
  exact ⟨Z5 (by simp [h1]),uh Hb⟩
 go_wp2_with fail
 refine (Ol hd mk _).mono ?_
 rw [uh Hbd]
 rintro e w6 ⟨rfl,hb⟩
 replace Hb:=Z9 ((uh Hb).trans (hb.mono (uh Hb).size))
 clear hb
 go_wp2_with fail
 go_ret
 exact ⟨Z5 (by simp [h1]),uh Hb⟩
theorem EC  {ss:List Z3} (h:Wy w v ss):Calls Tryz.prog 110 #[v,.func (Fn.func 214) #[] #[]] w fun e w'=>e= .returned (.bool (Yy ZJ ss ss.length))/\Below w.heap.size w w':=by
 obtain ⟨a,cap,rfl,hc,hm,hr⟩:=h
 have Hr:=Z9 hr
 clear hr
 go_enter Tryz.func110,Tryz.ntmps110
 go_wp2_with fail
 go_loopw [9] (fun i wr=> ∃ k:Nat,k<=ss.length/\i= .int .i64 k/\Yy ZJ ss k=true/\Below w.heap.size w wr) (fun i _=>ss.length-(intOf i).toNat)
 case atStart=>exact ⟨0,Nat.zero_le _,rfl,rfl,Below.refl _ _⟩
 case round=>
  obtain ⟨k,hk,rfl,hst,hb0⟩:=hrel
  have Hst:=Z9 hst
  have BB:=Z9 hb0
  by_cases hlt:k<ss.length
  ·have hlt1:(k:Int)<(ss.length:Int):=by omega
   rcases uh Hr with e0 | ⟨b,off,rfl,hbw,hcl⟩
   ·rw [e0] at hlt;simp at hlt
   obtain ⟨d0,d1,d2,d3,d4,d5,d6,d7,d8,d9,d10⟩:=ZB hcl hlt
   rw [<-hb0.cell (p:=⟨b,off+k*11,none⟩) hbw] at d0
   rw [<-hb0.cell (p:=⟨b,off+k*11+1,none⟩) hbw] at d1
   rw [<-hb0.cell (p:=⟨b,off+k*11+2,none⟩) hbw] at d2
   rw [<-hb0.cell (p:=⟨b,off+k*11+3,none⟩) hbw] at d3
   rw [<-hb0.cell (p:=⟨b,off+k*11+4,none⟩) hbw] at d4
   rw [<-hb0.cell (p:=⟨b,off+k*11+5,none⟩) hbw] at d5
   rw [<-hb0.cell (p:=⟨b,off+k*11+6,none⟩) hbw] at d6
   rw [<-hb0.cell (p:=⟨b,off+k*11+7,none⟩) hbw] at d7
   rw [<-hb0.cell (p:=⟨b,off+k*11+8,none⟩) hbw] at d8
   rw [<-hb0.cell (p:=⟨b,off+k*11+9,none⟩) hbw] at d9
   rw [<-hb0.cell (p:=⟨b,off+k*11+10,none⟩) hbw] at d10
   have HU:=Z9 (fun hh=>Rh (p:=ZJ) (xs:=ss) (k:=k) hst hh)
   have HN:=Z9 (fun hh=>Rg (p:=ZJ) (xs:=ss) hlt hh)
   clear hcl hst hb0
   generalize Z8 ss k=s at *
   obtain ⟨st,be,rk,my,gu,lo,hi,hd,ca,ut,wk⟩:=s
   simp only at d0 d1 d2 d3 d4 d5 d6 d7 d8 d9 d10
   have hbr:b<wr.heap.size:=Nat.lt_of_lt_of_le hbw (uh BB).size
   go_wp2_with fail
   clear d0 d1 d2 d3 d4 d5 d6 d7 d8 d9 d10
   obtain ⟨q,hq⟩:∃ q,ZJ (st,be,rk,my,gu,lo,hi,hd,ca,ut,wk)=q:=⟨_,rfl⟩
   have Hq:=Z9 hq
   clear hq
   have hba:Below wr.heap.size wr (wr.alloc (.cells (I11 st be rk my gu lo hi hd ca ut wk) 39)):=ba _ _
   replace BB:=bt BB hba
   clear hba
   refine (VY st be rk my gu lo hi hd ca ut wk _).mono ?_
   rw [uh Hq]
   rintro e w1 ⟨rfl,hb⟩
   replace BB:=bt BB hb
   clear hb
   cases q
   ·go_wp2_with fail
    go_ret
    exact ⟨Z5 (uh HN (uh Hq)).symm,uh BB⟩
   ·go_wp2_with fail
    go_roundw
    case rel=>exact ⟨k+1,by omega,by go_num,uh HU (uh Hq),uh BB⟩
    case measure=>exact ms
  ·obtain rfl:k=ss.length:=by omega
   go_wp2_with fail
   go_ret
   exact ⟨Z5 (uh Hst).symm,uh BB⟩
theorem Lq  {ss:List Z3} {R n gc:Nat} {ga:Option Addr} (h:Wy w v ss) (hc0:w.cell? ⟨R,0,none⟩=some (.slice ga n gc)) (hR:R<w.heap.size):Calls Tryz.prog 110 #[v,.func (Fn.func 215) #[] #[.pointer (some ⟨R,0,none⟩)]] w fun e w'=>e= .returned (.bool (Yy (XG n) ss ss.length))/\Below w.heap.size w w':=by
 obtain ⟨a,cap,rfl,hc,hm,hr⟩:=h
 have Hr:=Z9 hr
 clear hr
 have HC:=Z9 hc0
 clear hc0
 go_enter Tryz.func110,Tryz.ntmps110
 go_wp2_with fail
 go_loopw [9] (fun i wr=> ∃ k:Nat,k<=ss.length/\i= .int .i64 k/\Yy (XG n) ss k=true/\Below w.heap.size w wr) (fun i _=>ss.length-(intOf i).toNat)
 case atStart=>exact ⟨0,Nat.zero_le _,rfl,rfl,Below.refl _ _⟩
 case round=>
  obtain ⟨k,hk,rfl,hst,hb0⟩:=hrel
  have Hst:=Z9 hst
  have BB:=Z9 hb0
  by_cases hlt:k<ss.length
  ·have hlt1:(k:Int)<(ss.length:Int):=by omega
   rcases uh Hr with e0 | ⟨b,off,rfl,hbw,hcl⟩
   ·rw [e0] at hlt;simp at hlt
   obtain ⟨d0,d1,d2,d3,d4,d5,d6,d7,d8,d9,d10⟩:=ZB hcl hlt
   rw [<-hb0.cell (p:=⟨b,off+k*11,none⟩) hbw] at d0
   rw [<-hb0.cell (p:=⟨b,off+k*11+1,none⟩) hbw] at d1
   rw [<-hb0.cell (p:=⟨b,off+k*11+2,none⟩) hbw] at d2
   rw [<-hb0.cell (p:=⟨b,off+k*11+3,none⟩) hbw] at d3
   rw [<-hb0.cell (p:=⟨b,off+k*11+4,none⟩) hbw] at d4
   rw [<-hb0.cell (p:=⟨b,off+k*11+5,none⟩) hbw] at d5
   rw [<-hb0.cell (p:=⟨b,off+k*11+6,none⟩) hbw] at d6
   rw [<-hb0.cell (p:=⟨b,off+k*11+7,none⟩) hbw] at d7
   rw [<-hb0.cell (p:=⟨b,off+k*11+8,none⟩) hbw] at d8
   rw [<-hb0.cell (p:=⟨b,off+k*11+9,none⟩) hbw] at d9
   rw [<-hb0.cell (p:=⟨b,off+k*11+10,none⟩) hbw] at d10
   have HU:=Z9 (fun hh=>Rh (p:=(XG n)) (xs:=ss) (k:=k) hst hh)
   have HN:=Z9 (fun hh=>Rg (p:=(XG n)) (xs:=ss) hlt hh)
   clear hcl hst hb0
   generalize Z8 ss k=s at *
   obtain ⟨st,be,rk,my,gu,lo,hi,hd,ca,ut,wk⟩:=s
   simp only at d0 d1 d2 d3 d4 d5 d6 d7 d8 d9 d10
   have hbr:b<wr.heap.size:=Nat.lt_of_lt_of_le hbw (uh BB).size
   go_wp2_with fail
   clear d0 d1 d2 d3 d4 d5 d6 d7 d8 d9 d10
   obtain ⟨q,hq⟩:∃ q,(XG n) (st,be,rk,my,gu,lo,hi,hd,ca,ut,wk)=q:=⟨_,rfl⟩
   have Hq:=Z9 hq
   clear hq
   have hba:Below wr.heap.size wr (wr.alloc (.cells (I11 st be rk my gu lo hi hd ca ut wk) 39)):=ba _ _
   replace BB:=bt BB hba
   clear hba
   refine (NA st be rk my gu lo hi hd ca ut wk R ga n gc _ (((uh BB).cell (p:=⟨R,0,none⟩) hR).trans (uh HC)) (Nat.lt_of_lt_of_le hR (uh BB).size)).mono ?_
   rw [uh Hq]
   rintro e w1 ⟨rfl,hb⟩
   replace BB:=bt BB hb
   clear hb
   cases q
   ·go_wp2_with fail
    go_ret
    exact ⟨Z5 (uh HN (uh Hq)).symm,uh BB⟩
   ·go_wp2_with fail
    go_roundw
    case rel=>exact ⟨k+1,by omega,by go_num,uh HU (uh Hq),uh BB⟩
    case measure=>exact ms
  ·obtain rfl:k=ss.length:=by omega
   go_wp2_with fail
   go_ret
   exact ⟨Z5 (uh Hst).symm,uh BB⟩
theorem I6  {ss:List Yq} (h:VI w v ss):Calls Tryz.prog 217 #[v,.func (Fn.func 218) #[] #[]] w fun e w'=>e= .returned (.bool (Yy Wu ss ss.length))/\Below w.heap.size w w':=by
 obtain ⟨a,cap,rfl,hc,hm,hr⟩:=h
 have Hr:=Z9 hr
 clear hr
 go_enter Tryz.func217,Tryz.ntmps217
 go_wp2_with fail
 go_loopw [9] (fun i wr=> ∃ k:Nat,k<=ss.length/\i= .int .i64 k/\Yy Wu ss k=true/\Below w.heap.size w wr) (fun i _=>ss.length-(intOf i).toNat)
 case atStart=>exact ⟨0,Nat.zero_le _,rfl,rfl,Below.refl _ _⟩
 case round=>
  obtain ⟨k,hk,rfl,hst,hb0⟩:=hrel
  have Hst:=Z9 hst
  have BB:=Z9 hb0
  by_cases hlt:k<ss.length
  ·have hlt1:(k:Int)<(ss.length:Int):=by omega
   rcases uh Hr with e0 | ⟨b,off,rfl,hbw,hcl⟩
   ·rw [e0] at hlt;simp at hlt
   obtain ⟨d0,d1,d2⟩:=Zi hcl hlt
   rw [<-hb0.cell (p:=⟨b,off+k*3,none⟩) hbw] at d0
   rw [<-hb0.cell (p:=⟨b,off+k*3+1,none⟩) hbw] at d1
   rw [<-hb0.cell (p:=⟨b,off+k*3+2,none⟩) hbw] at d2
   have HU:=Z9 (fun hh=>Rh (p:=Wu) (xs:=ss) (k:=k) hst hh)
   have HN:=Z9 (fun hh=>Rg (p:=Wu) (xs:=ss) hlt hh)
   clear hcl hst hb0
   generalize Z8 ss k=s at *
   obtain ⟨op,who,mk⟩:=s
   simp only at d0 d1 d2
   have hbr:b<wr.heap.size:=Nat.lt_of_lt_of_le hbw (uh BB).size
   go_wp2_with fail
   clear d0 d1 d2
   obtain ⟨q,hq⟩:∃ q,Wu (op,who,mk)=q:=⟨_,rfl⟩
   have Hq:=Z9 hq
   clear hq
   have hba:Below wr.heap.size wr (wr.alloc (.cells #[.bool op,.int .i64 who,.int .i64 mk] 53)):=ba _ _
   replace BB:=bt BB hba
   clear hba
   refine (JL op who mk _).mono ?_
   rw [uh Hq]
   rintro e w1 ⟨rfl,hb⟩
   replace BB:=bt BB hb
   clear hb
   cases q
   ·go_wp2_with fail
    go_ret
    exact ⟨Z5 (uh HN (uh Hq)).symm,uh BB⟩
   ·go_wp2_with fail
    go_roundw
    case rel=>exact ⟨k+1,by omega,by go_num,uh HU (uh Hq),uh BB⟩
    case measure=>exact ms
  ·obtain rfl:k=ss.length:=by omega
   go_wp2_with fail
   go_ret
   exact ⟨Z5 (uh Hst).symm,uh BB⟩
theorem Lh  {ss:List Z3} {R:Nat} {bn:Int} (h:Wy w v ss) (hl:ss.length<=1000) (hc0:w.cell? ⟨R,0,none⟩=some (.int .i64 bn)) (hR:R<w.heap.size):Calls Tryz.prog 225 #[v,.func (Fn.func 226) #[] #[.pointer (some ⟨R,0,none⟩)]] w fun e w'=> ∃ v',e= .returned v'/\NumsAt w.heap.size w' v' (ZS (atB bn) ss ss.length)/\Below w.heap.size w w':=by
 obtain ⟨a,cap,rfl,hc,hm,hr⟩:=h
 have Hr:=Z9 hr
 clear hr
 have HC:=Z9 hc0
 clear hc0
 go_enter Tryz.func225,Tryz.ntmps225
 go_wp2_with fail
 go_loopw [5,11] (fun l i wr=> ∃ k:Nat,k<=ss.length/\i= .int .i64 k/\NumsAt w.heap.size wr l (ZS (atB bn) ss k)/\Below w.heap.size w wr) (fun _ i _=>ss.length-(intOf i).toNat)
 case atStart=>exact ⟨0,Nat.zero_le _,rfl,Y8 rfl (Nat.le_refl _),(ba _ _)⟩
 case round=>
  obtain ⟨k,hk,rfl,hln,hb0⟩:=hrel
  obtain ⟨la,lc,rfl⟩:=RecAt.shape hln
  have HL:=Z9 hln
  have BB:=Z9 hb0
  have hfl:=Wb (atB bn) ss k
  clear hln
  by_cases hlt:k<ss.length
  ·have hlt1:(k:Int)<(ss.length:Int):=by omega
   rcases uh Hr with e0 | ⟨b,off,rfl,hbw,hcl⟩
   ·rw [e0] at hlt;simp at hlt
   obtain ⟨d0,d1,d2,d3,d4,d5,d6,d7,d8,d9,d10⟩:=ZB hcl hlt
   rw [<-hb0.cell (p:=⟨b,off+k*11,none⟩) hbw] at d0
   rw [<-hb0.cell (p:=⟨b,off+k*11+1,none⟩) hbw] at d1
   rw [<-hb0.cell (p:=⟨b,off+k*11+2,none⟩) hbw] at d2
   rw [<-hb0.cell (p:=⟨b,off+k*11+3,none⟩) hbw] at d3
   rw [<-hb0.cell (p:=⟨b,off+k*11+4,none⟩) hbw] at d4
   rw [<-hb0.cell (p:=⟨b,off+k*11+5,none⟩) hbw] at d5
   rw [<-hb0.cell (p:=⟨b,off+k*11+6,none⟩) hbw] at d6
   rw [<-hb0.cell (p:=⟨b,off+k*11+7,none⟩) hbw] at d7
   rw [<-hb0.cell (p:=⟨b,off+k*11+8,none⟩) hbw] at d8
   rw [<-hb0.cell (p:=⟨b,off+k*11+9,none⟩) hbw] at d9
   rw [<-hb0.cell (p:=⟨b,off+k*11+10,none⟩) hbw] at d10
   have HY:=Z9 (fun hh=>YE (p:=(atB bn)) (xs:=ss) (k:=k) hh)
   have HN:=Z9 (fun hh=>Yb (p:=(atB bn)) (xs:=ss) (k:=k) hh)
   clear hcl hb0
   generalize Z8 ss k=s at *
   obtain ⟨st,be,rk,my,gu,lo,hi,hd,ca,ut,wk⟩:=s
   simp only at d0 d1 d2 d3 d4 d5 d6 d7 d8 d9 d10
   have hbr:b<wr.heap.size:=Nat.lt_of_lt_of_le hbw (uh BB).size
   go_wp2_with fail
   clear d0 d1 d2 d3 d4 d5 d6 d7 d8 d9 d10
   obtain ⟨q,hq⟩:∃ q,(atB bn) (st,be,rk,my,gu,lo,hi,hd,ca,ut,wk)=q:=⟨_,rfl⟩
   have Hq:=Z9 hq
   clear hq
   have hba:Below wr.heap.size wr (wr.alloc (.cells (I11 st be rk my gu lo hi hd ca ut wk) 39)):=ba _ _
   replace BB:=bt BB hba
   replace HL:=Z9 (RecAt.later (uh HL) hba)
   clear hba
   refine (Mm st be rk my gu lo hi hd ca ut wk bn R _ (((uh BB).cell (p:=⟨R,0,none⟩) hR).trans (uh HC)) (Nat.lt_of_lt_of_le hR (uh BB).size)).mono ?_
   rw [uh Hq]
   rintro e w1 ⟨rfl,hb⟩
   replace BB:=bt BB hb
   replace HL:=Z9 (RecAt.later (uh HL) hb)
   clear hb
   cases q
   ·go_wp2_with fail
    go_roundw
    case rel=>exact ⟨k+1,by omega,by go_num,by rw [uh HN (uh Hq)];exact uh HL,uh BB⟩
    case measure=>exact ms
   ·have hsx:=(uh BB).size
    go_wp2_with (at_builtin;refine ZN tyN rfl (.tmp 19) (.tmp 21) 192 Tryz.underlying192 rfl w.heap.size _ _ (ZS (atB bn) ss k) [(k:Int)] rfl rfl (RecAt.later (uh HL) ((ba _ _))) (V9 (k:Int) rfl (Nat.le_refl _) (by omega)) (by simp;omega) (by simp;omega) ?_;intro u9 w9 hp9 hg9 hat9;have HP9:=Z9 hp9;have HG9:=Z9 hg9;clear hp9 hg9 hat9)
    have hgo:∀ i,(Value.slice la (ZS (atB bn) ss k).length lc).ownBlock=some i->w.heap.size<=i:=fun i e=>(RecAt.lt (uh HL) e).1
    have hb9:Below w.heap.size w1 w9:=((Below.refl _ _).alloc hsx _).trans ((Below.refl _ _).grown (uh HG9) (by simp;omega) hgo)
    have hb8:=(uh BB).trans hb9
    go_wp2_with fail
    go_roundw
    case rel=>exact ⟨k+1,by omega,by go_num,by rw [uh HY (uh Hq)];exact uh HP9,hb8⟩
    case measure=>exact ms
  ·obtain rfl:k=ss.length:=by omega
   go_wp2_with fail
   go_ret
   exact ⟨_,rfl,uh HL,uh BB⟩
theorem Po  {ss:List Z3} {R:Nat} {bn:Int} (h:Wy w v ss) (hl:ss.length<=1000) (hc0:w.cell? ⟨R,0,none⟩=some (.int .i64 bn)) (hR:R<w.heap.size):Calls Tryz.prog 225 #[v,.func (Fn.func 228) #[] #[.pointer (some ⟨R,0,none⟩)]] w fun e w'=> ∃ v',e= .returned v'/\NumsAt w.heap.size w' v' (ZS (Zl bn) ss ss.length)/\Below w.heap.size w w':=by
 obtain ⟨a,cap,rfl,hc,hm,hr⟩:=h
 have Hr:=Z9 hr
 clear hr
 have HC:=Z9 hc0
 clear hc0
 go_enter Tryz.func225,Tryz.ntmps225
 go_wp2_with fail
 go_loopw [5,11] (fun l i wr=> ∃ k:Nat,k<=ss.length/\i= .int .i64 k/\NumsAt w.heap.size wr l (ZS (Zl bn) ss k)/\Below w.heap.size w wr) (fun _ i _=>ss.length-(intOf i).toNat)
 case atStart=>exact ⟨0,Nat.zero_le _,rfl,Y8 rfl (Nat.le_refl _),(ba _ _)⟩
 case round=>
  obtain ⟨k,hk,rfl,hln,hb0⟩:=hrel
  obtain ⟨la,lc,rfl⟩:=RecAt.shape hln
  have HL:=Z9 hln
  have BB:=Z9 hb0
  have hfl:=Wb (Zl bn) ss k
  clear hln
  by_cases hlt:k<ss.length
  ·have hlt1:(k:Int)<(ss.length:Int):=by omega
   rcases uh Hr with e0 | ⟨b,off,rfl,hbw,hcl⟩
   ·rw [e0] at hlt;simp at hlt
   obtain ⟨d0,d1,d2,d3,d4,d5,d6,d7,d8,d9,d10⟩:=ZB hcl hlt
   rw [<-hb0.cell (p:=⟨b,off+k*11,none⟩) hbw] at d0
   rw [<-hb0.cell (p:=⟨b,off+k*11+1,none⟩) hbw] at d1
   rw [<-hb0.cell (p:=⟨b,off+k*11+2,none⟩) hbw] at d2
   rw [<-hb0.cell (p:=⟨b,off+k*11+3,none⟩) hbw] at d3
   rw [<-hb0.cell (p:=⟨b,off+k*11+4,none⟩) hbw] at d4
   rw [<-hb0.cell (p:=⟨b,off+k*11+5,none⟩) hbw] at d5
   rw [<-hb0.cell (p:=⟨b,off+k*11+6,none⟩) hbw] at d6
   rw [<-hb0.cell (p:=⟨b,off+k*11+7,none⟩) hbw] at d7
   rw [<-hb0.cell (p:=⟨b,off+k*11+8,none⟩) hbw] at d8
   rw [<-hb0.cell (p:=⟨b,off+k*11+9,none⟩) hbw] at d9
   rw [<-hb0.cell (p:=⟨b,off+k*11+10,none⟩) hbw] at d10
   have HY:=Z9 (fun hh=>YE (p:=(Zl bn)) (xs:=ss) (k:=k) hh)
   have HN:=Z9 (fun hh=>Yb (p:=(Zl bn)) (xs:=ss) (k:=k) hh)
   clear hcl hb0
   generalize Z8 ss k=s at *
   obtain ⟨st,be,rk,my,gu,lo,hi,hd,ca,ut,wk⟩:=s
   simp only at d0 d1 d2 d3 d4 d5 d6 d7 d8 d9 d10
   have hbr:b<wr.heap.size:=Nat.lt_of_lt_of_le hbw (uh BB).size
   go_wp2_with fail
   clear d0 d1 d2 d3 d4 d5 d6 d7 d8 d9 d10
   obtain ⟨q,hq⟩:∃ q,(Zl bn) (st,be,rk,my,gu,lo,hi,hd,ca,ut,wk)=q:=⟨_,rfl⟩
   have Hq:=Z9 hq
   clear hq
   have hba:Below wr.heap.size wr (wr.alloc (.cells (I11 st be rk my gu lo hi hd ca ut wk) 39)):=ba _ _
   replace BB:=bt BB hba
   replace HL:=Z9 (RecAt.later (uh HL) hba)
   clear hba
   refine (PW st be rk my gu lo hi hd ca ut wk bn R _ (((uh BB).cell (p:=⟨R,0,none⟩) hR).trans (uh HC)) (Nat.lt_of_lt_of_le hR (uh BB).size)).mono ?_
   rw [uh Hq]
   rintro e w1 ⟨rfl,hb⟩
   replace BB:=bt BB hb
   replace HL:=Z9 (RecAt.later (uh HL) hb)
   clear hb
   cases q
   ·go_wp2_with fail
    go_roundw
    case rel=>exact ⟨k+1,by omega,by go_num,by rw [uh HN (uh Hq)];exact uh HL,uh BB⟩
    case measure=>exact ms
   ·have hsx:=(uh BB).size
    go_wp2_with (at_builtin;refine ZN tyN rfl (.tmp 19) (.tmp 21) 192 Tryz.underlying192 rfl w.heap.size _ _ (ZS (Zl bn) ss k) [(k:Int)] rfl rfl (RecAt.later (uh HL) ((ba _ _))) (V9 (k:Int) rfl (Nat.le_refl _) (by omega)) (by simp;omega) (by simp;omega) ?_;intro u9 w9 hp9 hg9 hat9;have HP9:=Z9 hp9;have HG9:=Z9 hg9;clear hp9 hg9 hat9)
    have hgo:∀ i,(Value.slice la (ZS (Zl bn) ss k).length lc).ownBlock=some i->w.heap.size<=i:=fun i e=>(RecAt.lt (uh HL) e).1
    have hb9:Below w.heap.size w1 w9:=((Below.refl _ _).alloc hsx _).trans ((Below.refl _ _).grown (uh HG9) (by simp;omega) hgo)
    have hb8:=(uh BB).trans hb9
    go_wp2_with fail
    go_roundw
    case rel=>exact ⟨k+1,by omega,by go_num,by rw [uh HY (uh Hq)];exact uh HP9,hb8⟩
    case measure=>exact ms
  ·obtain rfl:k=ss.length:=by omega
   go_wp2_with fail
   go_ret
   exact ⟨_,rfl,uh HL,uh BB⟩
theorem NH  {ss:List Yq} (h:VI w v ss) (hl:ss.length<=1000):Calls Tryz.prog 219 #[v,.func (Fn.func 173) #[] #[]] w fun e w'=> ∃ v',e= .returned v'/\NumsAt w.heap.size w' v' (ZS T0 ss ss.length)/\Below w.heap.size w w':=by
 obtain ⟨a,cap,rfl,hc,hm,hr⟩:=h
 have Hr:=Z9 hr
 clear hr
 go_enter Tryz.func219,Tryz.ntmps219
 go_wp2_with fail
 go_loopw [5,11] (fun l i wr=> ∃ k:Nat,k<=ss.length/\i= .int .i64 k/\NumsAt w.heap.size wr l (ZS T0 ss k)/\Below w.heap.size w wr) (fun _ i _=>ss.length-(intOf i).toNat)
 case atStart=>exact ⟨0,Nat.zero_le _,rfl,Y8 rfl (Nat.le_refl _),(ba _ _)⟩
 case round=>
  obtain ⟨k,hk,rfl,hln,hb0⟩:=hrel
  obtain ⟨la,lc,rfl⟩:=RecAt.shape hln
  have HL:=Z9 hln
  have BB:=Z9 hb0
  have hfl:=Wb T0 ss k
  clear hln
  by_cases hlt:k<ss.length
  ·have hlt1:(k:Int)<(ss.length:Int):=by omega
   rcases uh Hr with e0 | ⟨b,off,rfl,hbw,hcl⟩
   ·rw [e0] at hlt;simp at hlt
   obtain ⟨d0,d1,d2⟩:=Zi hcl hlt
   rw [<-hb0.cell (p:=⟨b,off+k*3,none⟩) hbw] at d0
   rw [<-hb0.cell (p:=⟨b,off+k*3+1,none⟩) hbw] at d1
   rw [<-hb0.cell (p:=⟨b,off+k*3+2,none⟩) hbw] at d2
   have HY:=Z9 (fun hh=>YE (p:=T0) (xs:=ss) (k:=k) hh)
   have HN:=Z9 (fun hh=>Yb (p:=T0) (xs:=ss) (k:=k) hh)
   clear hcl hb0
   generalize Z8 ss k=s at *
   obtain ⟨op,who,mk⟩:=s
   simp only at d0 d1 d2
   have hbr:b<wr.heap.size:=Nat.lt_of_lt_of_le hbw (uh BB).size
   go_wp2_with fail
   clear d0 d1 d2
   obtain ⟨q,hq⟩:∃ q,T0 (op,who,mk)=q:=⟨_,rfl⟩
   have Hq:=Z9 hq
   clear hq
   have hba:Below wr.heap.size wr (wr.alloc (.cells #[.bool op,.int .i64 who,.int .i64 mk] 53)):=ba _ _
   replace BB:=bt BB hba
   replace HL:=Z9 (RecAt.later (uh HL) hba)
   clear hba
   refine ck (Calls.bool_of (Ow op who mk _) (uh Hq)) fun w1 hb=> ?_
   replace BB:=bt BB hb
   replace HL:=Z9 (RecAt.later (uh HL) hb)
   clear hb
   cases q
   ·go_wp2_with fail
    go_roundw
    case rel=>exact ⟨k+1,by omega,by go_num,by rw [uh HN (uh Hq)];exact uh HL,uh BB⟩
    case measure=>exact ms
   ·have hsx:=(uh BB).size
    go_wp2_with (at_builtin;refine ZN tyN rfl (.tmp 19) (.tmp 21) 192 Tryz.underlying192 rfl w.heap.size _ _ (ZS T0 ss k) [(k:Int)] rfl rfl (RecAt.later (uh HL) ((ba _ _))) (V9 (k:Int) rfl (Nat.le_refl _) (by omega)) (by simp;omega) (by simp;omega) ?_;intro u9 w9 hp9 hg9 hat9;have HP9:=Z9 hp9;have HG9:=Z9 hg9;clear hp9 hg9 hat9)
    have hgo:∀ i,(Value.slice la (ZS T0 ss k).length lc).ownBlock=some i->w.heap.size<=i:=fun i e=>(RecAt.lt (uh HL) e).1
    have hb9:Below w.heap.size w1 w9:=((Below.refl _ _).alloc hsx _).trans ((Below.refl _ _).grown (uh HG9) (by simp;omega) hgo)
    have hb8:=(uh BB).trans hb9
    go_wp2_with fail
    go_roundw
    case rel=>exact ⟨k+1,by omega,by go_num,by rw [uh HY (uh Hq)];exact uh HP9,hb8⟩
    case measure=>exact ms
  ·obtain rfl:k=ss.length:=by omega
   go_wp2_with fail
   go_ret
   exact ⟨_,rfl,uh HL,uh BB⟩
end Go.Proofs.YtffcgajndmhpkaaGreatDoor
