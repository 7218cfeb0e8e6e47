/- Part 11 of what the proof rests on. No condition but those that a theorem names. -/
import Derived.Test.YtnponpamjddpjaaGreatXt04
import Derived.Test.YtnponpamjddpjaaGreatXt09
import Derived.Test.YtnponpamjddpjaaGreatXt10
set_option maxHeartbeats 8000000
set_option maxRecDepth 100000
namespace Go.Proofs.YtnponpamjddpjaaGreat
open Go.ChangeShapes Go.WideShapes Go.ChangeAt Go.RowKit Go.Sort
set_option linter.unusedVariables false
set_option maxRecDepth 100000
variable {w w' w0 w1 w2 w3 w₀ wr W W' X A B C : World} {v v0 v1 v2 v3 v4 u u0 u1 u2 u3 u4 : Value}
def Uu (d:Ys):Bool:=d.1
theorem Q8 (a:Option Addr) (n cap:Nat) (i:Int) (w:World):Calls Tryz.prog 57 #[.slice a n cap,.int .i64 i] w fun e w'=>e= .returned (.bool (WJ n i))/\w'=w:=by
 by_cases h0:0<=i
 ·by_cases h1:i<(n:Int)
  all_goals
   go_enter Tryz.func57,Tryz.ntmps57
   go_wp2_with fail
   go_ret
   exact ⟨Z5 (by unfold WJ;simp [h0,h1]),rfl⟩
 ·go_enter Tryz.func57,Tryz.ntmps57
  go_wp2_with fail
  go_ret
  exact ⟨Z5 (by unfold WJ;simp;omega),rfl⟩
theorem Nk (a:Option Addr) (n cap:Nat) (i:Int) (w:World):Calls Tryz.prog 274 #[.slice a n cap,.int .i64 i] w fun e w'=>e= .returned (.bool (WJ n i))/\w'=w:=by
 by_cases h0:0<=i
 ·by_cases h1:i<(n:Int)
  all_goals
   go_enter Tryz.func274,Tryz.ntmps274
   go_wp2_with fail
   go_ret
   exact ⟨Z5 (by unfold WJ;simp [h0,h1]),rfl⟩
 ·go_enter Tryz.func274,Tryz.ntmps274
  go_wp2_with fail
  go_ret
  exact ⟨Z5 (by unfold WJ;simp;omega),rfl⟩
theorem LC (a:Option Addr) (n cap:Nat) (i:Int) (w:World):Calls Tryz.prog 237 #[.slice a n cap,.int .i64 i] w fun e w'=>e= .returned (.bool (WJ n i))/\w'=w:=by
 by_cases h0:0<=i
 ·by_cases h1:i<(n:Int)
  all_goals
   go_enter Tryz.func237,Tryz.ntmps237
   go_wp2_with fail
   go_ret
   exact ⟨Z5 (by unfold WJ;simp [h0,h1]),rfl⟩
 ·go_enter Tryz.func237,Tryz.ntmps237
  go_wp2_with fail
  go_ret
  exact ⟨Z5 (by unfold WJ;simp;omega),rfl⟩
theorem WB (st be rk my gu lo hi hd ca ut wk:Int) (w:World):Calls Tryz.prog 62 #[.agg #[.int .i64 st,.int .i64 be,.int .i64 rk,.int .i64 my,.int .i64 gu,.int .i64 lo,.int .i64 hi,.int .i64 hd,.int .i64 ca,.int .i64 ut,.int .i64 wk]] w fun e w'=>e= .returned (.bool (st ==0))/\Below w.heap.size w w':=by
 go_enter Tryz.func62,Tryz.ntmps62
 go_wp2_with fail
 go_ret
 exact ⟨rfl,(Below.refl _ _).alloc (Nat.le_refl _) _⟩
theorem JT (st be rk my gu lo hi hd ca ut wk:Int) (w:World):Calls Tryz.prog 202 #[.agg #[.int .i64 st,.int .i64 be,.int .i64 rk,.int .i64 my,.int .i64 gu,.int .i64 lo,.int .i64 hi,.int .i64 hd,.int .i64 ca,.int .i64 ut,.int .i64 wk]] w fun e w'=>e= .returned (.bool (st ==1))/\Below w.heap.size w w':=by
 go_enter Tryz.func202,Tryz.ntmps202
 go_wp2_with fail
 go_ret
 exact ⟨rfl,(Below.refl _ _).alloc (Nat.le_refl _) _⟩
theorem Px (op:Bool) (who mk:Int) (w:World):Calls Tryz.prog 87 #[.agg #[.bool op,.int .i64 who,.int .i64 mk]] w fun e w'=>e= .returned (.bool op)/\Below w.heap.size w w':=by
 go_enter Tryz.func87,Tryz.ntmps87
 go_wp2_with fail
 go_ret
 exact ⟨rfl,(Below.refl _ _).alloc (Nat.le_refl _) _⟩
theorem LB (op:Bool) (who mk:Int) (w:World):Calls Tryz.prog 235 #[.agg #[.bool op,.int .i64 who,.int .i64 mk]] w fun e w'=>e= .returned (.bool (WH (op,who,mk)))/\Below w.heap.size w w':=by
 go_enter Tryz.func235,Tryz.ntmps235
 go_wp2_with fail
 refine (ZX _ _ _ _).mono ?_
 rintro e w' ⟨rfl,h9⟩
 subst w'
 go_wp2_with fail
 go_ret
 exact ⟨rfl,(Below.refl _ _).alloc (Nat.le_refl _) _⟩
theorem FU (st be rk my gu lo hi hd ca ut wk b:Int) (w:World):Calls Tryz.prog 159 #[.agg #[.int .i64 st,.int .i64 be,.int .i64 rk,.int .i64 my,.int .i64 gu,.int .i64 lo,.int .i64 hi,.int .i64 hd,.int .i64 ca,.int .i64 ut,.int .i64 wk],.int .i64 b] w fun e w'=>e= .returned (.bool (atB b (st,be,rk,my,gu,lo,hi,hd,ca,ut,wk)))/\Below w.heap.size w w':=by
 by_cases h2:st=2
 ·subst h2
  go_enter Tryz.func159,Tryz.ntmps159
  go_wp2_with fail
  go_ret
  exact ⟨Z5 (by unfold atB;simp),(Below.refl _ _).alloc (Nat.le_refl _) _⟩
 have n2:(st ==2)=false:=by simpa using h2
 by_cases h3:st=3
 ·subst h3
  go_enter Tryz.func159,Tryz.ntmps159
  go_wp2_with fail
  go_ret
  exact ⟨Z5 (by unfold atB;simp),(Below.refl _ _).alloc (Nat.le_refl _) _⟩
 have n3:(st ==3)=false:=by simpa using h3
 go_enter Tryz.func159,Tryz.ntmps159
 go_wp2_with fail
 go_ret
 exact ⟨Z5 (by unfold atB;simp [n2,n3]),(Below.refl _ _).alloc (Nat.le_refl _) _⟩
theorem MS (st be rk my gu lo hi hd ca ut wk b:Int) (w:World):Calls Tryz.prog 243 #[.agg #[.int .i64 st,.int .i64 be,.int .i64 rk,.int .i64 my,.int .i64 gu,.int .i64 lo,.int .i64 hi,.int .i64 hd,.int .i64 ca,.int .i64 ut,.int .i64 wk],.int .i64 b] w fun e w'=>e= .returned (.bool (Zo b (st,be,rk,my,gu,lo,hi,hd,ca,ut,wk)))/\Below w.heap.size w w':=by
 by_cases h3:st=3
 ·subst h3
  go_enter Tryz.func243,Tryz.ntmps243
  go_wp2_with fail
  go_ret
  exact ⟨Z5 (by unfold Zo;simp),(Below.refl _ _).alloc (Nat.le_refl _) _⟩
 have n3:(st ==3)=false:=by simpa using h3
 go_enter Tryz.func243,Tryz.ntmps243
 go_wp2_with fail
 go_ret
 exact ⟨Z5 (by unfold Zo;simp [n3]),(Below.refl _ _).alloc (Nat.le_refl _) _⟩
theorem NN (st be rk my gu lo hi hd ca ut wk b:Int) (R:Nat) (w:World) (hc:w.cell? ⟨R,0,none⟩=some (.int .i64 b)) (hR:R<w.heap.size):Calls Tryz.prog 158 #[.agg #[.int .i64 st,.int .i64 be,.int .i64 rk,.int .i64 my,.int .i64 gu,.int .i64 lo,.int .i64 hi,.int .i64 hd,.int .i64 ca,.int .i64 ut,.int .i64 wk],.pointer (some ⟨R,0,none⟩)] w fun e w'=>e= .returned (.bool (atB b (st,be,rk,my,gu,lo,hi,hd,ca,ut,wk)))/\Below w.heap.size w w':=by
 have hne:R ≠ w.heap.size:=Nat.ne_of_lt hR
 go_enter Tryz.func158,Tryz.ntmps158
 go_wp2_with fail
 refine (FU st be rk my gu lo hi hd ca ut wk b _).mono ?_
 rintro e w1 ⟨rfl,hb⟩
 have Hb:=Z9 (((Below.refl w.heap.size w).alloc (Nat.le_refl _) _).trans (hb.mono (by simp)))
 clear hb
 go_wp2_with fail
 go_ret
 exact ⟨rfl,uh Hb⟩
theorem QS (st be rk my gu lo hi hd ca ut wk b:Int) (R:Nat) (w:World) (hc:w.cell? ⟨R,0,none⟩=some (.int .i64 b)) (hR:R<w.heap.size):Calls Tryz.prog 242 #[.agg #[.int .i64 st,.int .i64 be,.int .i64 rk,.int .i64 my,.int .i64 gu,.int .i64 lo,.int .i64 hi,.int .i64 hd,.int .i64 ca,.int .i64 ut,.int .i64 wk],.pointer (some ⟨R,0,none⟩)] w fun e w'=>e= .returned (.bool (Zo b (st,be,rk,my,gu,lo,hi,hd,ca,ut,wk)))/\Below w.heap.size w w':=by
 have hne:R ≠ w.heap.size:=Nat.ne_of_lt hR
 go_enter Tryz.func242,Tryz.ntmps242
 go_wp2_with fail
 refine (MS st be rk my gu lo hi hd ca ut wk b _).mono ?_
 rintro e w1 ⟨rfl,hb⟩
 have Hb:=Z9 (((Below.refl w.heap.size w).alloc (Nat.le_refl _) _).trans (hb.mono (by simp)))
 clear hb
 go_wp2_with fail
 go_ret
 exact ⟨rfl,uh Hb⟩
theorem RD (st be rk my gu lo hi hd ca ut wk:Int) (a:Option Addr) (n cap:Nat) (w:World):Calls Tryz.prog 233 #[.agg #[.int .i64 st,.int .i64 be,.int .i64 rk,.int .i64 my,.int .i64 gu,.int .i64 lo,.int .i64 hi,.int .i64 hd,.int .i64 ca,.int .i64 ut,.int .i64 wk],.slice a n cap] w fun e w'=>e= .returned (.bool (XG n (st,be,rk,my,gu,lo,hi,hd,ca,ut,wk)))/\Below w.heap.size w w':=by
 have hx:∀ q:Bool,Calls Tryz.prog 233 #[.agg #[.int .i64 st,.int .i64 be,.int .i64 rk,.int .i64 my,.int .i64 gu,.int .i64 lo,.int .i64 hi,.int .i64 hd,.int .i64 ca,.int .i64 ut,.int .i64 wk],.slice a n cap] w (fun e w'=>e= .returned (.bool q)/\Below w.heap.size w w')->q=XG n (st,be,rk,my,gu,lo,hi,hd,ca,ut,wk)->Calls Tryz.prog 233 #[.agg #[.int .i64 st,.int .i64 be,.int .i64 rk,.int .i64 my,.int .i64 gu,.int .i64 lo,.int .i64 hi,.int .i64 hd,.int .i64 ca,.int .i64 ut,.int .i64 wk],.slice a n cap] w fun e w'=>e= .returned (.bool (XG n (st,be,rk,my,gu,lo,hi,hd,ca,ut,wk)))/\Below w.heap.size w w':=fun q h e=>by rw [<-e];exact h
 by_cases h0:st=0
 ·subst h0
  refine hx true ?_ (by unfold XG;simp)
  go_enter Tryz.func233,Tryz.ntmps233
  go_wp2_with fail
  refine (WB 0 be rk my gu lo hi hd ca ut wk _).mono ?_
  rintro e w1 ⟨rfl,hb⟩
  have Hb:=Z9 (((Below.refl w.heap.size w).alloc (Nat.le_refl _) _).trans (hb.mono (by simp)))
  clear hb
  go_wp2_with fail
  go_ret
  exact ⟨rfl,uh Hb⟩
 have n0:(st ==0)=false:=by simpa using h0
 by_cases h1:gu= -1
 ·subst h1
  refine hx true ?_ (by unfold XG;simp)
  go_enter Tryz.func233,Tryz.ntmps233
  go_wp2_with fail
  refine (WB st be rk my (-1) lo hi hd ca ut wk _).mono ?_
  rw [n0]
  rintro e w1 ⟨rfl,hb⟩
  have c4:w1.cell? ⟨w.heap.size,4,none⟩=some (.int .i64 (-1)):=(hb.cell (p:=⟨w.heap.size,4,none⟩) (by simp)).trans (Z2 _ rfl)
  have Hb:=Z9 (((Below.refl w.heap.size w).alloc (Nat.le_refl _) _).trans (hb.mono (by simp)))
  clear hb
  go_wp2_with fail
  go_ret
  exact ⟨rfl,uh Hb⟩
 have n1:(gu == -1)=false:=by simpa using h1
 refine hx (WJ n gu) ?_ (by unfold XG;simp [n0,n1])
 go_enter Tryz.func233,Tryz.ntmps233
 go_wp2_with fail
 refine (WB st be rk my gu lo hi hd ca ut wk _).mono ?_
 rw [n0]
 rintro e w1 ⟨rfl,hb⟩
 have c4:w1.cell? ⟨w.heap.size,4,none⟩=some (.int .i64 gu):=(hb.cell (p:=⟨w.heap.size,4,none⟩) (by simp)).trans (Z2 _ rfl)
 have Hb:=Z9 (((Below.refl w.heap.size w).alloc (Nat.le_refl _) _).trans (hb.mono (by simp)))
 clear hb
 go_wp2_with fail
 refine (Nk a n cap gu _).mono ?_
 rintro e w2 ⟨rfl,h9⟩
 subst w2
 go_wp2_with fail
 go_ret
 exact ⟨rfl,uh Hb⟩
theorem OS (st be rk my gu lo hi hd ca ut wk:Int) (R:Nat) (a:Option Addr) (n cap:Nat) (w:World) (hc:w.cell? ⟨R,0,none⟩=some (.slice a n cap)) (hR:R<w.heap.size):Calls Tryz.prog 232 #[.agg #[.int .i64 st,.int .i64 be,.int .i64 rk,.int .i64 my,.int .i64 gu,.int .i64 lo,.int .i64 hi,.int .i64 hd,.int .i64 ca,.int .i64 ut,.int .i64 wk],.pointer (some ⟨R,0,none⟩)] w fun e w'=>e= .returned (.bool (XG n (st,be,rk,my,gu,lo,hi,hd,ca,ut,wk)))/\Below w.heap.size w w':=by
 have hne:R ≠ w.heap.size:=Nat.ne_of_lt hR
 go_enter Tryz.func232,Tryz.ntmps232
 go_wp2_with fail
 refine (RD st be rk my gu lo hi hd ca ut wk a n cap _).mono ?_
 rintro e w1 ⟨rfl,hb⟩
 have Hb:=Z9 (((Below.refl w.heap.size w).alloc (Nat.le_refl _) _).trans (hb.mono (by simp)))
 clear hb
 go_wp2_with fail
 go_ret
 exact ⟨rfl,uh Hb⟩
theorem Calls.bool_of {P:Program} {f:FuncId} {args:Array Value} {q q':Bool} (h:Calls P f args w fun e w'=>e= .returned (.bool q)/\Below w.heap.size w w') (e:q=q'):Calls P f args w fun e w'=>e= .returned (.bool q')/\Below w.heap.size w w':=by rw [<-e];exact h
theorem OE (st be rk my gu lo hi hd ca ut wk:Int) {ds:List Ys} (h:VN w v ds):Calls Tryz.prog 134 #[.agg #[.int .i64 st,.int .i64 be,.int .i64 rk,.int .i64 my,.int .i64 gu,.int .i64 lo,.int .i64 hi,.int .i64 hd,.int .i64 ca,.int .i64 ut,.int .i64 wk],v] w fun e w'=>e= .returned (.bool (Xv ds (st,be,rk,my,gu,lo,hi,hd,ca,ut,wk)))/\Below w.heap.size w w':=by
 obtain ⟨a,cap,rfl,hc,hm,hr⟩:=h
 have Hr:=Z9 hr
 clear hr
 by_cases h0:st=0
 ·subst h0
  refine Calls.bool_of (q:=true) ?_ (by unfold Xv;simp)
  go_enter Tryz.func134,Tryz.ntmps134
  go_wp2_with fail
  refine (WB 0 be rk my gu lo hi hd ca ut wk _).mono ?_
  rintro e w1 ⟨rfl,hb⟩
  have Hb:=Z9 (((Below.refl w.heap.size w).alloc (Nat.le_refl _) _).trans (hb.mono (by simp)))
  clear hb
  go_wp2_with fail
  go_ret
  exact ⟨rfl,uh Hb⟩
 have n0:(st ==0)=false:=by simpa using h0
 cases hh:WJ ds.length be
 ·refine Calls.bool_of (q:=false) ?_ (by unfold Xv;simp only [n0,hh];rfl)
  have Hh:=Z9 hh
  clear hh
  go_enter Tryz.func134,Tryz.ntmps134
  go_wp2_with fail
  refine (WB st be rk my gu lo hi hd ca ut wk _).mono ?_
  rw [n0]
  rintro e w1 ⟨rfl,hb⟩
  have c1:w1.cell? ⟨w.heap.size,1,none⟩=some (.int .i64 be):=(hb.cell (p:=⟨w.heap.size,1,none⟩) (by simp)).trans (Z2 _ rfl)
  have Hb:=Z9 (((Below.refl w.heap.size w).alloc (Nat.le_refl _) _).trans (hb.mono (by simp)))
  clear hb
  go_wp2_with fail
  refine (Q8 a ds.length cap be _).mono ?_
  rw [uh Hh]
  rintro e w2 ⟨rfl,h9⟩
  subst w2
  go_wp2_with fail
  go_ret
  exact ⟨rfl,uh Hb⟩
 have hbe:0<=be/\be<(ds.length:Int):=by unfold WJ at hh;simpa using hh
 obtain ⟨j,rfl⟩:∃ j:Nat,be=j:=⟨be.toNat,by omega⟩
 have hj:j<ds.length:=by omega
 have hj1:(j:Int)<(ds.length:Int):=by omega
 rcases uh Hr with e0 | ⟨b,off,rfl,hbw,hcl⟩
 ·rw [e0] at hj;simp at hj
 obtain ⟨t0,t1,t2⟩:=Zk hcl hj
 have hD:Xv ds (st,(j:Int),rk,my,gu,lo,hi,hd,ca,ut,wk)=(st ==1 || ((Z8 ds j).1 && (SQ my j && Wo hd (Z8 ds j).2.2))):=by
  unfold Xv
  simp only [n0,hh,Int.toNat_natCast,Bool.false_or,Bool.true_and]
 have HD:=Z9 hD
 have Hh:=Z9 hh
 clear hD hh hcl Hr
 generalize Z8 ds j=d at *
 obtain ⟨op,who,mk⟩:=d
 simp only at t0 t1 t2
 obtain ⟨qm,hqm⟩:∃ q,SQ my j=q:=⟨_,rfl⟩
 have Hm:=Z9 hqm
 obtain ⟨qb,hqb⟩:∃ q,Wo hd mk=q:=⟨_,rfl⟩
 have Hbd:=Z9 hqb
 clear hqm hqb
 refine Calls.bool_of (q:=(st ==1 || (op && (qm && qb)))) ?_ (by rw [uh HD,uh Hm,uh Hbd])
 clear HD
 go_enter Tryz.func134,Tryz.ntmps134
 go_wp2_with fail
 refine (WB st (j:Int) rk my gu lo hi hd ca ut wk _).mono ?_
 rw [n0]
 rintro e w1 ⟨rfl,hb⟩
 have SB:Hid (Blk w1 w.heap.size 41 #[.int .i64 st,.int .i64 j,.int .i64 rk,.int .i64 my,.int .i64 gu,.int .i64 lo,.int .i64 hi,.int .i64 hd,.int .i64 ca,.int .i64 ut,.int .i64 wk]):=Z9 ((Blk.new w _ _).below hb (by simp))
 have Hb:=Z9 (((Below.refl w.heap.size w).alloc (Nat.le_refl _) _).trans (hb.mono (by simp)))
 rw [<-(uh Hb).cell (p:=⟨b,off+j*3,none⟩) hbw] at t0
 rw [<-(uh Hb).cell (p:=⟨b,off+j*3+1,none⟩) hbw] at t1
 rw [<-(uh Hb).cell (p:=⟨b,off+j*3+2,none⟩) hbw] at t2
 clear hb
 have s1:=(uh SB).cell (i:=1) (v:= .int .i64 j) rfl
 go_wp2_with fail
 refine (Q8 _ ds.length cap (j:Int) _).mono ?_
 rw [uh Hh]
 rintro e w2 ⟨rfl,h9⟩
 subst w2
 clear s1
 have s1:=(uh SB).cell (i:=1) (v:= .int .i64 j) rfl
 have hbw1:b<w1.heap.size:=Nat.lt_of_lt_of_le hbw (uh Hb).size
 have hl0:=(uh SB).lt
 go_upto_region 6 with fail
 clear t0 t1 t2 s1
 replace SB:Hid (Blk (w1.alloc (.cells #[.bool op,.int .i64 who,.int .i64 mk] 55)) w.heap.size 41 #[.int .i64 st,.int .i64 j,.int .i64 rk,.int .i64 my,.int .i64 gu,.int .i64 lo,.int .i64 hi,.int .i64 hd,.int .i64 ca,.int .i64 ut,.int .i64 wk]):=Z9 ((uh SB).alloc _)
 have DB:Hid (Blk (w1.alloc (.cells #[.bool op,.int .i64 who,.int .i64 mk] 55)) w1.heap.size 55 #[.bool op,.int .i64 who,.int .i64 mk]):=Z9 (Blk.new w1 _ _)
 replace Hb:Hid (Below w.heap.size w (w1.alloc (.cells #[.bool op,.int .i64 who,.int .i64 mk] 55))):=Z9 ((uh Hb).alloc (uh Hb).size _)
 generalize w1.alloc (.cells #[.bool op,.int .i64 who,.int .i64 mk] 55)=W at *
 generalize w1.heap.size=db at *
 obtain ⟨s0,s1,s2,s3,s4,s5,s6,s7,s8,s9,s10⟩:=(uh SB).c11
 go_wp2_with fail
 refine (JT st (j:Int) rk my gu lo hi hd ca ut wk _).mono ?_
 rintro e w3 ⟨rfl,hb⟩
 replace SB:=bl SB hb
 replace DB:=bl DB hb
 replace Hb:=Z9 ((uh Hb).trans (hb.mono (uh Hb).size))
 clear hb s0 s1 s2 s3 s4 s5 s6 s7 s8 s9 s10
 by_cases h1:st=1
 ·subst h1
  go_wp2_with fail
  go_ret
  exact ⟨Z5 (by simp),uh Hb⟩
 have n1:(st ==1)=false:=by simpa using h1
 rw [n1]
 have g0:=(uh DB).cell (i:=0) (v:= .bool op) rfl
 have g1:=(uh DB).cell (i:=1) (v:= .int .i64 who) rfl
 have g2:=(uh DB).cell (i:=2) (v:= .int .i64 mk) rfl
 go_wp2_with fail
 refine (Px op who mk _).mono ?_
 rintro e w4 ⟨rfl,hb⟩
 replace SB:=bl SB hb
 replace DB:=bl DB hb
 replace Hb:=Z9 ((uh Hb).trans (hb.mono (uh Hb).size))
 clear hb g0 g1 g2
 cases op
 ·go_wp2_with fail
  go_ret
  exact ⟨Z5 (by simp [h1]),uh Hb⟩
 have s1:=(uh SB).cell (i:=1) (v:= .int .i64 j) rfl
 have s3:=(uh SB).cell (i:=3) (v:= .int .i64 my) rfl
 have s7:=(uh SB).cell (i:=7) (v:= .int .i64 hd) rfl
 have g2:=(uh DB).cell (i:=2) (v:= .int .i64 mk) rfl
 go_wp2_with fail
 refine (U0 my (j:Int) _).mono ?_
 rw [uh Hm]
 rintro e w5 ⟨rfl,h9⟩
 subst w5
 cases qm
 ·go_wp2_with fail
  go_ret
  exact ⟨Z5 (by simp [h1]),uh Hb⟩
 go_wp2_with fail
 refine (Pt hd mk _).mono ?_
 rw [uh Hbd]
 rintro e w6 ⟨rfl,hb⟩
 replace Hb:=Z9 ((uh Hb).trans (hb.mono (uh Hb).size))
 clear hb
 go_wp2_with fail
 go_ret
 exact ⟨Z5 (by simp [h1]),uh Hb⟩
theorem GP  {ss:List Z4} (h:WK w v ss):Calls Tryz.prog 132 #[v,.func (Fn.func 231) #[] #[]] w fun e w'=>e= .returned (.bool (Yy ZE ss ss.length))/\Below w.heap.size w w':=by
 obtain ⟨a,cap,rfl,hc,hm,hr⟩:=h
 have Hr:=Z9 hr
 clear hr
 go_enter Tryz.func132,Tryz.ntmps132
 go_wp2_with fail
 go_loopw [9] (fun i wr=> ∃ k:Nat,k<=ss.length/\i= .int .i64 k/\Yy ZE ss k=true/\Below w.heap.size w wr) (fun i _=>ss.length-(intOf i).toNat)
 case atStart=>exact ⟨0,Nat.zero_le _,rfl,rfl,Below.refl _ _⟩
 case round=>
  obtain ⟨k,hk,rfl,hst,hb0⟩:=hrel
  have Hst:=Z9 hst
  have BB:=Z9 hb0
  by_cases hlt:k<ss.length
  ·have hlt1:(k:Int)<(ss.length:Int):=by omega
   rcases uh Hr with e0 | ⟨b,off,rfl,hbw,hcl⟩
   ·rw [e0] at hlt;simp at hlt
   obtain ⟨d0,d1,d2,d3,d4,d5,d6,d7,d8,d9,d10⟩:=ZD hcl hlt
   rw [<-hb0.cell (p:=⟨b,off+k*11,none⟩) hbw] at d0
   rw [<-hb0.cell (p:=⟨b,off+k*11+1,none⟩) hbw] at d1
   rw [<-hb0.cell (p:=⟨b,off+k*11+2,none⟩) hbw] at d2
   rw [<-hb0.cell (p:=⟨b,off+k*11+3,none⟩) hbw] at d3
   rw [<-hb0.cell (p:=⟨b,off+k*11+4,none⟩) hbw] at d4
   rw [<-hb0.cell (p:=⟨b,off+k*11+5,none⟩) hbw] at d5
   rw [<-hb0.cell (p:=⟨b,off+k*11+6,none⟩) hbw] at d6
   rw [<-hb0.cell (p:=⟨b,off+k*11+7,none⟩) hbw] at d7
   rw [<-hb0.cell (p:=⟨b,off+k*11+8,none⟩) hbw] at d8
   rw [<-hb0.cell (p:=⟨b,off+k*11+9,none⟩) hbw] at d9
   rw [<-hb0.cell (p:=⟨b,off+k*11+10,none⟩) hbw] at d10
   have HU:=Z9 (fun hh=>R7 (p:=ZE) (xs:=ss) (k:=k) hst hh)
   have HN:=Z9 (fun hh=>R6 (p:=ZE) (xs:=ss) hlt hh)
   clear hcl hst hb0
   generalize Z8 ss k=s at *
   obtain ⟨st,be,rk,my,gu,lo,hi,hd,ca,ut,wk⟩:=s
   simp only at d0 d1 d2 d3 d4 d5 d6 d7 d8 d9 d10
   have hbr:b<wr.heap.size:=Nat.lt_of_lt_of_le hbw (uh BB).size
   go_wp2_with fail
   clear d0 d1 d2 d3 d4 d5 d6 d7 d8 d9 d10
   obtain ⟨q,hq⟩:∃ q,ZE (st,be,rk,my,gu,lo,hi,hd,ca,ut,wk)=q:=⟨_,rfl⟩
   have Hq:=Z9 hq
   clear hq
   have hba:Below wr.heap.size wr (wr.alloc (.cells #[.int .i64 st,.int .i64 be,.int .i64 rk,.int .i64 my,.int .i64 gu,.int .i64 lo,.int .i64 hi,.int .i64 hd,.int .i64 ca,.int .i64 ut,.int .i64 wk] 41)):=(Below.refl _ _).alloc (Nat.le_refl _) _
   replace BB:=bt BB hba
   clear hba
   refine (QB st be rk my gu lo hi hd ca ut wk _).mono ?_
   rw [uh Hq]
   rintro e w1 ⟨rfl,hb⟩
   replace BB:=bt BB hb
   clear hb
   cases q
   ·go_wp2_with fail
    go_ret
    exact ⟨Z5 (uh HN (uh Hq)).symm,uh BB⟩
   ·go_wp2_with fail
    go_roundw
    case rel=>exact ⟨k+1,by omega,by go_num,uh HU (uh Hq),uh BB⟩
    case measure=>simp [intOf];omega
  ·obtain rfl:k=ss.length:=by omega
   go_wp2_with fail
   go_ret
   exact ⟨Z5 (uh Hst).symm,uh BB⟩
theorem M0  {ss:List Z4} {R n gc:Nat} {ga:Option Addr} (h:WK w v ss) (hc0:w.cell? ⟨R,0,none⟩=some (.slice ga n gc)) (hR:R<w.heap.size):Calls Tryz.prog 132 #[v,.func (Fn.func 232) #[] #[.pointer (some ⟨R,0,none⟩)]] w fun e w'=>e= .returned (.bool (Yy (XG n) ss ss.length))/\Below w.heap.size w w':=by
 obtain ⟨a,cap,rfl,hc,hm,hr⟩:=h
 have Hr:=Z9 hr
 clear hr
 have HC:=Z9 hc0
 clear hc0
 go_enter Tryz.func132,Tryz.ntmps132
 go_wp2_with fail
 go_loopw [9] (fun i wr=> ∃ k:Nat,k<=ss.length/\i= .int .i64 k/\Yy (XG n) ss k=true/\Below w.heap.size w wr) (fun i _=>ss.length-(intOf i).toNat)
 case atStart=>exact ⟨0,Nat.zero_le _,rfl,rfl,Below.refl _ _⟩
 case round=>
  obtain ⟨k,hk,rfl,hst,hb0⟩:=hrel
  have Hst:=Z9 hst
  have BB:=Z9 hb0
  by_cases hlt:k<ss.length
  ·have hlt1:(k:Int)<(ss.length:Int):=by omega
   rcases uh Hr with e0 | ⟨b,off,rfl,hbw,hcl⟩
   ·rw [e0] at hlt;simp at hlt
   obtain ⟨d0,d1,d2,d3,d4,d5,d6,d7,d8,d9,d10⟩:=ZD hcl hlt
   rw [<-hb0.cell (p:=⟨b,off+k*11,none⟩) hbw] at d0
   rw [<-hb0.cell (p:=⟨b,off+k*11+1,none⟩) hbw] at d1
   rw [<-hb0.cell (p:=⟨b,off+k*11+2,none⟩) hbw] at d2
   rw [<-hb0.cell (p:=⟨b,off+k*11+3,none⟩) hbw] at d3
   rw [<-hb0.cell (p:=⟨b,off+k*11+4,none⟩) hbw] at d4
   rw [<-hb0.cell (p:=⟨b,off+k*11+5,none⟩) hbw] at d5
   rw [<-hb0.cell (p:=⟨b,off+k*11+6,none⟩) hbw] at d6
   rw [<-hb0.cell (p:=⟨b,off+k*11+7,none⟩) hbw] at d7
   rw [<-hb0.cell (p:=⟨b,off+k*11+8,none⟩) hbw] at d8
   rw [<-hb0.cell (p:=⟨b,off+k*11+9,none⟩) hbw] at d9
   rw [<-hb0.cell (p:=⟨b,off+k*11+10,none⟩) hbw] at d10
   have HU:=Z9 (fun hh=>R7 (p:=(XG n)) (xs:=ss) (k:=k) hst hh)
   have HN:=Z9 (fun hh=>R6 (p:=(XG n)) (xs:=ss) hlt hh)
   clear hcl hst hb0
   generalize Z8 ss k=s at *
   obtain ⟨st,be,rk,my,gu,lo,hi,hd,ca,ut,wk⟩:=s
   simp only at d0 d1 d2 d3 d4 d5 d6 d7 d8 d9 d10
   have hbr:b<wr.heap.size:=Nat.lt_of_lt_of_le hbw (uh BB).size
   go_wp2_with fail
   clear d0 d1 d2 d3 d4 d5 d6 d7 d8 d9 d10
   obtain ⟨q,hq⟩:∃ q,(XG n) (st,be,rk,my,gu,lo,hi,hd,ca,ut,wk)=q:=⟨_,rfl⟩
   have Hq:=Z9 hq
   clear hq
   have hba:Below wr.heap.size wr (wr.alloc (.cells #[.int .i64 st,.int .i64 be,.int .i64 rk,.int .i64 my,.int .i64 gu,.int .i64 lo,.int .i64 hi,.int .i64 hd,.int .i64 ca,.int .i64 ut,.int .i64 wk] 41)):=(Below.refl _ _).alloc (Nat.le_refl _) _
   replace BB:=bt BB hba
   clear hba
   refine (OS st be rk my gu lo hi hd ca ut wk R ga n gc _ (((uh BB).cell (p:=⟨R,0,none⟩) hR).trans (uh HC)) (Nat.lt_of_lt_of_le hR (uh BB).size)).mono ?_
   rw [uh Hq]
   rintro e w1 ⟨rfl,hb⟩
   replace BB:=bt BB hb
   clear hb
   cases q
   ·go_wp2_with fail
    go_ret
    exact ⟨Z5 (uh HN (uh Hq)).symm,uh BB⟩
   ·go_wp2_with fail
    go_roundw
    case rel=>exact ⟨k+1,by omega,by go_num,uh HU (uh Hq),uh BB⟩
    case measure=>simp [intOf];omega
  ·obtain rfl:k=ss.length:=by omega
   go_wp2_with fail
   go_ret
   exact ⟨Z5 (uh Hst).symm,uh BB⟩
theorem KY  {ss:List Ys} (h:VN w v ss):Calls Tryz.prog 234 #[v,.func (Fn.func 235) #[] #[]] w fun e w'=>e= .returned (.bool (Yy WH ss ss.length))/\Below w.heap.size w w':=by
 obtain ⟨a,cap,rfl,hc,hm,hr⟩:=h
 have Hr:=Z9 hr
 clear hr
 go_enter Tryz.func234,Tryz.ntmps234
 go_wp2_with fail
 go_loopw [9] (fun i wr=> ∃ k:Nat,k<=ss.length/\i= .int .i64 k/\Yy WH ss k=true/\Below w.heap.size w wr) (fun i _=>ss.length-(intOf i).toNat)
 case atStart=>exact ⟨0,Nat.zero_le _,rfl,rfl,Below.refl _ _⟩
 case round=>
  obtain ⟨k,hk,rfl,hst,hb0⟩:=hrel
  have Hst:=Z9 hst
  have BB:=Z9 hb0
  by_cases hlt:k<ss.length
  ·have hlt1:(k:Int)<(ss.length:Int):=by omega
   rcases uh Hr with e0 | ⟨b,off,rfl,hbw,hcl⟩
   ·rw [e0] at hlt;simp at hlt
   obtain ⟨d0,d1,d2⟩:=Zk hcl hlt
   rw [<-hb0.cell (p:=⟨b,off+k*3,none⟩) hbw] at d0
   rw [<-hb0.cell (p:=⟨b,off+k*3+1,none⟩) hbw] at d1
   rw [<-hb0.cell (p:=⟨b,off+k*3+2,none⟩) hbw] at d2
   have HU:=Z9 (fun hh=>R7 (p:=WH) (xs:=ss) (k:=k) hst hh)
   have HN:=Z9 (fun hh=>R6 (p:=WH) (xs:=ss) hlt hh)
   clear hcl hst hb0
   generalize Z8 ss k=s at *
   obtain ⟨op,who,mk⟩:=s
   simp only at d0 d1 d2
   have hbr:b<wr.heap.size:=Nat.lt_of_lt_of_le hbw (uh BB).size
   go_wp2_with fail
   clear d0 d1 d2
   obtain ⟨q,hq⟩:∃ q,WH (op,who,mk)=q:=⟨_,rfl⟩
   have Hq:=Z9 hq
   clear hq
   have hba:Below wr.heap.size wr (wr.alloc (.cells #[.bool op,.int .i64 who,.int .i64 mk] 55)):=(Below.refl _ _).alloc (Nat.le_refl _) _
   replace BB:=bt BB hba
   clear hba
   refine (LB op who mk _).mono ?_
   rw [uh Hq]
   rintro e w1 ⟨rfl,hb⟩
   replace BB:=bt BB hb
   clear hb
   cases q
   ·go_wp2_with fail
    go_ret
    exact ⟨Z5 (uh HN (uh Hq)).symm,uh BB⟩
   ·go_wp2_with fail
    go_roundw
    case rel=>exact ⟨k+1,by omega,by go_num,uh HU (uh Hq),uh BB⟩
    case measure=>simp [intOf];omega
  ·obtain rfl:k=ss.length:=by omega
   go_wp2_with fail
   go_ret
   exact ⟨Z5 (uh Hst).symm,uh BB⟩
theorem MR  {ss:List Z4} {R:Nat} {bn:Int} (h:WK w v ss) (hl:ss.length<=1000) (hc0:w.cell? ⟨R,0,none⟩=some (.int .i64 bn)) (hR:R<w.heap.size):Calls Tryz.prog 157 #[v,.func (Fn.func 158) #[] #[.pointer (some ⟨R,0,none⟩)]] w fun e w'=> ∃ v',e= .returned v'/\NumsAt w.heap.size w' v' (ZU (atB bn) ss ss.length)/\Below w.heap.size w w':=by
 obtain ⟨a,cap,rfl,hc,hm,hr⟩:=h
 have Hr:=Z9 hr
 clear hr
 have HC:=Z9 hc0
 clear hc0
 go_enter Tryz.func157,Tryz.ntmps157
 go_wp2_with fail
 go_loopw [5,11] (fun l i wr=> ∃ k:Nat,k<=ss.length/\i= .int .i64 k/\NumsAt w.heap.size wr l (ZU (atB bn) ss k)/\Below w.heap.size w wr) (fun _ i _=>ss.length-(intOf i).toNat)
 case atStart=>exact ⟨0,Nat.zero_le _,rfl,Zb rfl (Nat.le_refl _),(Below.refl _ _).alloc (Nat.le_refl _) _⟩
 case round=>
  obtain ⟨k,hk,rfl,hln,hb0⟩:=hrel
  obtain ⟨la,lc,rfl⟩:=RecAt.shape hln
  have HL:=Z9 hln
  have BB:=Z9 hb0
  have hfl:=Wm (atB bn) ss k
  clear hln
  by_cases hlt:k<ss.length
  ·have hlt1:(k:Int)<(ss.length:Int):=by omega
   rcases uh Hr with e0 | ⟨b,off,rfl,hbw,hcl⟩
   ·rw [e0] at hlt;simp at hlt
   obtain ⟨d0,d1,d2,d3,d4,d5,d6,d7,d8,d9,d10⟩:=ZD hcl hlt
   rw [<-hb0.cell (p:=⟨b,off+k*11,none⟩) hbw] at d0
   rw [<-hb0.cell (p:=⟨b,off+k*11+1,none⟩) hbw] at d1
   rw [<-hb0.cell (p:=⟨b,off+k*11+2,none⟩) hbw] at d2
   rw [<-hb0.cell (p:=⟨b,off+k*11+3,none⟩) hbw] at d3
   rw [<-hb0.cell (p:=⟨b,off+k*11+4,none⟩) hbw] at d4
   rw [<-hb0.cell (p:=⟨b,off+k*11+5,none⟩) hbw] at d5
   rw [<-hb0.cell (p:=⟨b,off+k*11+6,none⟩) hbw] at d6
   rw [<-hb0.cell (p:=⟨b,off+k*11+7,none⟩) hbw] at d7
   rw [<-hb0.cell (p:=⟨b,off+k*11+8,none⟩) hbw] at d8
   rw [<-hb0.cell (p:=⟨b,off+k*11+9,none⟩) hbw] at d9
   rw [<-hb0.cell (p:=⟨b,off+k*11+10,none⟩) hbw] at d10
   have HY:=Z9 (fun hh=>YH (p:=(atB bn)) (xs:=ss) (k:=k) hh)
   have HN:=Z9 (fun hh=>Yc (p:=(atB bn)) (xs:=ss) (k:=k) hh)
   clear hcl hb0
   generalize Z8 ss k=s at *
   obtain ⟨st,be,rk,my,gu,lo,hi,hd,ca,ut,wk⟩:=s
   simp only at d0 d1 d2 d3 d4 d5 d6 d7 d8 d9 d10
   have hbr:b<wr.heap.size:=Nat.lt_of_lt_of_le hbw (uh BB).size
   go_wp2_with fail
   clear d0 d1 d2 d3 d4 d5 d6 d7 d8 d9 d10
   obtain ⟨q,hq⟩:∃ q,(atB bn) (st,be,rk,my,gu,lo,hi,hd,ca,ut,wk)=q:=⟨_,rfl⟩
   have Hq:=Z9 hq
   clear hq
   have hba:Below wr.heap.size wr (wr.alloc (.cells #[.int .i64 st,.int .i64 be,.int .i64 rk,.int .i64 my,.int .i64 gu,.int .i64 lo,.int .i64 hi,.int .i64 hd,.int .i64 ca,.int .i64 ut,.int .i64 wk] 41)):=(Below.refl _ _).alloc (Nat.le_refl _) _
   replace BB:=bt BB hba
   replace HL:=Z9 (RecAt.later (uh HL) hba)
   clear hba
   refine (NN st be rk my gu lo hi hd ca ut wk bn R _ (((uh BB).cell (p:=⟨R,0,none⟩) hR).trans (uh HC)) (Nat.lt_of_lt_of_le hR (uh BB).size)).mono ?_
   rw [uh Hq]
   rintro e w1 ⟨rfl,hb⟩
   replace BB:=bt BB hb
   replace HL:=Z9 (RecAt.later (uh HL) hb)
   clear hb
   cases q
   ·go_wp2_with fail
    go_roundw
    case rel=>exact ⟨k+1,by omega,by go_num,by rw [uh HN (uh Hq)];exact uh HL,uh BB⟩
    case measure=>simp [intOf];omega
   ·have hsx:=(uh BB).size
    go_wp2_with (at_builtin;refine ZN tyN rfl (.tmp 19) (.tmp 21) 100 Tryz.underlying100 rfl w.heap.size _ _ (ZU (atB bn) ss k) [(k:Int)] rfl rfl (RecAt.later (uh HL) ((Below.refl _ _).alloc (Nat.le_refl _) _)) (Wk (k:Int) rfl (Nat.le_refl _) (by omega)) (by simp;omega) (by simp;omega) ?_;intro u9 w9 hp9 hg9 hat9;have HP9:=Z9 hp9;have HG9:=Z9 hg9;clear hp9 hg9 hat9)
    have hgo:∀ i,(Value.slice la (ZU (atB bn) ss k).length lc).ownBlock=some i->w.heap.size<=i:=fun i e=>(RecAt.lt (uh HL) e).1
    have hb9:Below w.heap.size w1 w9:=((Below.refl _ _).alloc hsx _).trans ((Below.refl _ _).grown (uh HG9) (by simp;omega) hgo)
    have hb8:=(uh BB).trans hb9
    go_wp2_with fail
    go_roundw
    case rel=>exact ⟨k+1,by omega,by go_num,by rw [uh HY (uh Hq)];exact uh HP9,hb8⟩
    case measure=>simp [intOf];omega
  ·obtain rfl:k=ss.length:=by omega
   go_wp2_with fail
   go_ret
   exact ⟨_,rfl,uh HL,uh BB⟩
theorem Qj  {ss:List Z4} {R:Nat} {bn:Int} (h:WK w v ss) (hl:ss.length<=1000) (hc0:w.cell? ⟨R,0,none⟩=some (.int .i64 bn)) (hR:R<w.heap.size):Calls Tryz.prog 157 #[v,.func (Fn.func 242) #[] #[.pointer (some ⟨R,0,none⟩)]] w fun e w'=> ∃ v',e= .returned v'/\NumsAt w.heap.size w' v' (ZU (Zo bn) ss ss.length)/\Below w.heap.size w w':=by
 obtain ⟨a,cap,rfl,hc,hm,hr⟩:=h
 have Hr:=Z9 hr
 clear hr
 have HC:=Z9 hc0
 clear hc0
 go_enter Tryz.func157,Tryz.ntmps157
 go_wp2_with fail
 go_loopw [5,11] (fun l i wr=> ∃ k:Nat,k<=ss.length/\i= .int .i64 k/\NumsAt w.heap.size wr l (ZU (Zo bn) ss k)/\Below w.heap.size w wr) (fun _ i _=>ss.length-(intOf i).toNat)
 case atStart=>exact ⟨0,Nat.zero_le _,rfl,Zb rfl (Nat.le_refl _),(Below.refl _ _).alloc (Nat.le_refl _) _⟩
 case round=>
  obtain ⟨k,hk,rfl,hln,hb0⟩:=hrel
  obtain ⟨la,lc,rfl⟩:=RecAt.shape hln
  have HL:=Z9 hln
  have BB:=Z9 hb0
  have hfl:=Wm (Zo bn) ss k
  clear hln
  by_cases hlt:k<ss.length
  ·have hlt1:(k:Int)<(ss.length:Int):=by omega
   rcases uh Hr with e0 | ⟨b,off,rfl,hbw,hcl⟩
   ·rw [e0] at hlt;simp at hlt
   obtain ⟨d0,d1,d2,d3,d4,d5,d6,d7,d8,d9,d10⟩:=ZD hcl hlt
   rw [<-hb0.cell (p:=⟨b,off+k*11,none⟩) hbw] at d0
   rw [<-hb0.cell (p:=⟨b,off+k*11+1,none⟩) hbw] at d1
   rw [<-hb0.cell (p:=⟨b,off+k*11+2,none⟩) hbw] at d2
   rw [<-hb0.cell (p:=⟨b,off+k*11+3,none⟩) hbw] at d3
   rw [<-hb0.cell (p:=⟨b,off+k*11+4,none⟩) hbw] at d4
   rw [<-hb0.cell (p:=⟨b,off+k*11+5,none⟩) hbw] at d5
   rw [<-hb0.cell (p:=⟨b,off+k*11+6,none⟩) hbw] at d6
   rw [<-hb0.cell (p:=⟨b,off+k*11+7,none⟩) hbw] at d7
   rw [<-hb0.cell (p:=⟨b,off+k*11+8,none⟩) hbw] at d8
   rw [<-hb0.cell (p:=⟨b,off+k*11+9,none⟩) hbw] at d9
   rw [<-hb0.cell (p:=⟨b,off+k*11+10,none⟩) hbw] at d10
   have HY:=Z9 (fun hh=>YH (p:=(Zo bn)) (xs:=ss) (k:=k) hh)
   have HN:=Z9 (fun hh=>Yc (p:=(Zo bn)) (xs:=ss) (k:=k) hh)
   clear hcl hb0
   generalize Z8 ss k=s at *
   obtain ⟨st,be,rk,my,gu,lo,hi,hd,ca,ut,wk⟩:=s
   simp only at d0 d1 d2 d3 d4 d5 d6 d7 d8 d9 d10
   have hbr:b<wr.heap.size:=Nat.lt_of_lt_of_le hbw (uh BB).size
   go_wp2_with fail
   clear d0 d1 d2 d3 d4 d5 d6 d7 d8 d9 d10
   obtain ⟨q,hq⟩:∃ q,(Zo bn) (st,be,rk,my,gu,lo,hi,hd,ca,ut,wk)=q:=⟨_,rfl⟩
   have Hq:=Z9 hq
   clear hq
   have hba:Below wr.heap.size wr (wr.alloc (.cells #[.int .i64 st,.int .i64 be,.int .i64 rk,.int .i64 my,.int .i64 gu,.int .i64 lo,.int .i64 hi,.int .i64 hd,.int .i64 ca,.int .i64 ut,.int .i64 wk] 41)):=(Below.refl _ _).alloc (Nat.le_refl _) _
   replace BB:=bt BB hba
   replace HL:=Z9 (RecAt.later (uh HL) hba)
   clear hba
   refine (QS st be rk my gu lo hi hd ca ut wk bn R _ (((uh BB).cell (p:=⟨R,0,none⟩) hR).trans (uh HC)) (Nat.lt_of_lt_of_le hR (uh BB).size)).mono ?_
   rw [uh Hq]
   rintro e w1 ⟨rfl,hb⟩
   replace BB:=bt BB hb
   replace HL:=Z9 (RecAt.later (uh HL) hb)
   clear hb
   cases q
   ·go_wp2_with fail
    go_roundw
    case rel=>exact ⟨k+1,by omega,by go_num,by rw [uh HN (uh Hq)];exact uh HL,uh BB⟩
    case measure=>simp [intOf];omega
   ·have hsx:=(uh BB).size
    go_wp2_with (at_builtin;refine ZN tyN rfl (.tmp 19) (.tmp 21) 100 Tryz.underlying100 rfl w.heap.size _ _ (ZU (Zo bn) ss k) [(k:Int)] rfl rfl (RecAt.later (uh HL) ((Below.refl _ _).alloc (Nat.le_refl _) _)) (Wk (k:Int) rfl (Nat.le_refl _) (by omega)) (by simp;omega) (by simp;omega) ?_;intro u9 w9 hp9 hg9 hat9;have HP9:=Z9 hp9;have HG9:=Z9 hg9;clear hp9 hg9 hat9)
    have hgo:∀ i,(Value.slice la (ZU (Zo bn) ss k).length lc).ownBlock=some i->w.heap.size<=i:=fun i e=>(RecAt.lt (uh HL) e).1
    have hb9:Below w.heap.size w1 w9:=((Below.refl _ _).alloc hsx _).trans ((Below.refl _ _).grown (uh HG9) (by simp;omega) hgo)
    have hb8:=(uh BB).trans hb9
    go_wp2_with fail
    go_roundw
    case rel=>exact ⟨k+1,by omega,by go_num,by rw [uh HY (uh Hq)];exact uh HP9,hb8⟩
    case measure=>simp [intOf];omega
  ·obtain rfl:k=ss.length:=by omega
   go_wp2_with fail
   go_ret
   exact ⟨_,rfl,uh HL,uh BB⟩
theorem OY  {ss:List Ys} (h:VN w v ss) (hl:ss.length<=1000):Calls Tryz.prog 236 #[v,.func (Fn.func 87) #[] #[]] w fun e w'=> ∃ v',e= .returned v'/\NumsAt w.heap.size w' v' (ZU Uu ss ss.length)/\Below w.heap.size w w':=by
 obtain ⟨a,cap,rfl,hc,hm,hr⟩:=h
 have Hr:=Z9 hr
 clear hr
 go_enter Tryz.func236,Tryz.ntmps236
 go_wp2_with fail
 go_loopw [5,11] (fun l i wr=> ∃ k:Nat,k<=ss.length/\i= .int .i64 k/\NumsAt w.heap.size wr l (ZU Uu ss k)/\Below w.heap.size w wr) (fun _ i _=>ss.length-(intOf i).toNat)
 case atStart=>exact ⟨0,Nat.zero_le _,rfl,Zb rfl (Nat.le_refl _),(Below.refl _ _).alloc (Nat.le_refl _) _⟩
 case round=>
  obtain ⟨k,hk,rfl,hln,hb0⟩:=hrel
  obtain ⟨la,lc,rfl⟩:=RecAt.shape hln
  have HL:=Z9 hln
  have BB:=Z9 hb0
  have hfl:=Wm Uu ss k
  clear hln
  by_cases hlt:k<ss.length
  ·have hlt1:(k:Int)<(ss.length:Int):=by omega
   rcases uh Hr with e0 | ⟨b,off,rfl,hbw,hcl⟩
   ·rw [e0] at hlt;simp at hlt
   obtain ⟨d0,d1,d2⟩:=Zk hcl hlt
   rw [<-hb0.cell (p:=⟨b,off+k*3,none⟩) hbw] at d0
   rw [<-hb0.cell (p:=⟨b,off+k*3+1,none⟩) hbw] at d1
   rw [<-hb0.cell (p:=⟨b,off+k*3+2,none⟩) hbw] at d2
   have HY:=Z9 (fun hh=>YH (p:=Uu) (xs:=ss) (k:=k) hh)
   have HN:=Z9 (fun hh=>Yc (p:=Uu) (xs:=ss) (k:=k) hh)
   clear hcl hb0
   generalize Z8 ss k=s at *
   obtain ⟨op,who,mk⟩:=s
   simp only at d0 d1 d2
   have hbr:b<wr.heap.size:=Nat.lt_of_lt_of_le hbw (uh BB).size
   go_wp2_with fail
   clear d0 d1 d2
   obtain ⟨q,hq⟩:∃ q,Uu (op,who,mk)=q:=⟨_,rfl⟩
   have Hq:=Z9 hq
   clear hq
   have hba:Below wr.heap.size wr (wr.alloc (.cells #[.bool op,.int .i64 who,.int .i64 mk] 55)):=(Below.refl _ _).alloc (Nat.le_refl _) _
   replace BB:=bt BB hba
   replace HL:=Z9 (RecAt.later (uh HL) hba)
   clear hba
   refine (Calls.bool_of (Px op who mk _) (uh Hq)).mono ?_
   rintro e w1 ⟨rfl,hb⟩
   replace BB:=bt BB hb
   replace HL:=Z9 (RecAt.later (uh HL) hb)
   clear hb
   cases q
   ·go_wp2_with fail
    go_roundw
    case rel=>exact ⟨k+1,by omega,by go_num,by rw [uh HN (uh Hq)];exact uh HL,uh BB⟩
    case measure=>simp [intOf];omega
   ·have hsx:=(uh BB).size
    go_wp2_with (at_builtin;refine ZN tyN rfl (.tmp 19) (.tmp 21) 100 Tryz.underlying100 rfl w.heap.size _ _ (ZU Uu ss k) [(k:Int)] rfl rfl (RecAt.later (uh HL) ((Below.refl _ _).alloc (Nat.le_refl _) _)) (Wk (k:Int) rfl (Nat.le_refl _) (by omega)) (by simp;omega) (by simp;omega) ?_;intro u9 w9 hp9 hg9 hat9;have HP9:=Z9 hp9;have HG9:=Z9 hg9;clear hp9 hg9 hat9)
    have hgo:∀ i,(Value.slice la (ZU Uu ss k).length lc).ownBlock=some i->w.heap.size<=i:=fun i e=>(RecAt.lt (uh HL) e).1
    have hb9:Below w.heap.size w1 w9:=((Below.refl _ _).alloc hsx _).trans ((Below.refl _ _).grown (uh HG9) (by simp;omega) hgo)
    have hb8:=(uh BB).trans hb9
    go_wp2_with fail
    go_roundw
    case rel=>exact ⟨k+1,by omega,by go_num,by rw [uh HY (uh Hq)];exact uh HP9,hb8⟩
    case measure=>simp [intOf];omega
  ·obtain rfl:k=ss.length:=by omega
   go_wp2_with fail
   go_ret
   exact ⟨_,rfl,uh HL,uh BB⟩
end Go.Proofs.YtnponpamjddpjaaGreat
