/- Part 9 of what the proof rests on. No condition but those that a theorem names. -/
import Derived.Test.YtamgfpdahadnfaaGreatDoorXh08
import Derived.Deep.LoopGhost
set_option maxHeartbeats 8000000
set_option maxRecDepth 100000
namespace Go.Proofs.YtamgfpdahadnfaaGreatDoor
open Go.ChangeShapes Go.WideShapes Go.ChangeAt Go.RowKit Go.Sort
set_option linter.unusedVariables false
set_option maxRecDepth 100000
variable {w w' w0 w1 w2 w3 w₀ wr W W' X A B C : World} {v v0 v1 v2 v3 v4 u u0 u1 u2 u3 u4 : Value} {m : Z6}
def SG (d:XQ):Bool:=d.1
theorem Rr (a:Option Addr) (n cap:Nat) (i:Int) (w:World):Calls Tryz.prog 182 #[.slice a n cap,.int .i64 i] w fun e w'=>e= .returned (.bool (WX n i))/\w'=w:=by
 by_cases h0:0<=i
 ·by_cases h1:i<(n:Int)
  all_goals
   go_enter Tryz.func182,Tryz.ntmps182;go_wp2_with fail;go_ret;exact ⟨Z5 (by unfold WX;simp [h0,h1]),rfl⟩
 ·go_enter Tryz.func182,Tryz.ntmps182
  go_wp2_with fail;go_ret;exact ⟨Z5 (by unfold WX;simp;omega),rfl⟩
theorem Jd (a:Option Addr) (n cap:Nat) (i:Int) (w:World):Calls Tryz.prog 185 #[.slice a n cap,.int .i64 i] w fun e w'=>e= .returned (.bool (WX n i))/\w'=w:=by
 by_cases h0:0<=i
 ·by_cases h1:i<(n:Int)
  all_goals
   go_enter Tryz.func185,Tryz.ntmps185;go_wp2_with fail;go_ret;exact ⟨Z5 (by unfold WX;simp [h0,h1]),rfl⟩
 ·go_enter Tryz.func185,Tryz.ntmps185
  go_wp2_with fail;go_ret;exact ⟨Z5 (by unfold WX;simp;omega),rfl⟩
theorem Jc (a:Option Addr) (n cap:Nat) (i:Int) (w:World):Calls Tryz.prog 165 #[.slice a n cap,.int .i64 i] w fun e w'=>e= .returned (.bool (WX n i))/\w'=w:=by
 by_cases h0:0<=i
 ·by_cases h1:i<(n:Int)
  all_goals
   go_enter Tryz.func165,Tryz.ntmps165;go_wp2_with fail;go_ret;exact ⟨Z5 (by unfold WX;simp [h0,h1]),rfl⟩
 ·go_enter Tryz.func165,Tryz.ntmps165
  go_wp2_with fail;go_ret;exact ⟨Z5 (by unfold WX;simp;omega),rfl⟩
theorem Gh (a:Option Addr) (n cap:Nat) (i:Int) (w:World):Calls Tryz.prog 229 #[.slice a n cap,.int .i64 i] w fun e w'=>e= .returned (.bool (WX n i))/\w'=w:=by
 by_cases h0:0<=i
 ·by_cases h1:i<(n:Int)
  all_goals
   go_enter Tryz.func229,Tryz.ntmps229;go_wp2_with fail;go_ret;exact ⟨Z5 (by unfold WX;simp [h0,h1]),rfl⟩
 ·go_enter Tryz.func229,Tryz.ntmps229
  go_wp2_with fail;go_ret;exact ⟨Z5 (by unfold WX;simp;omega),rfl⟩
theorem V0 (st be rk my gu lo hi hd ca ut wk:Int) (w:World):Calls Tryz.prog 164 #[.agg (I11 st be rk my gu lo hi hd ca ut wk)] w fun e w'=>e= .returned (.bool (st ==0))/\Below w.heap.size w w':=by
 go_enter Tryz.func164,Tryz.ntmps164;go_wp2_with fail;go_ret;exact ⟨rfl,(ba _ _)⟩
theorem L6 (st be rk my gu lo hi hd ca ut wk:Int) (w:World):Calls Tryz.prog 126 #[.agg (I11 st be rk my gu lo hi hd ca ut wk)] w fun e w'=>e= .returned (.bool (st ==1))/\Below w.heap.size w w':=by
 go_enter Tryz.func126,Tryz.ntmps126;go_wp2_with fail;go_ret;exact ⟨rfl,(ba _ _)⟩
theorem P9 (op:Bool) (who mk:Int) (w:World):Calls Tryz.prog 143 #[.agg #[.bool op,.int .i64 who,.int .i64 mk]] w fun e w'=>e= .returned (.bool op)/\Below w.heap.size w w':=by
 go_enter Tryz.func143,Tryz.ntmps143;go_wp2_with fail;go_ret;exact ⟨rfl,(ba _ _)⟩
theorem Gg (op:Bool) (who mk:Int) (w:World):Calls Tryz.prog 228 #[.agg #[.bool op,.int .i64 who,.int .i64 mk]] w fun e w'=>e= .returned (.bool (Vy (op,who,mk)))/\Below w.heap.size w w':=by
 go_enter Tryz.func228,Tryz.ntmps228;go_wp2_with fail;refine (Zy _ _ _ _).mono ?_;rintro e w' ⟨rfl,h9⟩;subst w';go_wp2_with fail;go_ret;exact ⟨rfl,(ba _ _)⟩
theorem Ak (st be rk my gu lo hi hd ca ut wk b:Int) (w:World):Calls Tryz.prog 232 #[.agg (I11 st be rk my gu lo hi hd ca ut wk),.int .i64 b] w fun e w'=>e= .returned (.bool (atB b (st,be,rk,my,gu,lo,hi,hd,ca,ut,wk)))/\Below w.heap.size w w':=by
 by_cases h2:st=2
 ·subst h2
  go_enter Tryz.func232,Tryz.ntmps232;go_wp2_with fail;go_ret;exact ⟨Z5 (by unfold atB;simp),(ba _ _)⟩
 have n2:(st ==2)=false:=by simpa using h2
 by_cases h3:st=3
 ·subst h3
  go_enter Tryz.func232,Tryz.ntmps232;go_wp2_with fail;go_ret;exact ⟨Z5 (by unfold atB;simp),(ba _ _)⟩
 have n3:(st ==3)=false:=by simpa using h3
 go_enter Tryz.func232,Tryz.ntmps232;go_wp2_with fail;go_ret;exact ⟨Z5 (by unfold atB;simp [n2,n3]),(ba _ _)⟩
theorem II (st be rk my gu lo hi hd ca ut wk b:Int) (w:World):Calls Tryz.prog 234 #[.agg (I11 st be rk my gu lo hi hd ca ut wk),.int .i64 b] w fun e w'=>e= .returned (.bool (Y0 b (st,be,rk,my,gu,lo,hi,hd,ca,ut,wk)))/\Below w.heap.size w w':=by
 by_cases h3:st=3
 ·subst h3
  go_enter Tryz.func234,Tryz.ntmps234;go_wp2_with fail;go_ret;exact ⟨Z5 (by unfold Y0;simp),(ba _ _)⟩
 have n3:(st ==3)=false:=by simpa using h3
 go_enter Tryz.func234,Tryz.ntmps234;go_wp2_with fail;go_ret;exact ⟨Z5 (by unfold Y0;simp [n3]),(ba _ _)⟩
theorem JF (st be rk my gu lo hi hd ca ut wk b:Int) (R:Nat) (w:World) (hc:w.cell? ⟨R,0,none⟩=some (.int .i64 b)) (hR:R<w.heap.size):Calls Tryz.prog 231 #[.agg (I11 st be rk my gu lo hi hd ca ut wk),.pointer (some ⟨R,0,none⟩)] w fun e w'=>e= .returned (.bool (atB b (st,be,rk,my,gu,lo,hi,hd,ca,ut,wk)))/\Below w.heap.size w w':=by
 have hne:R ≠ w.heap.size:=U5 hR;go_enter Tryz.func231,Tryz.ntmps231;go_wp2_with fail;refine ck (Ak st be rk my gu lo hi hd ca ut wk b _) fun w1 hb=> ?_;have Hb:=Z9 (((Z1 w.heap.size w).alloc (Z2 _) _).trans (hb.mono (by simp)));clear hb;go_wp2_with fail;go_ret;exact ⟨rfl,uh Hb⟩
theorem NK (st be rk my gu lo hi hd ca ut wk b:Int) (R:Nat) (w:World) (hc:w.cell? ⟨R,0,none⟩=some (.int .i64 b)) (hR:R<w.heap.size):Calls Tryz.prog 233 #[.agg (I11 st be rk my gu lo hi hd ca ut wk),.pointer (some ⟨R,0,none⟩)] w fun e w'=>e= .returned (.bool (Y0 b (st,be,rk,my,gu,lo,hi,hd,ca,ut,wk)))/\Below w.heap.size w w':=by
 have hne:R ≠ w.heap.size:=U5 hR;go_enter Tryz.func233,Tryz.ntmps233;go_wp2_with fail;refine ck (II st be rk my gu lo hi hd ca ut wk b _) fun w1 hb=> ?_;have Hb:=Z9 (((Z1 w.heap.size w).alloc (Z2 _) _).trans (hb.mono (by simp)));clear hb;go_wp2_with fail;go_ret;exact ⟨rfl,uh Hb⟩
theorem OE (st be rk my gu lo hi hd ca ut wk:Int) (a:Option Addr) (n cap:Nat) (w:World):Calls Tryz.prog 97 #[.agg (I11 st be rk my gu lo hi hd ca ut wk),.slice a n cap] w fun e w'=>e= .returned (.bool (WM n (st,be,rk,my,gu,lo,hi,hd,ca,ut,wk)))/\Below w.heap.size w w':=by
 have hx:∀ q:Bool,Calls Tryz.prog 97 #[.agg (I11 st be rk my gu lo hi hd ca ut wk),.slice a n cap] w (fun e w'=>e= .returned (.bool q)/\Below w.heap.size w w')->q=WM n (st,be,rk,my,gu,lo,hi,hd,ca,ut,wk)->Calls Tryz.prog 97 #[.agg (I11 st be rk my gu lo hi hd ca ut wk),.slice a n cap] w fun e w'=>e= .returned (.bool (WM n (st,be,rk,my,gu,lo,hi,hd,ca,ut,wk)))/\Below w.heap.size w w':=fun q h e=>by rw [<-e];exact h
 by_cases h0:st=0
 ·subst h0
  refine hx true ?_ (by unfold WM;simp);go_enter Tryz.func97,Tryz.ntmps97;go_wp2_with fail;refine ck (V0 0 be rk my gu lo hi hd ca ut wk _) fun w1 hb=> ?_;have Hb:=Z9 (((Z1 w.heap.size w).alloc (Z2 _) _).trans (hb.mono (by simp)));clear hb;go_wp2_with fail;go_ret;exact ⟨rfl,uh Hb⟩
 have n0:(st ==0)=false:=by simpa using h0
 by_cases h1:gu= -1
 ·subst h1
  refine hx true ?_ (by unfold WM;simp);go_enter Tryz.func97,Tryz.ntmps97;go_wp2_with fail;refine (V0 st be rk my (-1) lo hi hd ca ut wk _).mono ?_;rw [n0];rintro e w1 ⟨rfl,hb⟩;have c4:w1.cell? ⟨w.heap.size,4,none⟩=some (.int .i64 (-1)):=(hb.cell (p:=⟨w.heap.size,4,none⟩) (by simp)).trans (Zg _ rfl);have Hb:=Z9 (((Z1 w.heap.size w).alloc (Z2 _) _).trans (hb.mono (by simp)));clear hb;go_wp2_with fail;go_ret;exact ⟨rfl,uh Hb⟩
 have n1:(gu == -1)=false:=by simpa using h1
 refine hx (WX n gu) ?_ (by unfold WM;simp [n0,n1]);go_enter Tryz.func97,Tryz.ntmps97;go_wp2_with fail;refine (V0 st be rk my gu lo hi hd ca ut wk _).mono ?_;rw [n0];rintro e w1 ⟨rfl,hb⟩;have c4:w1.cell? ⟨w.heap.size,4,none⟩=some (.int .i64 gu):=(hb.cell (p:=⟨w.heap.size,4,none⟩) (by simp)).trans (Zg _ rfl);have Hb:=Z9 (((Z1 w.heap.size w).alloc (Z2 _) _).trans (hb.mono (by simp)));clear hb;go_wp2_with fail;refine ck (Jc a n cap gu _) fun w2 h9=> ?_;subst w2;go_wp2_with fail;go_ret;exact ⟨rfl,uh Hb⟩
theorem K7 (st be rk my gu lo hi hd ca ut wk:Int) (R:Nat) (a:Option Addr) (n cap:Nat) (w:World) (hc:w.cell? ⟨R,0,none⟩=some (.slice a n cap)) (hR:R<w.heap.size):Calls Tryz.prog 226 #[.agg (I11 st be rk my gu lo hi hd ca ut wk),.pointer (some ⟨R,0,none⟩)] w fun e w'=>e= .returned (.bool (WM n (st,be,rk,my,gu,lo,hi,hd,ca,ut,wk)))/\Below w.heap.size w w':=by
 have hne:R ≠ w.heap.size:=U5 hR;go_enter Tryz.func226,Tryz.ntmps226;go_wp2_with fail;refine ck (OE st be rk my gu lo hi hd ca ut wk a n cap _) fun w1 hb=> ?_;have Hb:=Z9 (((Z1 w.heap.size w).alloc (Z2 _) _).trans (hb.mono (by simp)));clear hb;go_wp2_with fail;go_ret;exact ⟨rfl,uh Hb⟩
theorem Calls.bool_of {P:Program} {f:FuncId} {args:Array Value} {q q':Bool} (h:Calls P f args w fun e w'=>e= .returned (.bool q)/\Below w.heap.size w w') (e:q=q'):Calls P f args w fun e w'=>e= .returned (.bool q')/\Below w.heap.size w w':=by rw [<-e];exact h
theorem KI (st be rk my gu lo hi hd ca ut wk:Int) {ds:List XQ} (h:UG w v ds):Calls Tryz.prog 122 #[.agg (I11 st be rk my gu lo hi hd ca ut wk),v] w fun e w'=>e= .returned (.bool (Ww ds (st,be,rk,my,gu,lo,hi,hd,ca,ut,wk)))/\Below w.heap.size w w':=by
 obtain ⟨a,cap,rfl,hc,hm,hr⟩:=h;have Hr:=Z9 hr;clear hr;by_cases h0:st=0
 ·subst h0
  refine Calls.bool_of (q:=true) ?_ (by unfold Ww;simp);go_enter Tryz.func122,Tryz.ntmps122;go_wp2_with fail;refine ck (V0 0 be rk my gu lo hi hd ca ut wk _) fun w1 hb=> ?_;have Hb:=Z9 (((Z1 w.heap.size w).alloc (Z2 _) _).trans (hb.mono (by simp)));clear hb;go_wp2_with fail;go_ret;exact ⟨rfl,uh Hb⟩
 have n0:(st ==0)=false:=by simpa using h0
 cases hh:WX ds.length be
 ·refine Calls.bool_of (q:=false) ?_ (by unfold Ww;simp only [n0,hh];rfl)
  have Hh:=Z9 hh;clear hh;go_enter Tryz.func122,Tryz.ntmps122;go_wp2_with fail;refine (V0 st be rk my gu lo hi hd ca ut wk _).mono ?_;rw [n0];rintro e w1 ⟨rfl,hb⟩;have c1:w1.cell? ⟨w.heap.size,1,none⟩=some (.int .i64 be):=(hb.cell (p:=⟨w.heap.size,1,none⟩) (by simp)).trans (Zg _ rfl);have Hb:=Z9 (((Z1 w.heap.size w).alloc (Z2 _) _).trans (hb.mono (by simp)));clear hb;go_wp2_with fail;refine (Rr a ds.length cap be _).mono ?_;rw [uh Hh];rintro e w2 ⟨rfl,h9⟩;subst w2;go_wp2_with fail;go_ret;exact ⟨rfl,uh Hb⟩
 have hbe:0<=be/\be<(ds.length:Int):=by unfold WX at hh;simpa using hh
 obtain ⟨j,rfl⟩:∃ j:Nat,be=j:=⟨be.toNat,by omega⟩
 have hj:j<ds.length:=by omega
 have hj1:(j:Int)<(ds.length:Int):=by omega
 rcases uh Hr with e0 | ⟨b,off,rfl,hbw,hcl⟩
 ·rw [e0] at hj;simp at hj
 obtain ⟨t0,t1,t2⟩:=Y4 hcl hj
 have hD:Ww ds (st,(j:Int),rk,my,gu,lo,hi,hd,ca,ut,wk)=(st ==1 || ((Z8 ds j).1 && (Vt my j && Vi hd (Z8 ds j).2.2))):=by
  unfold Ww;simp only [n0,hh,Zz,Bool.false_or,Bool.true_and]
 have HD:=Z9 hD;have Hh:=Z9 hh;clear hD hh hcl Hr;generalize Z8 ds j=d at *;obtain ⟨op,who,mk⟩:=d;simp only at t0 t1 t2;obtain ⟨qm,hqm⟩:∃ q,Vt my j=q:=⟨_,rfl⟩
 have Hm:=Z9 hqm;obtain ⟨qb,hqb⟩:∃ q,Vi hd mk=q:=⟨_,rfl⟩
 have Hbd:=Z9 hqb;clear hqm hqb;refine Calls.bool_of (q:=(st ==1 || (op && (qm && qb)))) ?_ (by rw [uh HD,uh Hm,uh Hbd]);clear HD;go_enter Tryz.func122,Tryz.ntmps122;go_wp2_with fail;refine (V0 st (j:Int) rk my gu lo hi hd ca ut wk _).mono ?_;rw [n0];rintro e w1 ⟨rfl,hb⟩;have SB:Hid (Blk w1 w.heap.size 40 (I11 st j rk my gu lo hi hd ca ut wk)):=Z9 ((Blk.new w _ _).below hb (by simp));have Hb:=Z9 (((Z1 w.heap.size w).alloc (Z2 _) _).trans (hb.mono (by simp)));rw [<-(uh Hb).cell (p:=⟨b,off+j*3,none⟩) hbw] at t0;rw [<-(uh Hb).cell (p:=⟨b,off+j*3+1,none⟩) hbw] at t1;rw [<-(uh Hb).cell (p:=⟨b,off+j*3+2,none⟩) hbw] at t2;clear hb;have s1:=(uh SB).cell (i:=1) (v:= .int .i64 j) rfl;go_wp2_with fail;refine (Rr _ ds.length cap (j:Int) _).mono ?_;rw [uh Hh];rintro e w2 ⟨rfl,h9⟩;subst w2;clear s1;have s1:=(uh SB).cell (i:=1) (v:= .int .i64 j) rfl;have hbw1:b<w1.heap.size:=Zf hbw (uh Hb).size;have hl0:=(uh SB).lt;go_upto_region 6 with fail;clear t0 t1 t2 s1;replace SB:Hid (Blk (w1.alloc (.cells #[.bool op,.int .i64 who,.int .i64 mk] 43)) w.heap.size 40 (I11 st j rk my gu lo hi hd ca ut wk)):=Z9 ((uh SB).alloc _);have DB:Hid (Blk (w1.alloc (.cells #[.bool op,.int .i64 who,.int .i64 mk] 43)) w1.heap.size 43 #[.bool op,.int .i64 who,.int .i64 mk]):=Z9 (Blk.new w1 _ _);replace Hb:Hid (Below w.heap.size w (w1.alloc (.cells #[.bool op,.int .i64 who,.int .i64 mk] 43))):=Z9 ((uh Hb).alloc (uh Hb).size _);generalize w1.alloc (.cells #[.bool op,.int .i64 who,.int .i64 mk] 43)=W at *;generalize w1.heap.size=db at *;obtain ⟨s0,s1,s2,s3,s4,s5,s6,s7,s8,s9,s10⟩:=(uh SB).c11;go_wp2_with fail;refine ck (L6 st (j:Int) rk my gu lo hi hd ca ut wk _) fun w3 hb=> ?_;replace SB:=bl SB hb;replace DB:=bl DB hb;replace Hb:=Z9 ((uh Hb).trans (hb.mono (uh Hb).size));clear hb s0 s1 s2 s3 s4 s5 s6 s7 s8 s9 s10;by_cases h1:st=1
 ·subst h1
  go_wp2_with fail;go_ret;exact ⟨Z5 (by simp),uh Hb⟩
 have n1:(st ==1)=false:=by simpa using h1
 rw [n1];have g0:=(uh DB).cell (i:=0) (v:= .bool op) rfl;have g1:=(uh DB).cell (i:=1) (v:= .int .i64 who) rfl;have g2:=(uh DB).cell (i:=2) (v:= .int .i64 mk) rfl;go_wp2_with fail;refine ck (P9 op who mk _) fun w4 hb=> ?_;replace SB:=bl SB hb;replace DB:=bl DB hb;replace Hb:=Z9 ((uh Hb).trans (hb.mono (uh Hb).size));clear hb g0 g1 g2;cases op
 ·go_wp2_with fail
  go_ret;exact ⟨Z5 (by simp [h1]),uh Hb⟩
 have s1:=(uh SB).cell (i:=1) (v:= .int .i64 j) rfl;have s3:=(uh SB).cell (i:=3) (v:= .int .i64 my) rfl;have s7:=(uh SB).cell (i:=7) (v:= .int .i64 hd) rfl;have g2:=(uh DB).cell (i:=2) (v:= .int .i64 mk) rfl;go_wp2_with fail;refine (Wb my (j:Int) _).mono ?_;rw [uh Hm];rintro e w5 ⟨rfl,h9⟩;subst w5;cases qm
 ·go_wp2_with fail
  go_ret;exact ⟨Z5 (by simp [h1]),uh Hb⟩
 go_wp2_with fail;refine (LR hd mk _).mono ?_;rw [uh Hbd];rintro e w6 ⟨rfl,hb⟩;replace Hb:=Z9 ((uh Hb).trans (hb.mono (uh Hb).size));clear hb;go_wp2_with fail;go_ret;exact ⟨Z5 (by simp [h1]),uh Hb⟩
theorem Bs  {ss:List Z3} (h:VA w v ss):Calls Tryz.prog 120 #[v,.func (Fn.func 96) #[] #[]] w fun e w'=>e= .returned (.bool (XZ Zx ss ss.length))/\Below w.heap.size w w':=by
 obtain ⟨a,cap,rfl,hc,hm,hr⟩:=h;have Hr:=Z9 hr;clear hr;go_enter Tryz.func120,Tryz.ntmps120;go_wp2_with fail
 go_loopw [9] (fun i wr=> ∃ k:Nat,k<=ss.length/\i= .int .i64 k/\XZ Zx ss k=true/\Below w.heap.size w wr) (fun i _=>ss.length-(intOf i).toNat)
 case atStart=>exact ⟨0,ZA _,rfl,rfl,Z1 _ _⟩
 case round=>
  obtain ⟨k,hk,rfl,hst,hb0⟩:=hrel;have Hst:=Z9 hst;have BB:=Z9 hb0;by_cases hlt:k<ss.length
  ·have hlt1:(k:Int)<(ss.length:Int):=by omega
   rcases uh Hr with e0 | ⟨b,off,rfl,hbw,hcl⟩
   ·rw [e0] at hlt;simp at hlt
   obtain ⟨d0,d1,d2,d3,d4,d5,d6,d7,d8,d9,d10⟩:=Zw hcl hlt;rw [<-hb0.cell (p:=⟨b,off+k*11,none⟩) hbw] at d0;rw [<-hb0.cell (p:=⟨b,off+k*11+1,none⟩) hbw] at d1;rw [<-hb0.cell (p:=⟨b,off+k*11+2,none⟩) hbw] at d2;rw [<-hb0.cell (p:=⟨b,off+k*11+3,none⟩) hbw] at d3;rw [<-hb0.cell (p:=⟨b,off+k*11+4,none⟩) hbw] at d4;rw [<-hb0.cell (p:=⟨b,off+k*11+5,none⟩) hbw] at d5;rw [<-hb0.cell (p:=⟨b,off+k*11+6,none⟩) hbw] at d6;rw [<-hb0.cell (p:=⟨b,off+k*11+7,none⟩) hbw] at d7;rw [<-hb0.cell (p:=⟨b,off+k*11+8,none⟩) hbw] at d8;rw [<-hb0.cell (p:=⟨b,off+k*11+9,none⟩) hbw] at d9;rw [<-hb0.cell (p:=⟨b,off+k*11+10,none⟩) hbw] at d10;have HU:=Z9 (fun hh=>Pd (p:=Zx) (xs:=ss) (k:=k) hst hh);have HN:=Z9 (fun hh=>Pc (p:=Zx) (xs:=ss) hlt hh);clear hcl hst hb0;generalize Z8 ss k=s at *;obtain ⟨st,be,rk,my,gu,lo,hi,hd,ca,ut,wk⟩:=s;simp only at d0 d1 d2 d3 d4 d5 d6 d7 d8 d9 d10;have hbr:b<wr.heap.size:=Zf hbw (uh BB).size;go_wp2_with fail;clear d0 d1 d2 d3 d4 d5 d6 d7 d8 d9 d10;obtain ⟨q,hq⟩:∃ q,Zx (st,be,rk,my,gu,lo,hi,hd,ca,ut,wk)=q:=⟨_,rfl⟩
   have Hq:=Z9 hq;clear hq;have hba:Below wr.heap.size wr (wr.alloc (.cells (I11 st be rk my gu lo hi hd ca ut wk) 40)):=ba _ _;replace BB:=bt BB hba;clear hba;refine (RZ st be rk my gu lo hi hd ca ut wk _).mono ?_;rw [uh Hq];rintro e w1 ⟨rfl,hb⟩;replace BB:=bt BB hb;clear hb;cases q
   ·go_wp2_with fail
    go_ret;exact ⟨Z5 (uh HN (uh Hq)).symm,uh BB⟩
   ·go_wp2_with fail
    go_roundw
    case rel=>exact ⟨k+1,by omega,by go_num,uh HU (uh Hq),uh BB⟩
    case measure=>exact ms
  ·obtain rfl:k=ss.length:=by omega
   go_wp2_with fail;go_ret;exact ⟨Z5 (uh Hst).symm,uh BB⟩
theorem IS  {ss:List Z3} {R n gc:Nat} {ga:Option Addr} (h:VA w v ss) (hc0:w.cell? ⟨R,0,none⟩=some (.slice ga n gc)) (hR:R<w.heap.size):Calls Tryz.prog 120 #[v,.func (Fn.func 226) #[] #[.pointer (some ⟨R,0,none⟩)]] w fun e w'=>e= .returned (.bool (XZ (WM n) ss ss.length))/\Below w.heap.size w w':=by
 obtain ⟨a,cap,rfl,hc,hm,hr⟩:=h;have Hr:=Z9 hr;clear hr;have HC:=Z9 hc0;clear hc0;go_enter Tryz.func120,Tryz.ntmps120;go_wp2_with fail
 go_loopw [9] (fun i wr=> ∃ k:Nat,k<=ss.length/\i= .int .i64 k/\XZ (WM n) ss k=true/\Below w.heap.size w wr) (fun i _=>ss.length-(intOf i).toNat)
 case atStart=>exact ⟨0,ZA _,rfl,rfl,Z1 _ _⟩
 case round=>
  obtain ⟨k,hk,rfl,hst,hb0⟩:=hrel;have Hst:=Z9 hst;have BB:=Z9 hb0;by_cases hlt:k<ss.length
  ·have hlt1:(k:Int)<(ss.length:Int):=by omega
   rcases uh Hr with e0 | ⟨b,off,rfl,hbw,hcl⟩
   ·rw [e0] at hlt;simp at hlt
   obtain ⟨d0,d1,d2,d3,d4,d5,d6,d7,d8,d9,d10⟩:=Zw hcl hlt;rw [<-hb0.cell (p:=⟨b,off+k*11,none⟩) hbw] at d0;rw [<-hb0.cell (p:=⟨b,off+k*11+1,none⟩) hbw] at d1;rw [<-hb0.cell (p:=⟨b,off+k*11+2,none⟩) hbw] at d2;rw [<-hb0.cell (p:=⟨b,off+k*11+3,none⟩) hbw] at d3;rw [<-hb0.cell (p:=⟨b,off+k*11+4,none⟩) hbw] at d4;rw [<-hb0.cell (p:=⟨b,off+k*11+5,none⟩) hbw] at d5;rw [<-hb0.cell (p:=⟨b,off+k*11+6,none⟩) hbw] at d6;rw [<-hb0.cell (p:=⟨b,off+k*11+7,none⟩) hbw] at d7;rw [<-hb0.cell (p:=⟨b,off+k*11+8,none⟩) hbw] at d8;rw [<-hb0.cell (p:=⟨b,off+k*11+9,none⟩) hbw] at d9;rw [<-hb0.cell (p:=⟨b,off+k*11+10,none⟩) hbw] at d10;have HU:=Z9 (fun hh=>Pd (p:=(WM n)) (xs:=ss) (k:=k) hst hh);have HN:=Z9 (fun hh=>Pc (p:=(WM n)) (xs:=ss) hlt hh);clear hcl hst hb0;generalize Z8 ss k=s at *;obtain ⟨st,be,rk,my,gu,lo,hi,hd,ca,ut,wk⟩:=s;simp only at d0 d1 d2 d3 d4 d5 d6 d7 d8 d9 d10;have hbr:b<wr.heap.size:=Zf hbw (uh BB).size;go_wp2_with fail;clear d0 d1 d2 d3 d4 d5 d6 d7 d8 d9 d10;obtain ⟨q,hq⟩:∃ q,(WM n) (st,be,rk,my,gu,lo,hi,hd,ca,ut,wk)=q:=⟨_,rfl⟩
   have Hq:=Z9 hq;clear hq;have hba:Below wr.heap.size wr (wr.alloc (.cells (I11 st be rk my gu lo hi hd ca ut wk) 40)):=ba _ _;replace BB:=bt BB hba;clear hba;refine (K7 st be rk my gu lo hi hd ca ut wk R ga n gc _ (((uh BB).cell (p:=⟨R,0,none⟩) hR).trans (uh HC)) (Zf hR (uh BB).size)).mono ?_;rw [uh Hq];rintro e w1 ⟨rfl,hb⟩;replace BB:=bt BB hb;clear hb;cases q
   ·go_wp2_with fail
    go_ret;exact ⟨Z5 (uh HN (uh Hq)).symm,uh BB⟩
   ·go_wp2_with fail
    go_roundw
    case rel=>exact ⟨k+1,by omega,by go_num,uh HU (uh Hq),uh BB⟩
    case measure=>exact ms
  ·obtain rfl:k=ss.length:=by omega
   go_wp2_with fail;go_ret;exact ⟨Z5 (uh Hst).symm,uh BB⟩
theorem Fw  {ss:List XQ} (h:UG w v ss):Calls Tryz.prog 227 #[v,.func (Fn.func 228) #[] #[]] w fun e w'=>e= .returned (.bool (XZ Vy ss ss.length))/\Below w.heap.size w w':=by
 obtain ⟨a,cap,rfl,hc,hm,hr⟩:=h;have Hr:=Z9 hr;clear hr;go_enter Tryz.func227,Tryz.ntmps227;go_wp2_with fail
 go_loopw [9] (fun i wr=> ∃ k:Nat,k<=ss.length/\i= .int .i64 k/\XZ Vy ss k=true/\Below w.heap.size w wr) (fun i _=>ss.length-(intOf i).toNat)
 case atStart=>exact ⟨0,ZA _,rfl,rfl,Z1 _ _⟩
 case round=>
  obtain ⟨k,hk,rfl,hst,hb0⟩:=hrel;have Hst:=Z9 hst;have BB:=Z9 hb0;by_cases hlt:k<ss.length
  ·have hlt1:(k:Int)<(ss.length:Int):=by omega
   rcases uh Hr with e0 | ⟨b,off,rfl,hbw,hcl⟩
   ·rw [e0] at hlt;simp at hlt
   obtain ⟨d0,d1,d2⟩:=Y4 hcl hlt;rw [<-hb0.cell (p:=⟨b,off+k*3,none⟩) hbw] at d0;rw [<-hb0.cell (p:=⟨b,off+k*3+1,none⟩) hbw] at d1;rw [<-hb0.cell (p:=⟨b,off+k*3+2,none⟩) hbw] at d2;have HU:=Z9 (fun hh=>Pd (p:=Vy) (xs:=ss) (k:=k) hst hh);have HN:=Z9 (fun hh=>Pc (p:=Vy) (xs:=ss) hlt hh);clear hcl hst hb0;generalize Z8 ss k=s at *;obtain ⟨op,who,mk⟩:=s;simp only at d0 d1 d2;have hbr:b<wr.heap.size:=Zf hbw (uh BB).size;go_wp2_with fail;clear d0 d1 d2;obtain ⟨q,hq⟩:∃ q,Vy (op,who,mk)=q:=⟨_,rfl⟩
   have Hq:=Z9 hq;clear hq;have hba:Below wr.heap.size wr (wr.alloc (.cells #[.bool op,.int .i64 who,.int .i64 mk] 43)):=ba _ _;replace BB:=bt BB hba;clear hba;refine (Gg op who mk _).mono ?_;rw [uh Hq];rintro e w1 ⟨rfl,hb⟩;replace BB:=bt BB hb;clear hb;cases q
   ·go_wp2_with fail
    go_ret;exact ⟨Z5 (uh HN (uh Hq)).symm,uh BB⟩
   ·go_wp2_with fail
    go_roundw
    case rel=>exact ⟨k+1,by omega,by go_num,uh HU (uh Hq),uh BB⟩
    case measure=>exact ms
  ·obtain rfl:k=ss.length:=by omega
   go_wp2_with fail;go_ret;exact ⟨Z5 (uh Hst).symm,uh BB⟩
theorem IF  {ss:List Z3} {R:Nat} {bn:Int} (h:VA w v ss) (hl:ss.length<=1000) (hc0:w.cell? ⟨R,0,none⟩=some (.int .i64 bn)) (hR:R<w.heap.size):Calls Tryz.prog 230 #[v,.func (Fn.func 231) #[] #[.pointer (some ⟨R,0,none⟩)]] w fun e w'=> ∃ v',e= .returned v'/\NumsAt w.heap.size w' v' (ZQ (atB bn) ss ss.length)/\Below w.heap.size w w':=by
 obtain ⟨a,cap,rfl,hc,hm,hr⟩:=h;have Hr:=Z9 hr;clear hr;have HC:=Z9 hc0;clear hc0;go_enter Tryz.func230,Tryz.ntmps230;go_wp2_with fail
 go_loopw [5,11] (fun l i wr=> ∃ k:Nat,k<=ss.length/\i= .int .i64 k/\NumsAt w.heap.size wr l (ZQ (atB bn) ss k)/\Below w.heap.size w wr) (fun _ i _=>ss.length-(intOf i).toNat)
 case atStart=>exact ⟨0,ZA _,rfl,Y8 rfl (Z2 _),(ba _ _)⟩
 case round=>
  obtain ⟨k,hk,rfl,hln,hb0⟩:=hrel;obtain ⟨la,lc,rfl⟩:=RecAt.shape hln;have HL:=Z9 hln;have BB:=Z9 hb0;have hfl:=VZ (atB bn) ss k;clear hln;by_cases hlt:k<ss.length
  ·have hlt1:(k:Int)<(ss.length:Int):=by omega
   rcases uh Hr with e0 | ⟨b,off,rfl,hbw,hcl⟩
   ·rw [e0] at hlt;simp at hlt
   obtain ⟨d0,d1,d2,d3,d4,d5,d6,d7,d8,d9,d10⟩:=Zw hcl hlt;rw [<-hb0.cell (p:=⟨b,off+k*11,none⟩) hbw] at d0;rw [<-hb0.cell (p:=⟨b,off+k*11+1,none⟩) hbw] at d1;rw [<-hb0.cell (p:=⟨b,off+k*11+2,none⟩) hbw] at d2;rw [<-hb0.cell (p:=⟨b,off+k*11+3,none⟩) hbw] at d3;rw [<-hb0.cell (p:=⟨b,off+k*11+4,none⟩) hbw] at d4;rw [<-hb0.cell (p:=⟨b,off+k*11+5,none⟩) hbw] at d5;rw [<-hb0.cell (p:=⟨b,off+k*11+6,none⟩) hbw] at d6;rw [<-hb0.cell (p:=⟨b,off+k*11+7,none⟩) hbw] at d7;rw [<-hb0.cell (p:=⟨b,off+k*11+8,none⟩) hbw] at d8;rw [<-hb0.cell (p:=⟨b,off+k*11+9,none⟩) hbw] at d9;rw [<-hb0.cell (p:=⟨b,off+k*11+10,none⟩) hbw] at d10;have HY:=Z9 (fun hh=>Yo (p:=(atB bn)) (xs:=ss) (k:=k) hh);have HN:=Z9 (fun hh=>XO (p:=(atB bn)) (xs:=ss) (k:=k) hh);clear hcl hb0;generalize Z8 ss k=s at *;obtain ⟨st,be,rk,my,gu,lo,hi,hd,ca,ut,wk⟩:=s;simp only at d0 d1 d2 d3 d4 d5 d6 d7 d8 d9 d10;have hbr:b<wr.heap.size:=Zf hbw (uh BB).size;go_wp2_with fail;clear d0 d1 d2 d3 d4 d5 d6 d7 d8 d9 d10;obtain ⟨q,hq⟩:∃ q,(atB bn) (st,be,rk,my,gu,lo,hi,hd,ca,ut,wk)=q:=⟨_,rfl⟩
   have Hq:=Z9 hq;clear hq;have hba:Below wr.heap.size wr (wr.alloc (.cells (I11 st be rk my gu lo hi hd ca ut wk) 40)):=ba _ _;replace BB:=bt BB hba;replace HL:=Z9 (RecAt.later (uh HL) hba);clear hba;refine (JF st be rk my gu lo hi hd ca ut wk bn R _ (((uh BB).cell (p:=⟨R,0,none⟩) hR).trans (uh HC)) (Zf hR (uh BB).size)).mono ?_;rw [uh Hq];rintro e w1 ⟨rfl,hb⟩;replace BB:=bt BB hb;replace HL:=Z9 (RecAt.later (uh HL) hb);clear hb;cases q
   ·go_wp2_with fail
    go_roundw
    case rel=>exact ⟨k+1,by omega,by go_num,by rw [uh HN (uh Hq)];exact uh HL,uh BB⟩
    case measure=>exact ms
   ·have hsx:=(uh BB).size
    go_wp2_with (at_builtin;refine ZH tyN rfl (.tmp 19) (.tmp 21) 130 Tryz.underlying130 rfl w.heap.size _ _ (ZQ (atB bn) ss k) [(k:Int)] rfl rfl (RecAt.later (uh HL) ((ba _ _))) (Wy (k:Int) rfl (Z2 _) (by omega)) (by simp;omega) (by simp;omega) ?_;intro u9 w9 hp9 hg9 hat9;have HP9:=Z9 hp9;have HG9:=Z9 hg9;clear hp9 hg9 hat9)
    have hgo:∀ i,(Value.slice la (ZQ (atB bn) ss k).length lc).ownBlock=some i->w.heap.size<=i:=fun i e=>(RecAt.lt (uh HL) e).1;have hb9:Below w.heap.size w1 w9:=((Z1 _ _).alloc hsx _).trans ((Z1 _ _).grown (uh HG9) (by simp;omega) hgo);have hb8:=(uh BB).trans hb9;go_wp2_with fail;go_roundw
    case rel=>exact ⟨k+1,by omega,by go_num,by rw [uh HY (uh Hq)];exact uh HP9,hb8⟩
    case measure=>exact ms
  ·obtain rfl:k=ss.length:=by omega
   go_wp2_with fail;go_ret;exact ⟨_,rfl,uh HL,uh BB⟩
theorem MV  {ss:List Z3} {R:Nat} {bn:Int} (h:VA w v ss) (hl:ss.length<=1000) (hc0:w.cell? ⟨R,0,none⟩=some (.int .i64 bn)) (hR:R<w.heap.size):Calls Tryz.prog 230 #[v,.func (Fn.func 233) #[] #[.pointer (some ⟨R,0,none⟩)]] w fun e w'=> ∃ v',e= .returned v'/\NumsAt w.heap.size w' v' (ZQ (Y0 bn) ss ss.length)/\Below w.heap.size w w':=by
 obtain ⟨a,cap,rfl,hc,hm,hr⟩:=h;have Hr:=Z9 hr;clear hr;have HC:=Z9 hc0;clear hc0;go_enter Tryz.func230,Tryz.ntmps230;go_wp2_with fail
 go_loopw [5,11] (fun l i wr=> ∃ k:Nat,k<=ss.length/\i= .int .i64 k/\NumsAt w.heap.size wr l (ZQ (Y0 bn) ss k)/\Below w.heap.size w wr) (fun _ i _=>ss.length-(intOf i).toNat)
 case atStart=>exact ⟨0,ZA _,rfl,Y8 rfl (Z2 _),(ba _ _)⟩
 case round=>
  obtain ⟨k,hk,rfl,hln,hb0⟩:=hrel;obtain ⟨la,lc,rfl⟩:=RecAt.shape hln;have HL:=Z9 hln;have BB:=Z9 hb0;have hfl:=VZ (Y0 bn) ss k;clear hln;by_cases hlt:k<ss.length
  ·have hlt1:(k:Int)<(ss.length:Int):=by omega
   rcases uh Hr with e0 | ⟨b,off,rfl,hbw,hcl⟩
   ·rw [e0] at hlt;simp at hlt
   obtain ⟨d0,d1,d2,d3,d4,d5,d6,d7,d8,d9,d10⟩:=Zw hcl hlt;rw [<-hb0.cell (p:=⟨b,off+k*11,none⟩) hbw] at d0;rw [<-hb0.cell (p:=⟨b,off+k*11+1,none⟩) hbw] at d1;rw [<-hb0.cell (p:=⟨b,off+k*11+2,none⟩) hbw] at d2;rw [<-hb0.cell (p:=⟨b,off+k*11+3,none⟩) hbw] at d3;rw [<-hb0.cell (p:=⟨b,off+k*11+4,none⟩) hbw] at d4;rw [<-hb0.cell (p:=⟨b,off+k*11+5,none⟩) hbw] at d5;rw [<-hb0.cell (p:=⟨b,off+k*11+6,none⟩) hbw] at d6;rw [<-hb0.cell (p:=⟨b,off+k*11+7,none⟩) hbw] at d7;rw [<-hb0.cell (p:=⟨b,off+k*11+8,none⟩) hbw] at d8;rw [<-hb0.cell (p:=⟨b,off+k*11+9,none⟩) hbw] at d9;rw [<-hb0.cell (p:=⟨b,off+k*11+10,none⟩) hbw] at d10;have HY:=Z9 (fun hh=>Yo (p:=(Y0 bn)) (xs:=ss) (k:=k) hh);have HN:=Z9 (fun hh=>XO (p:=(Y0 bn)) (xs:=ss) (k:=k) hh);clear hcl hb0;generalize Z8 ss k=s at *;obtain ⟨st,be,rk,my,gu,lo,hi,hd,ca,ut,wk⟩:=s;simp only at d0 d1 d2 d3 d4 d5 d6 d7 d8 d9 d10;have hbr:b<wr.heap.size:=Zf hbw (uh BB).size;go_wp2_with fail;clear d0 d1 d2 d3 d4 d5 d6 d7 d8 d9 d10;obtain ⟨q,hq⟩:∃ q,(Y0 bn) (st,be,rk,my,gu,lo,hi,hd,ca,ut,wk)=q:=⟨_,rfl⟩
   have Hq:=Z9 hq;clear hq;have hba:Below wr.heap.size wr (wr.alloc (.cells (I11 st be rk my gu lo hi hd ca ut wk) 40)):=ba _ _;replace BB:=bt BB hba;replace HL:=Z9 (RecAt.later (uh HL) hba);clear hba;refine (NK st be rk my gu lo hi hd ca ut wk bn R _ (((uh BB).cell (p:=⟨R,0,none⟩) hR).trans (uh HC)) (Zf hR (uh BB).size)).mono ?_;rw [uh Hq];rintro e w1 ⟨rfl,hb⟩;replace BB:=bt BB hb;replace HL:=Z9 (RecAt.later (uh HL) hb);clear hb;cases q
   ·go_wp2_with fail
    go_roundw
    case rel=>exact ⟨k+1,by omega,by go_num,by rw [uh HN (uh Hq)];exact uh HL,uh BB⟩
    case measure=>exact ms
   ·have hsx:=(uh BB).size
    go_wp2_with (at_builtin;refine ZH tyN rfl (.tmp 19) (.tmp 21) 130 Tryz.underlying130 rfl w.heap.size _ _ (ZQ (Y0 bn) ss k) [(k:Int)] rfl rfl (RecAt.later (uh HL) ((ba _ _))) (Wy (k:Int) rfl (Z2 _) (by omega)) (by simp;omega) (by simp;omega) ?_;intro u9 w9 hp9 hg9 hat9;have HP9:=Z9 hp9;have HG9:=Z9 hg9;clear hp9 hg9 hat9)
    have hgo:∀ i,(Value.slice la (ZQ (Y0 bn) ss k).length lc).ownBlock=some i->w.heap.size<=i:=fun i e=>(RecAt.lt (uh HL) e).1;have hb9:Below w.heap.size w1 w9:=((Z1 _ _).alloc hsx _).trans ((Z1 _ _).grown (uh HG9) (by simp;omega) hgo);have hb8:=(uh BB).trans hb9;go_wp2_with fail;go_roundw
    case rel=>exact ⟨k+1,by omega,by go_num,by rw [uh HY (uh Hq)];exact uh HP9,hb8⟩
    case measure=>exact ms
  ·obtain rfl:k=ss.length:=by omega
   go_wp2_with fail;go_ret;exact ⟨_,rfl,uh HL,uh BB⟩
theorem Lf  {ss:List XQ} (h:UG w v ss) (hl:ss.length<=1000):Calls Tryz.prog 142 #[v,.func (Fn.func 143) #[] #[]] w fun e w'=> ∃ v',e= .returned v'/\NumsAt w.heap.size w' v' (ZQ SG ss ss.length)/\Below w.heap.size w w':=by
 obtain ⟨a,cap,rfl,hc,hm,hr⟩:=h;have Hr:=Z9 hr;clear hr;go_enter Tryz.func142,Tryz.ntmps142;go_wp2_with fail
 go_loopw [5,11] (fun l i wr=> ∃ k:Nat,k<=ss.length/\i= .int .i64 k/\NumsAt w.heap.size wr l (ZQ SG ss k)/\Below w.heap.size w wr) (fun _ i _=>ss.length-(intOf i).toNat)
 case atStart=>exact ⟨0,ZA _,rfl,Y8 rfl (Z2 _),(ba _ _)⟩
 case round=>
  obtain ⟨k,hk,rfl,hln,hb0⟩:=hrel;obtain ⟨la,lc,rfl⟩:=RecAt.shape hln;have HL:=Z9 hln;have BB:=Z9 hb0;have hfl:=VZ SG ss k;clear hln;by_cases hlt:k<ss.length
  ·have hlt1:(k:Int)<(ss.length:Int):=by omega
   rcases uh Hr with e0 | ⟨b,off,rfl,hbw,hcl⟩
   ·rw [e0] at hlt;simp at hlt
   obtain ⟨d0,d1,d2⟩:=Y4 hcl hlt;rw [<-hb0.cell (p:=⟨b,off+k*3,none⟩) hbw] at d0;rw [<-hb0.cell (p:=⟨b,off+k*3+1,none⟩) hbw] at d1;rw [<-hb0.cell (p:=⟨b,off+k*3+2,none⟩) hbw] at d2;have HY:=Z9 (fun hh=>Yo (p:=SG) (xs:=ss) (k:=k) hh);have HN:=Z9 (fun hh=>XO (p:=SG) (xs:=ss) (k:=k) hh);clear hcl hb0;generalize Z8 ss k=s at *;obtain ⟨op,who,mk⟩:=s;simp only at d0 d1 d2;have hbr:b<wr.heap.size:=Zf hbw (uh BB).size;go_wp2_with fail;clear d0 d1 d2;obtain ⟨q,hq⟩:∃ q,SG (op,who,mk)=q:=⟨_,rfl⟩
   have Hq:=Z9 hq;clear hq;have hba:Below wr.heap.size wr (wr.alloc (.cells #[.bool op,.int .i64 who,.int .i64 mk] 43)):=ba _ _;replace BB:=bt BB hba;replace HL:=Z9 (RecAt.later (uh HL) hba);clear hba;refine ck (Calls.bool_of (P9 op who mk _) (uh Hq)) fun w1 hb=> ?_;replace BB:=bt BB hb;replace HL:=Z9 (RecAt.later (uh HL) hb);clear hb;cases q
   ·go_wp2_with fail
    go_roundw
    case rel=>exact ⟨k+1,by omega,by go_num,by rw [uh HN (uh Hq)];exact uh HL,uh BB⟩
    case measure=>exact ms
   ·have hsx:=(uh BB).size
    go_wp2_with (at_builtin;refine ZH tyN rfl (.tmp 19) (.tmp 21) 130 Tryz.underlying130 rfl w.heap.size _ _ (ZQ SG ss k) [(k:Int)] rfl rfl (RecAt.later (uh HL) ((ba _ _))) (Wy (k:Int) rfl (Z2 _) (by omega)) (by simp;omega) (by simp;omega) ?_;intro u9 w9 hp9 hg9 hat9;have HP9:=Z9 hp9;have HG9:=Z9 hg9;clear hp9 hg9 hat9)
    have hgo:∀ i,(Value.slice la (ZQ SG ss k).length lc).ownBlock=some i->w.heap.size<=i:=fun i e=>(RecAt.lt (uh HL) e).1;have hb9:Below w.heap.size w1 w9:=((Z1 _ _).alloc hsx _).trans ((Z1 _ _).grown (uh HG9) (by simp;omega) hgo);have hb8:=(uh BB).trans hb9;go_wp2_with fail;go_roundw
    case rel=>exact ⟨k+1,by omega,by go_num,by rw [uh HY (uh Hq)];exact uh HP9,hb8⟩
    case measure=>exact ms
  ·obtain rfl:k=ss.length:=by omega
   go_wp2_with fail;go_ret;exact ⟨_,rfl,uh HL,uh BB⟩
set_option maxRecDepth 100000
theorem Ng (st be rk my gu lo hi hd ca ut wk:Int) {R n3 p3:Nat} {a3:Option Addr} {ds:List XQ} (hc:w.cell? ⟨R,3,none⟩=some (.slice a3 n3 p3)) (hR:R<w.heap.size) (h:UG w (.slice a3 n3 p3) ds):Calls Tryz.prog 121 #[.agg (I11 st be rk my gu lo hi hd ca ut wk),.pointer (some ⟨R,0,none⟩)] w fun e w'=>e= .returned (.bool (Ww ds (st,be,rk,my,gu,lo,hi,hd,ca,ut,wk)))/\Below w.heap.size w w':=by
 have hne:R ≠ w.heap.size:=U5 hR;have HD:=Z9 h;clear h;go_enter Tryz.func121,Tryz.ntmps121;go_wp2_with fail;refine ck (KI st be rk my gu lo hi hd ca ut wk ((uh HD).below ((ba _ _)))) fun w1 hb=> ?_;have Hb:=Z9 (((Z1 w.heap.size w).alloc (Z2 _) _).trans (hb.mono (by simp)));clear hb;go_wp2_with fail;go_ret;exact ⟨rfl,uh Hb⟩
theorem IQ  {ss:List Z3} {R n3 p3:Nat} {a3:Option Addr} {ds:List XQ} (h:VA w v ss) (hc0:w.cell? ⟨R,3,none⟩=some (.slice a3 n3 p3)) (hR:R<w.heap.size) (hds:UG w (.slice a3 n3 p3) ds):Calls Tryz.prog 120 #[v,.func (Fn.func 121) #[] #[.pointer (some ⟨R,0,none⟩)]] w fun e w'=>e= .returned (.bool (XZ (Ww ds) ss ss.length))/\Below w.heap.size w w':=by
 obtain ⟨a,cap,rfl,hc,hm,hr⟩:=h;have Hr:=Z9 hr;clear hr;have HC:=Z9 hc0;have HD:=Z9 hds;clear hc0 hds;go_enter Tryz.func120,Tryz.ntmps120;go_wp2_with fail
 go_loopw [9] (fun i wr=> ∃ k:Nat,k<=ss.length/\i= .int .i64 k/\XZ (Ww ds) ss k=true/\Below w.heap.size w wr) (fun i _=>ss.length-(intOf i).toNat)
 case atStart=>exact ⟨0,ZA _,rfl,rfl,Z1 _ _⟩
 case round=>
  obtain ⟨k,hk,rfl,hst,hb0⟩:=hrel;have Hst:=Z9 hst;have BB:=Z9 hb0;by_cases hlt:k<ss.length
  ·have hlt1:(k:Int)<(ss.length:Int):=by omega
   rcases uh Hr with e0 | ⟨b,off,rfl,hbw,hcl⟩
   ·rw [e0] at hlt;simp at hlt
   obtain ⟨d0,d1,d2,d3,d4,d5,d6,d7,d8,d9,d10⟩:=Zw hcl hlt;rw [<-hb0.cell (p:=⟨b,off+k*11,none⟩) hbw] at d0;rw [<-hb0.cell (p:=⟨b,off+k*11+1,none⟩) hbw] at d1;rw [<-hb0.cell (p:=⟨b,off+k*11+2,none⟩) hbw] at d2;rw [<-hb0.cell (p:=⟨b,off+k*11+3,none⟩) hbw] at d3;rw [<-hb0.cell (p:=⟨b,off+k*11+4,none⟩) hbw] at d4;rw [<-hb0.cell (p:=⟨b,off+k*11+5,none⟩) hbw] at d5;rw [<-hb0.cell (p:=⟨b,off+k*11+6,none⟩) hbw] at d6;rw [<-hb0.cell (p:=⟨b,off+k*11+7,none⟩) hbw] at d7;rw [<-hb0.cell (p:=⟨b,off+k*11+8,none⟩) hbw] at d8;rw [<-hb0.cell (p:=⟨b,off+k*11+9,none⟩) hbw] at d9;rw [<-hb0.cell (p:=⟨b,off+k*11+10,none⟩) hbw] at d10;have HU:=Z9 (fun hh=>Pd (p:=(Ww ds)) (xs:=ss) (k:=k) hst hh);have HN:=Z9 (fun hh=>Pc (p:=(Ww ds)) (xs:=ss) hlt hh);clear hcl hst hb0;generalize Z8 ss k=s at *;obtain ⟨st,be,rk,my,gu,lo,hi,hd,ca,ut,wk⟩:=s;simp only at d0 d1 d2 d3 d4 d5 d6 d7 d8 d9 d10;have hbr:b<wr.heap.size:=Zf hbw (uh BB).size;go_wp2_with fail;clear d0 d1 d2 d3 d4 d5 d6 d7 d8 d9 d10;obtain ⟨q,hq⟩:∃ q,(Ww ds) (st,be,rk,my,gu,lo,hi,hd,ca,ut,wk)=q:=⟨_,rfl⟩
   have Hq:=Z9 hq;clear hq;have hba:Below wr.heap.size wr (wr.alloc (.cells (I11 st be rk my gu lo hi hd ca ut wk) 40)):=ba _ _;replace BB:=bt BB hba;clear hba;refine (Ng st be rk my gu lo hi hd ca ut wk (((uh BB).cell (p:=⟨R,3,none⟩) hR).trans (uh HC)) (Zf hR (uh BB).size) ((uh HD).below (uh BB))).mono ?_;rw [uh Hq];rintro e w1 ⟨rfl,hb⟩;replace BB:=bt BB hb;clear hb;cases q
   ·go_wp2_with fail
    go_ret;exact ⟨Z5 (uh HN (uh Hq)).symm,uh BB⟩
   ·go_wp2_with fail
    go_roundw
    case rel=>exact ⟨k+1,by omega,by go_num,uh HU (uh Hq),uh BB⟩
    case measure=>exact ms
  ·obtain rfl:k=ss.length:=by omega
   go_wp2_with fail;go_ret;exact ⟨Z5 (uh Hst).symm,uh BB⟩
theorem W7 (a0 a1 a2 a3 a4:Option Addr) (n0 n1 n2 n3 n4 p0 p1 p2 p3 p4:Nat) (now:Int) (w:World):Calls Tryz.prog 119 #[.agg #[.slice a0 n0 p0,.slice a1 n1 p1,.slice a2 n2 p2,.slice a3 n3 p3,.slice a4 n4 p4,.int .i64 now]] w fun e w'=>e= .returned (.slice a2 n2 p2)/\Below w.heap.size w w':=by
 go_enter Tryz.func119,Tryz.ntmps119;go_wp2_with fail;go_ret;exact ⟨rfl,(ba _ _)⟩
theorem NP (a0 a1 a2 a3 a4:Option Addr) (n0 n1 n2 n3 n4 p0 p1 p2 p3 p4:Nat) (now:Int) (w:World):Calls Tryz.prog 141 #[.agg #[.slice a0 n0 p0,.slice a1 n1 p1,.slice a2 n2 p2,.slice a3 n3 p3,.slice a4 n4 p4,.int .i64 now]] w fun e w'=>e= .returned (.slice a3 n3 p3)/\Below w.heap.size w w':=by
 go_enter Tryz.func141,Tryz.ntmps141;go_wp2_with fail;go_ret;exact ⟨rfl,(ba _ _)⟩
theorem Jy  {ss:List Z3} {gs:List Zt} (h:VA w v ss) (h1:XG w v1 gs):Calls Tryz.prog 177 #[v,v1] w fun e w'=>e= .returned (.bool (Ts ss gs.length))/\Below w.heap.size w w':=by
 have Hv:=Z9 h;obtain ⟨a,cap,rfl,_,_⟩:=IsRec.shape h;obtain ⟨ga,gc,rfl,_,_⟩:=IsRec.shape h1;clear h h1;obtain ⟨q1,hq1⟩:∃ q,XZ Zx ss ss.length=q:=⟨_,rfl⟩
 obtain ⟨q2,hq2⟩:∃ q,XZ (WM gs.length) ss ss.length=q:=⟨_,rfl⟩
 have H1:=Z9 hq1;have H2:=Z9 hq2;by_cases hl:ss.length<=12
 ·refine Calls.bool_of (q:=(q1 && q2)) ?_ (by unfold Ts;rw [hq1,hq2,decide_eq_true hl,Bool.true_and])
  have hl1:(ss.length:Int)<=12:=by omega
  clear hq1 hq2;have HW:=Z9 ((uh Hv).below ((Z1 _ _).alloc (Z2 _) (.cells #[.slice ga gs.length gc] 27)));go_enter Tryz.func177,Tryz.ntmps177;go_wp2_with fail;refine (Bs (uh HW)).mono ?_;rw [uh H1];rintro e w1 ⟨rfl,hb⟩;replace HW:=Z9 ((uh HW).below hb);have c0:w1.cell? ⟨w.heap.size,0,none⟩=some (.slice ga gs.length gc):=(hb.cell (p:=⟨w.heap.size,0,none⟩) (by simp)).trans (Zg _ rfl);have hlt:w.heap.size<w1.heap.size:=by have:=hb.size;simp at this;omega
  have Hb:=Z9 (((Z1 w.heap.size w).alloc (Z2 _) _).trans (hb.mono (by simp)));have HC:=Z9 c0;clear hb c0;cases q1
  ·go_wp2_with fail
   go_ret;exact ⟨rfl,uh Hb⟩
  go_wp2_with fail;refine (IS (uh HW) (uh HC) hlt).mono ?_;rw [uh H2];rintro e w2 ⟨rfl,hb⟩;replace Hb:=Z9 ((uh Hb).trans (hb.mono (uh Hb).size));clear hb;go_wp2_with fail;go_ret;exact ⟨Z5 (by simp),uh Hb⟩
 ·refine Calls.bool_of (q:=false) ?_ (by unfold Ts;rw [decide_eq_false hl];rfl)
  have hl1:¬ ((ss.length:Int)<=12):=by omega
  clear hq1 hq2;go_enter Tryz.func177,Tryz.ntmps177;go_wp2_with fail;go_ret;exact ⟨rfl,(ba _ _)⟩
theorem FW  {ds:List XQ} {n:Int} (h:UG w v ds) (hn:n<=1000):Calls Tryz.prog 178 #[v,.int .i64 n] w fun e w'=>e= .returned (.bool (QR ds n))/\Below w.heap.size w w':=by
 have Hv:=Z9 h;obtain ⟨a,cap,rfl,_,_⟩:=IsRec.shape h;clear h;obtain ⟨q1,hq1⟩:∃ q,XZ Vy ds ds.length=q:=⟨_,rfl⟩
 obtain ⟨ws,hws⟩:∃ ws,ZQ SG ds ds.length=ws:=⟨_,rfl⟩
 have H1:=Z9 hq1;have H2:=Z9 hws;by_cases hl:(ds.length:Int)=n
 ·refine Calls.bool_of (q:=(q1 && decide (0<ws.length))) ?_ (by unfold QR;rw [hq1,show ZQ (fun d:XQ=>d.1) ds ds.length=ws from hws,decide_eq_true hl,Bool.true_and])
  subst hl;have hl1:ds.length<=1000:=by omega
  clear hq1 hws;go_enter Tryz.func178,Tryz.ntmps178;go_wp2_with fail;refine (Fw (uh Hv)).mono ?_;rw [uh H1];rintro e w1 ⟨rfl,hb⟩;replace Hv:=Z9 ((uh Hv).below hb);have Hb:=Z9 hb;clear hb;cases q1
  ·go_wp2_with fail
   go_ret;exact ⟨rfl,uh Hb⟩
  go_wp2_with fail;refine (Lf (uh Hv) hl1).mono ?_;rw [uh H2];rintro e w2 ⟨v2,rfl,hn2,hb⟩;obtain ⟨la,lc,rfl⟩:=RecAt.shape hn2;replace Hb:=Z9 ((uh Hb).trans (hb.mono (uh Hb).size));clear hb hn2;go_wp2_with fail;go_ret;exact ⟨Z5 (by simp),uh Hb⟩
 ·refine Calls.bool_of (q:=false) ?_ (by unfold QR;rw [decide_eq_false hl];rfl)
  have hl1:((ds.length:Int) ==n)=false:=by simpa using hl
  clear hq1 hws;go_enter Tryz.func178,Tryz.ntmps178;go_wp2_with fail;go_ret;exact ⟨rfl,Z1 _ _⟩
theorem EH {ps:List Int} {rs:List ZZ} {k:Nat} (hk:k<ps.length) (h:WX (ZR rs k).2.length (Z8 ps k)=false):Vj ps rs=false:=by
 unfold Vj;rw [P2 (p:=fun j=>WX (ZR rs j).2.length (Z8 ps j)) hk h,Bool.and_false]
theorem Mn  {ps:List Int} {rs:List ZZ} (h:Oo w v ps) (h0:IsRooms w v0 rs):Calls Tryz.prog 180 #[v,v0] w fun e w'=>e= .returned (.bool (Vj ps rs))/\Below w.heap.size w w':=by
 obtain ⟨a,cap,rfl,hc,hm,hr⟩:=h;obtain ⟨a0,cap0,rfl,hc0,hm0,hr0⟩:=h0;have Hr:=Z9 hr;have Hr0:=Z9 hr0;clear hr hr0;by_cases hl:ps.length=rs.length
 ·have hl1:(ps.length:Int)=(rs.length:Int):=by omega
  have hbn:((ps.length:Int) !=(rs.length:Int))=false:=by simp [hl]
  have Hall:Hid ((List.range ps.length).all (fun j=>WX (ZR rs j).2.length (Z8 ps j))=true->Vj ps rs=true):=Z9 (fun e=>by unfold Vj;rw [e,decide_eq_true hl];rfl);have Hl:=Z9 hl;clear hl hl1;go_enter Tryz.func180,Tryz.ntmps180;go_wp2_with fail
  go_loopw [14] (fun i wr=> ∃ k:Nat,k<=ps.length/\i= .int .i64 k/\(List.range k).all (fun j=>WX (ZR rs j).2.length (Z8 ps j))=true/\Below w.heap.size w wr) (fun i _=>ps.length-(intOf i).toNat)
  case atStart=>exact ⟨0,ZA _,rfl,rfl,Z1 _ _⟩
  case round=>
   obtain ⟨k,hk,rfl,hst,hb0⟩:=hrel;have Hst:=Z9 hst;have BB:=Z9 hb0;by_cases hlt:k<ps.length
   ·have hlt1:(k:Int)<(ps.length:Int):=by omega
    have hlt2:(k:Int)<(rs.length:Int):=by have:=uh Hl;omega
    rcases uh Hr with e0 | ⟨b,off,rfl,hbw,hcl⟩
    ·rw [e0] at hlt;simp at hlt
    rcases uh Hr0 with e0 | ⟨b0,off0,rfl,hbw0,hcl0⟩
    ·rw [e0] at hlt2;simp at hlt2;omega
    have d0:=hcl k hlt 0 _ rfl;simp only [Nat.mul_one,Nat.add_zero] at d0;rw [<-hb0.cell (p:=⟨b,off+k,none⟩) hbw] at d0;obtain ⟨_,pv,g1,hpv⟩:=hcl0 k (by have:=uh Hl;omega);obtain ⟨pa,pc,rfl,_,_,_⟩:=hpv;rw [<-hb0.cell (p:=⟨b0,off0+k*2+1,none⟩) hbw0] at g1;have HU:=Z9 (fun (hh:WX (ZR rs k).2.length (Z8 ps k)=true)=>(show (List.range (k+1)).all (fun j=>WX (ZR rs j).2.length (Z8 ps j))=true from by rw [Tz,hst,hh];rfl));have HN:=Z9 (fun hh=>EH (rs:=rs) hlt hh);clear hcl hcl0 hst hb0;generalize Z8 ps k=x at *;generalize (ZR rs k).2.length=n at *;obtain ⟨q,hq⟩:∃ q,WX n x=q:=⟨_,rfl⟩
    have Hq:=Z9 hq;clear hq;go_wp2_with fail;refine (Gh pa n pc x _).mono ?_;rw [uh Hq];rintro e w1 ⟨rfl,h9⟩;subst w1;cases q
    ·go_wp2_with fail
     go_ret;exact ⟨Z5 (uh HN (uh Hq)).symm,uh BB⟩
    ·go_wp2_with fail
     go_roundw
     case rel=>exact ⟨k+1,by omega,by go_num,uh HU (uh Hq),uh BB⟩
     case measure=>exact ms
   ·obtain rfl:k=ps.length:=by omega
    go_wp2_with fail;go_ret;exact ⟨Z5 (uh Hall (uh Hst)).symm,uh BB⟩
 ·refine Calls.bool_of (q:=false) ?_ (by unfold Vj;rw [decide_eq_false hl];rfl)
  have hbn:((ps.length:Int) !=(rs.length:Int))=true:=by simp;omega
  go_enter Tryz.func180,Tryz.ntmps180;go_wp2_with fail;go_ret;exact ⟨rfl,Z1 _ _⟩
theorem Calls.same_below' {P:Program} {f:FuncId} {args:Array Value}  (h:Calls P f args w fun e w'=>e= .returned v/\w'=w):Calls P f args w fun e w'=>e= .returned v/\Below w.heap.size w w':=h.mono fun e w' ⟨he,hw⟩=>⟨he,by subst hw;exact Z1 _ _⟩
theorem Calls.int_of {P:Program} {f:FuncId} {args:Array Value} {q q':Int} (h:Calls P f args w fun e w'=>e= .returned (.int .i64 q)/\Below w.heap.size w w') (e:q=q'):Calls P f args w fun e w'=>e= .returned (.int .i64 q')/\Below w.heap.size w w':=by rw [<-e];exact h
theorem G0  (h:Smy w v0 v1 v2 v3 v4 m):Calls Tryz.prog 118 #[.agg #[v0,v1,v2,v3,v4,.int .i64 m.now]] w fun e w'=>e= .returned (.bool (PE m))/\Below w.heap.size w w':=by
 have Hv:=Z9 (h.alloc (.cells #[v0,v1,v2,v3,v4,.int .i64 m.now] 32));obtain ⟨a0,p0,a1,p1,a2,p2,a3,p3,a4,p4,rfl,rfl,rfl,rfl,rfl,_,_,_,_,_,_,_,_,_,_⟩:=h.five;clear h;obtain ⟨q1,hq1⟩:∃ q,Y2 m.rm=q:=⟨_,rfl⟩
 obtain ⟨q2,hq2⟩:∃ q,Zk m.gd=q:=⟨_,rfl⟩
 obtain ⟨q3,hq3⟩:∃ q,Ts m.sm m.gd.length=q:=⟨_,rfl⟩
 obtain ⟨q4,hq4⟩:∃ q,QR m.dk (Wo m.rm)=q:=⟨_,rfl⟩
 obtain ⟨q5,hq5⟩:∃ q,Vj m.pc m.rm=q:=⟨_,rfl⟩
 obtain ⟨q6,hq6⟩:∃ q,inB m.now 0 1000000=q:=⟨_,rfl⟩
 refine Calls.bool_of (q:=(q1 && (q2 && (q3 && (q4 && (q5 && q6)))))) ?_ (by
  unfold PE;rw [hq2,hq3,hq5,hq6];cases q1
  ·rw [hq1];rfl
  ·rw [<-T0 hq1,hq4,hq1])
 have kb:Hid (Blk (w.alloc (.cells (S6 a0 p0 a1 p1 a2 p2 a3 p3 a4 p4 m) 32)) w.heap.size 32 (S6 a0 p0 a1 p1 a2 p2 a3 p3 a4 p4 m)):=Z9 (Blk.new w _ _);have BB:Hid (Below w.heap.size w (w.alloc (.cells (S6 a0 p0 a1 p1 a2 p2 a3 p3 a4 p4 m) 32))):=Z9 ((ba _ _))
 have hbv:Wo m.rm<=1000:=by
  cases hb:Y2 m.rm
  ·rw [P6 hb];omega
  ·rw [T0 hb];have:=(Zo hb).2.2.2;omega
 go_enter Tryz.func118,Tryz.ntmps118;go_wp2_with fail;generalize w.alloc (.cells (S6 a0 p0 a1 p1 a2 p2 a3 p3 a4 p4 m) 32)=W at *;have H1:=Z9 (fun (X:World) (hX:Below W.heap.size W X)=>Calls.bool_of (XI ((uh Hv).below hX).rm) hq1);have H2:=Z9 (fun (X:World) (hX:Below W.heap.size W X)=>Calls.bool_of (Wi ((uh Hv).below hX).gd) hq2);have H3:=Z9 (fun (X:World) (hX:Below W.heap.size W X)=>Calls.bool_of (Jy ((uh Hv).below hX).sm ((uh Hv).below hX).gd) hq3);have H4a:=Z9 (fun (X:World) (hX:Below W.heap.size W X)=>VH ((uh Hv).below hX).rm);have H4:=Z9 (fun (X:World) (hX:Below W.heap.size W X)=>Calls.bool_of (FW ((uh Hv).below hX).dk hbv) hq4);have H5:=Z9 (fun (X:World) (hX:Below W.heap.size W X)=>Calls.bool_of (Mn ((uh Hv).below hX).pc ((uh Hv).below hX).rm) hq5);have H6:=Z9 (fun (X:World) (hX:Below W.heap.size W X)=>Calls.bool_of (Calls.same_below' (Zy 0 m.now 1000000 X)) hq6);clear hq1 hq2 hq3 hq4 hq5 hq6;generalize Wo m.rm=nb at *;obtain ⟨c0,c1,c2,c3,c4,c5⟩:=(uh kb).c6;have y0:=ZW c0;have y1:=ZW c1;have y2:=ZW c2;have y3:=ZW c3;have y4:=ZW c4;have y5:=ZW c5;cases q1
 ·go_wp2_with fail
  refine wq ?_
  repeat (go_big_quiet_step (first | exact ZY (uh H1 _ (Z0 _ _ _)) | exact ZY (uh H2 _ (Z0 _ _ _)) | exact ZY (uh H3 _ (Z0 _ _ _)) | exact ZY (uh H4a _ (Z0 _ _ _)) | exact ZY (uh H4 _ (Z0 _ _ _)) | exact ZY (uh H5 _ (Z0 _ _ _)) | exact ZY (uh H6 _ (Z0 _ _ _))))
  refine wpQuiet_nil ?_;intro _ hw';obtain ⟨⟨dq,osq⟩,hw''⟩:=hw';subst hw'';go_wp2_with fail;go_ret;exact ⟨rfl,(uh BB).trans ((Z0 _ _ _).mono (uh BB).size)⟩
 cases q2
 ·go_wp2_with fail
  refine wq ?_
  repeat (go_big_quiet_step (first | exact ZY (uh H1 _ (Z0 _ _ _)) | exact ZY (uh H2 _ (Z0 _ _ _)) | exact ZY (uh H3 _ (Z0 _ _ _)) | exact ZY (uh H4a _ (Z0 _ _ _)) | exact ZY (uh H4 _ (Z0 _ _ _)) | exact ZY (uh H5 _ (Z0 _ _ _)) | exact ZY (uh H6 _ (Z0 _ _ _))))
  refine wpQuiet_nil ?_;intro _ hw';obtain ⟨⟨dq,osq⟩,hw''⟩:=hw';subst hw'';go_wp2_with fail;go_ret;exact ⟨rfl,(uh BB).trans ((Z0 _ _ _).mono (uh BB).size)⟩
 cases q3
 ·go_wp2_with fail
  refine wq ?_
  repeat (go_big_quiet_step (first | exact ZY (uh H1 _ (Z0 _ _ _)) | exact ZY (uh H2 _ (Z0 _ _ _)) | exact ZY (uh H3 _ (Z0 _ _ _)) | exact ZY (uh H4a _ (Z0 _ _ _)) | exact ZY (uh H4 _ (Z0 _ _ _)) | exact ZY (uh H5 _ (Z0 _ _ _)) | exact ZY (uh H6 _ (Z0 _ _ _))))
  refine wpQuiet_nil ?_;intro _ hw';obtain ⟨⟨dq,osq⟩,hw''⟩:=hw';subst hw'';go_wp2_with fail;go_ret;exact ⟨rfl,(uh BB).trans ((Z0 _ _ _).mono (uh BB).size)⟩
 cases q4
 ·go_wp2_with fail
  refine wq ?_
  repeat (go_big_quiet_step (first | exact ZY (uh H1 _ (Z0 _ _ _)) | exact ZY (uh H2 _ (Z0 _ _ _)) | exact ZY (uh H3 _ (Z0 _ _ _)) | exact ZY (uh H4a _ (Z0 _ _ _)) | exact ZY (uh H4 _ (Z0 _ _ _)) | exact ZY (uh H5 _ (Z0 _ _ _)) | exact ZY (uh H6 _ (Z0 _ _ _))))
  refine wpQuiet_nil ?_;intro _ hw';obtain ⟨⟨dq,osq⟩,hw''⟩:=hw';subst hw'';go_wp2_with fail;go_ret;exact ⟨rfl,(uh BB).trans ((Z0 _ _ _).mono (uh BB).size)⟩
 cases q5
 ·go_wp2_with fail
  refine wq ?_
  repeat (go_big_quiet_step (first | exact ZY (uh H1 _ (Z0 _ _ _)) | exact ZY (uh H2 _ (Z0 _ _ _)) | exact ZY (uh H3 _ (Z0 _ _ _)) | exact ZY (uh H4a _ (Z0 _ _ _)) | exact ZY (uh H4 _ (Z0 _ _ _)) | exact ZY (uh H5 _ (Z0 _ _ _)) | exact ZY (uh H6 _ (Z0 _ _ _))))
  refine wpQuiet_nil ?_;intro _ hw';obtain ⟨⟨dq,osq⟩,hw''⟩:=hw';subst hw'';go_wp2_with fail;go_ret;exact ⟨rfl,(uh BB).trans ((Z0 _ _ _).mono (uh BB).size)⟩
 go_wp2_with fail;refine wq ?_
 repeat (go_big_quiet_step (first | exact ZY (uh H1 _ (Z0 _ _ _)) | exact ZY (uh H2 _ (Z0 _ _ _)) | exact ZY (uh H3 _ (Z0 _ _ _)) | exact ZY (uh H4a _ (Z0 _ _ _)) | exact ZY (uh H4 _ (Z0 _ _ _)) | exact ZY (uh H5 _ (Z0 _ _ _)) | exact ZY (uh H6 _ (Z0 _ _ _))))
 refine wpQuiet_nil ?_;intro _ hw';obtain ⟨⟨dq,osq⟩,hw''⟩:=hw';subst hw'';go_wp2_with fail;go_ret;exact ⟨Z5 (by simp),(uh BB).trans ((Z0 _ _ _).mono (uh BB).size)⟩
theorem Rb  (h:Smy w v0 v1 v2 v3 v4 m):Calls Tryz.prog 56 #[.agg #[v0,v1,v2,v3,v4,.int .i64 m.now]] w fun e w'=>e= .returned (.bool (VU m))/\Below w.heap.size w w':=by
 have Hv:=Z9 (h.alloc (.cells #[v0,v1,v2,v3,v4,.int .i64 m.now] 32));obtain ⟨a0,p0,a1,p1,a2,p2,a3,p3,a4,p4,rfl,rfl,rfl,rfl,rfl,_,_,_,_,_,_,_,_,_,_⟩:=h.five;clear h;obtain ⟨q1,hq1⟩:∃ q,PE m=q:=⟨_,rfl⟩
 obtain ⟨q2,hq2⟩:∃ q,XZ (Ww m.dk) m.sm m.sm.length=q:=⟨_,rfl⟩
 refine Calls.bool_of (q:=(q1 && q2)) ?_ (by unfold VU;rw [hq1,hq2]);have H1:=Z9 hq1;have H2:=Z9 hq2;clear hq1 hq2;have kb:Hid (Blk (w.alloc (.cells (S6 a0 p0 a1 p1 a2 p2 a3 p3 a4 p4 m) 32)) w.heap.size 32 (S6 a0 p0 a1 p1 a2 p2 a3 p3 a4 p4 m)):=Z9 (Blk.new w _ _);have BB:Hid (Below w.heap.size w (w.alloc (.cells (S6 a0 p0 a1 p1 a2 p2 a3 p3 a4 p4 m) 32))):=Z9 ((ba _ _));go_enter Tryz.func56,Tryz.ntmps56;go_wp2_with fail;generalize w.alloc (.cells (S6 a0 p0 a1 p1 a2 p2 a3 p3 a4 p4 m) 32)=W at *;refine (G0 (uh Hv)).mono ?_;rw [uh H1];rintro e w1 ⟨rfl,hb⟩;replace Hv:=Z9 ((uh Hv).below hb);replace kb:=bl kb hb;replace BB:=bt BB hb;clear hb;cases q1
 ·go_wp2_with fail
  go_ret;exact ⟨rfl,uh BB⟩
 obtain ⟨c0,c1,c2,c3,c4,c5⟩:=(uh kb).c6;go_wp2_with fail;refine ck (W7 _ _ _ _ _ _ _ _ _ _ _ _ _ _ _ _ _) fun w2 hb=> ?_;replace Hv:=Z9 ((uh Hv).below hb);replace kb:=bl kb hb;replace BB:=bt BB hb;clear hb c0 c1 c2 c3 c4 c5;go_wp2_with fail;refine (IQ (uh Hv).sm ((uh kb).cell (i:=3) rfl) (uh kb).lt (uh Hv).dk).mono ?_;rw [uh H2];rintro e w3 ⟨rfl,hb⟩;replace BB:=bt BB hb;clear hb;go_wp2_with fail;go_ret;exact ⟨Z5 (by simp),uh BB⟩
theorem RX  (b:Int) (h:Smy w v0 v1 v2 v3 v4 m) (hl:m.sm.length<=1000):Calls Tryz.prog 183 #[.agg #[v0,v1,v2,v3,v4,.int .i64 m.now],.int .i64 b] w fun e w'=> ∃ v',e= .returned v'/\NumsAt w.heap.size w' v' (ZQ (atB b) m.sm m.sm.length)/\Below w.heap.size w w':=by
 have Hv:=Z9 ((h.alloc (.cells #[v0,v1,v2,v3,v4,.int .i64 m.now] 32)).alloc (.cells #[.int .i64 b] 2));obtain ⟨a0,p0,a1,p1,a2,p2,a3,p3,a4,p4,rfl,rfl,rfl,rfl,rfl,_,_,_,_,_,_,_,_,_,_⟩:=h.five;clear h;have BB:Hid (Below w.heap.size w ((w.alloc (.cells (S6 a0 p0 a1 p1 a2 p2 a3 p3 a4 p4 m) 32)).alloc (.cells #[.int .i64 b] 2))):=Z9 (((ba _ _)).alloc (by simp) _)
 have kc:Hid (Blk ((w.alloc (.cells (S6 a0 p0 a1 p1 a2 p2 a3 p3 a4 p4 m) 32)).alloc (.cells #[.int .i64 b] 2)) (w.heap.size+1) 2 #[.int .i64 b]):=Z9 (by
  have k:=Blk.new (w.alloc (.cells (S6 a0 p0 a1 p1 a2 p2 a3 p3 a4 p4 m) 32)) 2 #[.int .i64 b];rw [ZB] at k
  exact k)
 go_enter Tryz.func183,Tryz.ntmps183;go_wp2_with fail;generalize (w.alloc (.cells (S6 a0 p0 a1 p1 a2 p2 a3 p3 a4 p4 m) 32)).alloc (.cells #[.int .i64 b] 2)=W at *;refine ck (W7 _ _ _ _ _ _ _ _ _ _ _ _ _ _ _ _ _) fun w2 hb=> ?_;replace Hv:=Z9 ((uh Hv).below hb);replace kc:=bl kc hb;replace BB:=bt BB hb;clear hb;go_wp2_with fail;refine (IF (uh Hv).sm hl ((uh kc).cell (i:=0) rfl) (uh kc).lt).mono ?_;rintro e w3 ⟨v',rfl,hn,hb⟩;have HN:=Z9 (RecAt.mono hn (uh BB).size);replace BB:=bt BB hb;obtain ⟨la,lc,rfl⟩:=RecAt.shape hn;clear hb hn;go_wp2_with fail;go_ret;exact ⟨_,rfl,uh HN,uh BB⟩
theorem MW  (b:Int) (h:Smy w v0 v1 v2 v3 v4 m) (hl:m.sm.length<=1000):Calls Tryz.prog 184 #[.agg #[v0,v1,v2,v3,v4,.int .i64 m.now],.int .i64 b] w fun e w'=> ∃ v',e= .returned v'/\NumsAt w.heap.size w' v' (ZQ (Y0 b) m.sm m.sm.length)/\Below w.heap.size w w':=by
 have Hv:=Z9 ((h.alloc (.cells #[v0,v1,v2,v3,v4,.int .i64 m.now] 32)).alloc (.cells #[.int .i64 b] 2));obtain ⟨a0,p0,a1,p1,a2,p2,a3,p3,a4,p4,rfl,rfl,rfl,rfl,rfl,_,_,_,_,_,_,_,_,_,_⟩:=h.five;clear h;have BB:Hid (Below w.heap.size w ((w.alloc (.cells (S6 a0 p0 a1 p1 a2 p2 a3 p3 a4 p4 m) 32)).alloc (.cells #[.int .i64 b] 2))):=Z9 (((ba _ _)).alloc (by simp) _)
 have kc:Hid (Blk ((w.alloc (.cells (S6 a0 p0 a1 p1 a2 p2 a3 p3 a4 p4 m) 32)).alloc (.cells #[.int .i64 b] 2)) (w.heap.size+1) 2 #[.int .i64 b]):=Z9 (by
  have k:=Blk.new (w.alloc (.cells (S6 a0 p0 a1 p1 a2 p2 a3 p3 a4 p4 m) 32)) 2 #[.int .i64 b];rw [ZB] at k
  exact k)
 go_enter Tryz.func184,Tryz.ntmps184;go_wp2_with fail;generalize (w.alloc (.cells (S6 a0 p0 a1 p1 a2 p2 a3 p3 a4 p4 m) 32)).alloc (.cells #[.int .i64 b] 2)=W at *;refine ck (W7 _ _ _ _ _ _ _ _ _ _ _ _ _ _ _ _ _) fun w2 hb=> ?_;replace Hv:=Z9 ((uh Hv).below hb);replace kc:=bl kc hb;replace BB:=bt BB hb;clear hb;go_wp2_with fail;refine (MV (uh Hv).sm hl ((uh kc).cell (i:=0) rfl) (uh kc).lt).mono ?_;rintro e w3 ⟨v',rfl,hn,hb⟩;have HN:=Z9 (RecAt.mono hn (uh BB).size);replace BB:=bt BB hb;obtain ⟨la,lc,rfl⟩:=RecAt.shape hn;clear hb hn;go_wp2_with fail;go_ret;exact ⟨_,rfl,uh HN,uh BB⟩
theorem Fh  {b:Nat} (h:Smy w v0 v1 v2 v3 v4 m) (hl:m.sm.length<=1000) (hb0:b<m.dk.length):Calls Tryz.prog 123 #[.agg #[v0,v1,v2,v3,v4,.int .i64 m.now],.int .i64 (b:Int)] w fun e w'=>e= .returned (.bool (U3 m b))/\Below w.heap.size w w':=by
 have Hv:=Z9 (h.alloc (.cells #[v0,v1,v2,v3,v4,.int .i64 m.now] 32));obtain ⟨a0,p0,rfl,_,_⟩:=IsRooms.shape h.rm;obtain ⟨a1,p1,rfl,_,_⟩:=IsRec.shape h.gd;obtain ⟨a2,p2,rfl,_,_⟩:=IsRec.shape h.sm;obtain ⟨a3,p3,rfl,hc3,hm3,r3⟩:=h.dk;obtain ⟨a4,p4,rfl,_,_⟩:=IsRec.shape h.pc;clear h
 rcases r3 with e0 | ⟨db,off,rfl,hbw,hcl⟩
 ·rw [e0] at hb0;simp at hb0
 obtain ⟨_,d1,_⟩:=Y4 hcl hb0;have hb1:(b:Int)<(m.dk.length:Int):=by omega
 have hT:U3 m b=if (Z8 m.dk b).2.1= -1 then decide ((ZQ (atB b) m.sm m.sm.length).length=0) else decide ((ZQ (Y0 b) m.sm m.sm.length).length=1) && decide (Z8 (ZQ (Y0 b) m.sm m.sm.length) 0=(Z8 m.dk b).2.1):=rfl
 have HT:=Z9 hT;clear hT hcl;generalize (Z8 m.dk b).2.1=who at *;have hne:db ≠ w.heap.size:=U5 hbw;obtain ⟨BB,kb⟩:=Wd w 32 #[.slice a0 m.rm.length p0,.slice a1 m.gd.length p1,.slice a2 m.sm.length p2,.slice (some ⟨db,off,none⟩) m.dk.length p3,.slice a4 m.pc.length p4,.int .i64 m.now];rw [<-(uh BB).cell (p:=⟨db,off+b*3+1,none⟩) hbw] at d1;by_cases hw:who= -1
 ·subst hw
  obtain ⟨ws,hws⟩:∃ ws,ZQ (atB b) m.sm m.sm.length=ws:=⟨_,rfl⟩
  refine Calls.bool_of (q:=decide (ws.length=0)) ?_ (by rw [uh HT,if_pos rfl,hws]);have Hws:=Z9 hws;clear hws HT;go_enter Tryz.func123,Tryz.ntmps123;go_upto_region 3 with fail;generalize w.alloc (.cells #[.slice a0 m.rm.length p0,.slice a1 m.gd.length p1,.slice a2 m.sm.length p2,.slice (some ⟨db,off,none⟩) m.dk.length p3,.slice a4 m.pc.length p4,.int .i64 m.now] 32)=W at *;obtain ⟨c0,c1,c2,c3,c4,c5⟩:=(uh kb).c6;go_wp2_with fail;refine (RX (b:Int) (uh Hv) hl).mono ?_;rw [uh Hws];rintro e w2 ⟨v',rfl,hn,hb⟩;obtain ⟨la,lc,rfl⟩:=RecAt.shape hn;replace BB:=bt BB hb;clear hb hn c0 c1 c2 c3 c4 c5;go_wp2_with fail;go_ret;exact ⟨Z5 (by rw [Bool.eq_iff_iff];simp only [beq_iff_eq,YW];omega),uh BB⟩
 have nw:(who == -1)=false:=by simpa using hw
 obtain ⟨ws,hws⟩:∃ ws,ZQ (Y0 b) m.sm m.sm.length=ws:=⟨_,rfl⟩
 refine Calls.bool_of (q:=decide (ws.length=1) && decide (Z8 ws 0=who)) ?_ (by rw [uh HT,if_neg hw,hws]);have Hws:=Z9 hws;clear hws HT;go_enter Tryz.func123,Tryz.ntmps123;go_upto_region 3 with fail;generalize w.alloc (.cells #[.slice a0 m.rm.length p0,.slice a1 m.gd.length p1,.slice a2 m.sm.length p2,.slice (some ⟨db,off,none⟩) m.dk.length p3,.slice a4 m.pc.length p4,.int .i64 m.now] 32)=W at *;obtain ⟨c0,c1,c2,c3,c4,c5⟩:=(uh kb).c6;go_wp2_with fail;refine (MW (b:Int) (uh Hv) hl).mono ?_;rw [uh Hws];rintro e w2 ⟨v',rfl,hn,hb⟩;obtain ⟨la,lc,rfl⟩:=RecAt.shape hn;replace BB:=bt BB hb;have HN:=Z9 hn;clear hb hn c0 c1 c2 c3 c4 c5;by_cases h1:ws.length=1
 ·obtain ⟨g,hga,_,_,hcl,_⟩:=RecAt.view YH (by omega) (uh HN) rfl (by omega)
  cases hga;have z0:=hcl 0 (by omega) 0 _ rfl;simp only [Nat.zero_mul,Nat.add_zero] at z0;have hl1:((ws.length:Int) ==1)=true:=by simp;omega
  clear hcl;have h01:(0:Int)<(ws.length:Int):=by omega
  obtain ⟨z,hz⟩:∃ z,Z8 ws 0=z:=⟨_,rfl⟩
  rw [hz] at z0;have Hz:=Z9 hz;clear hz;go_wp2_with fail;go_ret;exact ⟨Z5 (by rw [uh Hz,decide_eq_true h1,Bool.eq_iff_iff];simp only [Bool.true_and,beq_iff_eq,YW]),uh BB⟩
 ·have hl1:((ws.length:Int) ==1)=false:=by simp;omega
  go_wp2_with fail;go_ret;exact ⟨Z5 (by rw [decide_eq_false h1];rfl),uh BB⟩
theorem Iy  (h:Smy w v0 v1 v2 v3 v4 m) (hl:m.sm.length<=1000):Calls Tryz.prog 57 #[.agg #[v0,v1,v2,v3,v4,.int .i64 m.now]] w fun e w'=>e= .returned (.bool (PV m))/\Below w.heap.size w w':=by
 have Hv:=Z9 (h.alloc (.cells #[v0,v1,v2,v3,v4,.int .i64 m.now] 32));obtain ⟨a0,p0,a1,p1,a2,p2,a3,p3,a4,p4,rfl,rfl,rfl,rfl,rfl,_,_,_,_,_,_,_,_,_,_⟩:=h.five;clear h;obtain ⟨BB0,kb0⟩:=Wd w 32 (S6 a0 p0 a1 p1 a2 p2 a3 p3 a4 p4 m);go_enter Tryz.func57,Tryz.ntmps57;go_wp2_with fail
 go_loopw [7] (fun i wr=> ∃ k:Nat,k<=m.dk.length/\i= .int .i64 k/\(List.range k).all (U3 m)=true/\Smy wr (.slice a0 m.rm.length p0) (.slice a1 m.gd.length p1) (.slice a2 m.sm.length p2) (.slice a3 m.dk.length p3) (.slice a4 m.pc.length p4) m/\Blk wr w.heap.size 32 (S6 a0 p0 a1 p1 a2 p2 a3 p3 a4 p4 m)/\Below w.heap.size w wr) (fun i _=>m.dk.length-(intOf i).toNat)
 case atStart=>exact ⟨0,ZA _,rfl,rfl,uh Hv,uh kb0,uh BB0⟩
 case round=>
  obtain ⟨k,hk,rfl,hst,hv,hkb,hb0⟩:=hrel;have Hst:=Z9 hst;have Hv1:=Z9 hv;have kb:=Z9 hkb;have BB:=Z9 hb0;clear hv hkb hb0 kb0 BB0 Hv;by_cases hlt:k<m.dk.length
  ·have hlt1:(k:Int)<(m.dk.length:Int):=by omega
   have HU:=Z9 (fun (hh:U3 m k=true)=>(show (List.range (k+1)).all (U3 m)=true from by rw [Tz,hst,hh];rfl));have HN:=Z9 (fun hh=>(show PV m=false from P2 (p:=U3 m) hlt hh));clear hst;obtain ⟨q,hq⟩:∃ q,U3 m k=q:=⟨_,rfl⟩
   have Hq:=Z9 hq;clear hq;obtain ⟨c0,c1,c2,c3,c4,c5⟩:=(uh kb).c6;go_wp2_with fail;refine (Fh (uh Hv1) hl hlt).mono ?_;rw [uh Hq];rintro e w1 ⟨rfl,hb⟩;replace Hv1:=Z9 ((uh Hv1).below hb);replace kb:=bl kb hb;replace BB:=bt BB hb;clear hb c0 c1 c2 c3 c4 c5;cases q
   ·go_wp2_with fail
    go_ret;exact ⟨Z5 (uh HN (uh Hq)).symm,uh BB⟩
   ·go_wp2_with fail
    go_roundw
    case rel=>exact ⟨k+1,by omega,by go_num,uh HU (uh Hq),uh Hv1,uh kb,uh BB⟩
    case measure=>exact ms
  ·obtain rfl:k=m.dk.length:=by omega
   go_wp2_with fail;go_ret;exact ⟨Z5 (uh Hst).symm,uh BB⟩
theorem Cl (h:VU m=true):m.sm.length<=12:=by
 rw [Qd] at h;unfold Yv YD at h;simp only [ZM,YW] at h;exact h.1.2.2.1
theorem OH  (h:Smy w v0 v1 v2 v3 v4 m):Calls Tryz.prog 13 #[.agg #[v0,v1,v2,v3,v4,.int .i64 m.now]] w fun e w'=>e= .returned (.bool (ZI m))/\Below w.heap.size w w':=by
 have Hv:=Z9 (h.alloc (.cells #[v0,v1,v2,v3,v4,.int .i64 m.now] 32));obtain ⟨a0,p0,a1,p1,a2,p2,a3,p3,a4,p4,rfl,rfl,rfl,rfl,rfl,_,_,_,_,_,_,_,_,_,_⟩:=h.five;clear h;obtain ⟨q1,hq1⟩:∃ q,VU m=q:=⟨_,rfl⟩
 obtain ⟨q2,hq2⟩:∃ q,PV m=q:=⟨_,rfl⟩
 refine Calls.bool_of (q:=(q1 && q2)) ?_ (by rw [<-A3];unfold A2;rw [hq1,hq2]);have H1:=Z9 hq1;have H2:=Z9 hq2;clear hq1 hq2;have kb:Hid (Blk (w.alloc (.cells (S6 a0 p0 a1 p1 a2 p2 a3 p3 a4 p4 m) 32)) w.heap.size 32 (S6 a0 p0 a1 p1 a2 p2 a3 p3 a4 p4 m)):=Z9 (Blk.new w _ _);have BB:Hid (Below w.heap.size w (w.alloc (.cells (S6 a0 p0 a1 p1 a2 p2 a3 p3 a4 p4 m) 32))):=Z9 ((ba _ _));go_enter Tryz.func13,Tryz.ntmps13;go_wp2_with fail;generalize w.alloc (.cells (S6 a0 p0 a1 p1 a2 p2 a3 p3 a4 p4 m) 32)=W at *;refine (Rb (uh Hv)).mono ?_;rw [uh H1];rintro e w1 ⟨rfl,hb⟩;replace Hv:=Z9 ((uh Hv).below hb);replace kb:=bl kb hb;replace BB:=bt BB hb;clear hb;cases q1
 ·go_wp2_with fail
  go_ret;exact ⟨rfl,uh BB⟩
 obtain ⟨c0,c1,c2,c3,c4,c5⟩:=(uh kb).c6;go_wp2_with fail;refine (Iy (uh Hv) (by have:=Cl (uh H1);omega)).mono ?_;rw [uh H2];rintro e w2 ⟨rfl,hb⟩;replace BB:=bt BB hb;clear hb c0 c1 c2 c3 c4 c5;go_wp2_with fail;go_ret;exact ⟨Z5 (by simp),uh BB⟩
theorem VI (w:World) (v0 v1 v2 v3 v4:Value) (m:Z6) (q:Bool) (hq:ZI m=q) (h:Smy w v0 v1 v2 v3 v4 m):Calls Tryz.prog 13 #[.agg #[v0,v1,v2,v3,v4,.int .i64 m.now]] w fun e w'=>e= .returned (.bool q)/\Below w.heap.size w w':=Calls.bool_of (OH h) hq
theorem BG {ps qs hs hs':List Z4} (hr:Ris qs) (hle:∀ x ∈ qs,∀ y ∈ hs,ltB y x=false) (hh:HeapTo hs hs.length) (hl:0<hs.length) (hp:(qs++hs).Perm ps) (hp':(hs'++[Z7 hs 0]).Perm hs) :
  Ris (qs++[Z7 hs 0])/\(∀ x ∈ qs++[Z7 hs 0],∀ y ∈ hs',ltB y x=false)/\((qs++[Z7 hs 0])++hs').Perm ps:=by
 have hsub:∀ y ∈ hs',y ∈ hs:=fun y hy=>hp'.subset (List.mem_append_left _ hy);refine ⟨AQ hr (fun y hy=>hle y hy _ (WZ hl)),fun x hx y hy=> ?_,?_⟩
 ·rcases List.mem_append.1 hx with hx | hx
  ·exact hle x hx y (hsub y hy)
  ·obtain rfl:x=Z7 hs 0:=by simpa using hx
   obtain ⟨k,hk,rfl⟩:=SD (hsub y hy);exact hh.least k hk
 ·rw [List.append_assoc]
  exact ((List.perm_append_comm (l₁:=[Z7 hs 0]) (l₂:=hs')).trans hp').append_left qs |>.trans hp
theorem FZ {n₀ bx:Nat}  {ps:List Z4} (h:HeapIs n₀ bx v w ps) (hp:HeapTo ps ps.length) (hl:ps.length<=900) (hx:n₀<=bx) (hn:n₀<=w.heap.size) :
  Calls Tryz.prog 246 #[.pointer (some ⟨bx,0,none⟩)] w fun e w'=> ∃ v' qs,e= .returned v'/\EntsAt w.heap.size w' v' qs/\Ris qs/\qs.Perm ps/\Below n₀ w w':=by
 have H:=Z9 h;have HP:=Z9 hp;have hbx:=h.lt;have HO:Hid (∀ k,v.ownBlock=some k->n₀<=k/\k<w.heap.size):=Z9 (fun k e=>h.row.lt e);clear h hp;go_enter Tryz.func246,Tryz.ntmps246;go_wp2_with fail
 go_loopg [3] ps.length (fun gg q wr=> ∃ (vh:Value) (qs hs:List Z4),hs.length<=gg/\EntsAt w.heap.size wr q qs/\HeapIs n₀ bx vh wr hs/\HeapTo hs hs.length/\Ris qs/\(∀ x ∈ qs,∀ y ∈ hs,ltB y x=false)/\(qs++hs).Perm ps/\vh.ownBlock=v.ownBlock/\Below n₀ w wr)
 case atStart=>exact ⟨v,[],ps,Z2 _,Vn rfl (Z2 _),(uh H).later ((ba _ _)),uh HP,List.Pairwise.nil,fun _ hx=>(by cases hx),List.Perm.refl _,rfl,(Z1 _ _).alloc hn _⟩
 case round=>
  obtain ⟨vh,qs,hs,hgg,hq,hh,hto,hris,hle,hperm,hob,hbel⟩:=hrel;have hlen:qs.length+hs.length=ps.length:=by have:=hperm.length_eq;simpa using this
  obtain ⟨qa,qcap,rfl⟩:=hq.shape;have Hq:=Z9 hq;have Hh:=Z9 hh;have Hto:=Z9 hto;have Hris:=Z9 hris;have Hle:=Z9 hle;have Hpe:=Z9 hperm;have Hob:=Z9 hob;have Hbel:=Z9 hbel;have hsz:=hbel.size;clear hq hh hto hris hle hperm hob hbel;by_cases h0:hs.length=0
  ·have hz:¬ (0:Int)<(hs.length:Int):=by omega
   go_wp2_with fail;refine (Px (uh Hh)).mono ?_;rintro e w' ⟨rfl,h2⟩;subst w';go_wp2_with fail;go_ret;obtain rfl:hs=[]:=List.eq_nil_of_length_eq_zero h0;exact ⟨_,qs,rfl,uh Hq,uh Hris,by have:=uh Hpe;simpa using this,uh Hbel⟩
  ·obtain ⟨m,hm⟩:∃ m,hs.length=m+1:=⟨hs.length-1,by omega⟩
   have hz:(0:Int)<(hs.length:Int):=by omega
   go_wp2_with fail;refine (Px (uh Hh)).mono ?_;rintro e w' ⟨rfl,h2⟩;subst w';go_wp2_with fail;refine (Gi (uh Hh) (uh Hto) hm (by omega)).mono ?_;rintro e w1 ⟨rfl,v1,hs',hh1,hto1,hpe1,hob1,hf1⟩;obtain ⟨s1,s2,s3⟩:=BG (uh Hris) (uh Hle) (uh Hto) (by omega) (uh Hpe) hpe1;have hlen':hs'.length+1=hs.length:=by have:=hpe1.length_eq;simpa using this
   generalize Z7 hs 0=p at *;obtain ⟨f,z⟩:=p;have hta:=Ll f z;have S1:=Z9 s1;have S2:=Z9 s2;have S3:=Z9 s3;have H1:=Z9 hh1;have T1:=Z9 hto1;have O1:Hid (v1.ownBlock=v.ownBlock):=Z9 (hob1.trans (uh Hob));have Q1:Hid (EntsAt w.heap.size w1 (.slice qa qs.length qcap) qs):=Z9 ((uh Hq).fr hf1 (fun e=>by have:=(uh Hq).lt e;omega) (fun k e e2=>by have h8:=(uh Hq).lt e;have h9:=uh HO k ((uh Hob).symm.trans e2);omega));have hz1:=hf1.size;have B1:Hid (Below n₀ w w1):=Z9 ((uh Hbel).trans ((uh Hh).below (v':=v1) (qs:=hs) hf1 hx (by omega)));clear s1 s2 s3 hh1 hto1 hpe1 hob1 hf1 Hh Hto Hris Hle Hpe Hob Hbel Hq;go_wp2_with (at_builtin;refine V2 rfl (.tmp 8) (.tmp 13) 52 Tryz.underlying52 rfl w.heap.size _ _ qs [(f,z)] rfl rfl ((uh Q1).later ((ba _ _))) (Rm rfl (Z2 _) (by omega)) (by simp;omega) (by simp;omega) ?_;intro v' w2 hown hgrow hat)
   have hb0:Below w1.heap.size w1 (w1.alloc (.cells #[.int .i64 f,.int .i64 z] 91)):=ba _ _;have hq0:∀ k,(Value.slice qa qs.length qcap).ownBlock=some k->w.heap.size<=k:=fun k e=>((uh Q1).lt e).1;have hw2:Below w.heap.size (w1.alloc (.cells #[.int .i64 f,.int .i64 z] 91)) w2:=(Z1 _ _).grown hgrow (by simp;omega) (fun k e=>hq0 k e)
   have hh2:HeapIs n₀ bx v1 w2 hs':=by
    have h3:=(uh H1).later hb0;have hk:=hw2.block bx hbx;refine ⟨(World.cell?_of_block (a:=⟨bx,0,none⟩) hk).trans h3.cell,(World.frozen?_of_block (a:=⟨bx,0,none⟩) hk).trans h3.free,Zf h3.lt hw2.size,h3.row.same (fun k e=>hw2.block k ?_),h3.off⟩;exact (uh HO k ((uh O1).symm.trans e)).2
   have H2:=Z9 hh2;have N2:=Z9 hown;have B2:Hid (Below n₀ w w2):=Z9 ((uh B1).trans ((hb0.mono (by omega)).trans (hw2.mono hn)));clear hown hgrow hat hb0 hw2 hh2 hq0
   go_roundg (m)
   case measure=>omega
   case rel=>exact ⟨v1,qs++[(f,z)],hs',by omega,uh N2,uh H2,uh T1,uh S1,uh S2,uh S3,uh O1,uh B2⟩
theorem zw {ps:List Z4} {k:Nat} {p:Z4} (hp:Z7 ps k=p) (h:LA p=false):Vz ps k=false:=by unfold Vz;rw [hp];simp [h]
theorem zx {ps:List Z4} {k:Nat} {p q:Z4} (hz:0<k) (hp:Z7 ps k=p) (hq:Z7 ps (k-1)=q) (h:ltB q p=false):Vz ps k=false:=by unfold Vz;rw [hp,hq];simp [h];omega
theorem zy {ps:List Z4} {k:Nat} {f z:Int} (hp:Z7 ps k=(f,z)) (h:0<=VD (ps.take k) z):Vz ps k=false:=by unfold Vz;rw [hp];simp;intros;exact h
theorem zz {ps:List Z4} {k:Nat} {f z:Int} {q:Z4} (hz:0<k) (hp:Z7 ps k=(f,z)) (hq:Z7 ps (k-1)=q) (h1:LA (f,z)=true) (h2:ltB q (f,z)=true) (h:VD (ps.take k) z<0):Vz ps k=true:=by unfold Vz;rw [hp,hq];simp [h1,h2,h]
theorem zv {ps:List Z4} {p:Z4} (hp:Z7 ps 0=p) (h:LA p=true):Vz ps 0=true:=by unfold Vz;rw [hp];simp [h,VD]
theorem To  {ps:List Z4} {who F:Int} (hF:VD ps who=F) (h:IsPaces w v ps) :
  Calls Tryz.prog 275 #[v,.int .i64 who] w fun e w'=>e= .returned (.int .i64 F)/\Below w.heap.size w w':=by
 subst hF;exact G5 who h
theorem XX  {ps:List Z4} (h:IsPaces w v ps) :
  Calls Tryz.prog 243 #[v] w fun e w'=>e= .returned (.bool (Yf ps))/\Below w.heap.size w w':=by
 have Hr2:=Z9 h;obtain ⟨a,cap,rfl,hc,hm,hr⟩:=h;have Hr:=Z9 hr;clear hr;by_cases hbig:100<ps.length
 ·go_enter Tryz.func243,Tryz.ntmps243
  go_wp2_with fail;go_ret;exact ⟨Z5 (EL hbig).symm,Z1 _ _⟩
 go_enter Tryz.func243,Tryz.ntmps243;go_wp2_with fail
 go_loopw [10] (fun i wr=> ∃ k:Nat,k<=ps.length/\i= .int .i64 k/\(∀ j,j<k->Vz ps j=true)/\Below w.heap.size w wr) (fun i _=>ps.length-(intOf i).toNat)
 case atStart=>exact ⟨0,ZA _,rfl,fun j hj=>by omega,Z1 _ _⟩
 case round=>
  obtain ⟨k,hk,rfl,hst,hb⟩:=hrel;have Hst:=Z9 hst;have Hb:=Z9 hb;clear hst;by_cases hlt:k<ps.length
  ·rcases uh Hr with h0 | ⟨b,off,rfl,hbw,hcl⟩
   ·rw [h0] at hlt;simp at hlt
   have hbr:b<wr.heap.size:=Zf hbw hb.size;have hne:b ≠ wr.heap.size:=U5 hbr;obtain ⟨c0,c1⟩:=hcl k hlt;rw [<-hb.cell (p:=⟨b,off+k*2,none⟩) hbw] at c0;rw [<-hb.cell (p:=⟨b,off+k*2+1,none⟩) hbw] at c1;generalize hp:Z7 ps k=p at c0 c1;have Hp:=Z9 hp;clear hp;obtain ⟨f,z⟩:=p;simp only at c0 c1;have Hip:=Z9 ((((uh Hr2).below hb).cut (n:=k) (by omega)).below ((Z1 _ _).alloc (Z2 _) (.cells #[.int .i64 f,.int .i64 z] 91)));have d0:(wr.alloc (.cells #[.int .i64 f,.int .i64 z] 91)).cell? ⟨wr.heap.size,0,none⟩=some (.int .i64 f):=by simp
   have d1:(wr.alloc (.cells #[.int .i64 f,.int .i64 z] 91)).cell? ⟨wr.heap.size,1,none⟩=some (.int .i64 z):=by simp
   have k0:=ZW d0;have k1:=ZW d1;clear d0 d1;obtain ⟨F,hF⟩:∃ F,VD (ps.take k) z=F:=⟨_,rfl⟩
   have hFb:=zX (ps.take k) z;rw [hF] at hFb;have HF:=Z9 hF;clear hF;cases hpb:LA (f,z)
   ·clear hcl
    go_wp2_with fail;refine wq ?_
    repeat (go_big_quiet_step (first | exact ZY (U7 _ _ _) | exact ZY (Wj _ _ _ _ _) | exact ZY (To (uh HF) ((uh Hip).below (Z0 _ _ _)))))
    refine wpQuiet_nil ?_;intro _ hw';obtain ⟨⟨dq,osq⟩,hw''⟩:=hw';subst hw'';go_wp2_with fail;go_ret;exact ⟨Z5 (Mr hlt (zw (uh Hp) hpb)).symm,(uh Hb).trans (((Z1 _ _).alloc (uh Hb).size _).trans ((Z0 _ _ _).mono (by simp;have:=(uh Hb).size;omega)))⟩
   ·by_cases hz:0<k
    ·have hd:decide (0<k)=true:=Vx hz
     obtain ⟨e0,e1⟩:=hcl (k-1) (by omega);rw [<-hb.cell (p:=⟨b,off+(k-1)*2,none⟩) hbw] at e0;rw [<-hb.cell (p:=⟨b,off+(k-1)*2+1,none⟩) hbw] at e1;generalize hq:Z7 ps (k-1)=q at e0 e1;have Hq:=Z9 hq;clear hq;obtain ⟨f',z'⟩:=q;simp only at e0 e1;have m0:=ZW (w:=wr.alloc (.cells #[.int .i64 f,.int .i64 z] 91)) (a:=⟨b,off+(k-1)*2,none⟩) (v:= .int .i64 f') (by rw [World.cell?_alloc_old _ _ _ hne];exact e0);have m1:=ZW (w:=wr.alloc (.cells #[.int .i64 f,.int .i64 z] 91)) (a:=⟨b,off+(k-1)*2+1,none⟩) (v:= .int .i64 z') (by rw [World.cell?_alloc_old _ _ _ hne];exact e1);clear hcl e0 e1;cases hab:ltB (f',z') (f,z)
     ·go_wp2_with fail
      refine wq ?_
      repeat (go_big_quiet_step (first | exact ZY (U7 _ _ _) | exact ZY (Wj _ _ _ _ _) | exact ZY (To (uh HF) ((uh Hip).below (Z0 _ _ _)))))
      refine wpQuiet_nil ?_;intro _ hw';obtain ⟨⟨dq,osq⟩,hw''⟩:=hw';subst hw'';go_wp2_with fail;go_ret;exact ⟨Z5 (Mr hlt (zx hz (uh Hp) (uh Hq) hab)).symm,(uh Hb).trans (((Z1 _ _).alloc (uh Hb).size _).trans ((Z0 _ _ _).mono (by simp;have:=(uh Hb).size;omega)))⟩
     ·by_cases hF0:F= -1
      ·subst hF0
       go_wp2_with fail;refine wq ?_
       repeat (go_big_quiet_step (first | exact ZY (U7 _ _ _) | exact ZY (Wj _ _ _ _ _) | exact ZY (To (uh HF) ((uh Hip).below (Z0 _ _ _)))))
       refine wpQuiet_nil ?_;intro _ hw';obtain ⟨⟨dq,osq⟩,hw''⟩:=hw';subst hw'';go_wp2_with fail;go_roundw
       case rel=>exact ⟨k+1,by omega,by go_num,Yh (uh Hst) (zz hz (uh Hp) (uh Hq) hpb hab (by rw [uh HF];omega)),(uh Hb).trans (((Z1 _ _).alloc (uh Hb).size _).trans ((Z0 _ _ _).mono (by simp;have:=(uh Hb).size;omega)))⟩
       case measure=>exact ms
      ·have hF1:0<=F:=by omega
       have hF2:(F == -1)=false:=by simpa using hF0
       have hF3:(F != -1)=true:=by simpa using hF0
       clear hF0;go_wp2_with fail;refine wq ?_
       repeat (go_big_quiet_step (first | exact ZY (U7 _ _ _) | exact ZY (Wj _ _ _ _ _) | exact ZY (To (uh HF) ((uh Hip).below (Z0 _ _ _)))))
       refine wpQuiet_nil ?_;intro _ hw';obtain ⟨⟨dq,osq⟩,hw''⟩:=hw';subst hw'';go_wp2_with fail;go_ret;exact ⟨Z5 (Mr hlt (zy (uh Hp) (by rw [uh HF];exact hF1))).symm,(uh Hb).trans (((Z1 _ _).alloc (uh Hb).size _).trans ((Z0 _ _ _).mono (by simp;have:=(uh Hb).size;omega)))⟩
    ·obtain rfl:k=0:=by omega
     obtain rfl:F= -1:=by simp at hFb;omega
     simp only [Nat.zero_mul,Nat.add_zero] at c0 c1 k0 k1;clear hcl hz;go_wp2_with fail;refine wq ?_
     repeat (go_big_quiet_step (first | exact ZY (U7 _ _ _) | exact ZY (Wj _ _ _ _ _) | exact ZY (To (uh HF) ((uh Hip).below (Z0 _ _ _)))))
     refine wpQuiet_nil ?_;intro _ hw';obtain ⟨⟨dq,osq⟩,hw''⟩:=hw';subst hw'';go_wp2_with fail;go_roundw
     case rel=>exact ⟨1,by omega,by go_num,Yh (uh Hst) (zv (uh Hp) hpb),(uh Hb).trans (((Z1 _ _).alloc (uh Hb).size _).trans ((Z0 _ _ _).mono (by simp;have:=(uh Hb).size;omega)))⟩
     case measure=>exact ms
  ·obtain rfl:k=ps.length:=by omega
   go_wp2_with fail;go_ret;exact ⟨Z5 (G9 (by omega) (uh Hst)).symm,hb⟩
def xw (n₀:Nat) (r:List Z4 × Bool) (e:Ending) (w':World):Prop:= ∃ v',e= .returned (.tuple #[v',.bool r.2])/\EntsAt n₀ w' v' r.1
theorem EN {ps:List Z4} {e:Z4} (h:Yf ps=false):SM ps e=([],false):=by unfold SM;rw [h];rfl
theorem KP {ps:List Z4} {e:Z4} (h:Yf ps=true) (h2:Yf (Vb ps e)=false):SM ps e=(ps,false):=by unfold SM;rw [h,h2];rfl
theorem Oe {ps:List Z4} {e:Z4} (h:Yf ps=true) (h2:Yf (Vb ps e)=true):SM ps e=(Vb ps e,true):=by unfold SM;rw [h,h2];rfl
theorem LV  {ps:List Z4} (f z:Int) (h:IsPaces w v ps) :
  Calls Tryz.prog 201 #[v,.agg #[.int .i64 f,.int .i64 z]] w fun e w'=>xw w.heap.size (SM ps (f,z)) e w'/\Below w.heap.size w w':=by
 have Hv:=Z9 h;obtain ⟨a,cap,rfl,hc,hm,hr⟩:=h;clear hr;cases hq:Yf ps
 ·rw [EN hq]
  go_enter Tryz.func201,Tryz.ntmps201;go_wp2_with fail;refine (XX ((uh Hv).below ((ba _ _)))).mono ?_;rw [hq];rintro e w1 ⟨rfl,hb1⟩;have B1:Hid (Below w.heap.size w w1):=Z9 (((ba _ _)).trans (hb1.mono (by simp)));clear hb1;go_wp2_with fail
  go_ret2
  exact ⟨⟨_,rfl,Vn rfl (uh B1).size⟩,(uh B1).alloc (uh B1).size _⟩
 ·have hQ:=xX hq
  have hlen:=hQ.len;have HQ:=Z9 hQ;clear hQ;go_enter Tryz.func201,Tryz.ntmps201;go_wp2_with fail;refine (XX ((uh Hv).below ((ba _ _)))).mono ?_;rw [hq];rintro e w1 ⟨rfl,hb1⟩;have hz1:w.heap.size+1<=w1.heap.size:=by have:=hb1.size;simpa using this
  have c0:w1.cell? ⟨w.heap.size,0,none⟩=some (.int .i64 f):=(hb1.cell (p:=⟨w.heap.size,0,none⟩) (by simp)).trans (by simp);have c1:w1.cell? ⟨w.heap.size,1,none⟩=some (.int .i64 z):=(hb1.cell (p:=⟨w.heap.size,1,none⟩) (by simp)).trans (by simp);have B1:Hid (Below w.heap.size w w1):=Z9 (((ba _ _)).trans (hb1.mono (by simp)));clear hb1;go_wp2_with fail;refine (Ed ((uh Hv).below (uh B1)) (by omega)).mono ?_;rintro e w2 ⟨bx,v2,rfl,hbx,hh2,hb2⟩;have hlt1:w.heap.size<w1.heap.size:=by omega
  have d0:=(hb2.cell (p:=⟨w.heap.size,0,none⟩) hlt1).trans c0;have d1:=(hb2.cell (p:=⟨w.heap.size,1,none⟩) hlt1).trans c1;have hz2:=hb2.size;have H2:=Z9 hh2;have B2:Hid (Below w.heap.size w w2):=Z9 ((uh B1).trans (hb2.mono (by omega)));clear hb2 hh2 c0 c1;go_wp2_with fail;refine (Je f z (uh H2) (AP (uh HQ).ris) (by omega) hbx hz2).mono ?_;rintro e w3 ⟨rfl,v3,hs,hh3,hto3,hpe3,hb3⟩;have hz3:=hb3.size;have hsl:hs.length=ps.length+1:=by have:=hpe3.length_eq;simpa using this
  have H3:=Z9 hh3;have T3:=Z9 hto3;have P3:=Z9 hpe3;have B3:Hid (Below w.heap.size w w3):=Z9 ((uh B2).trans (hb3.mono (by omega)));clear hb3 hh3 hto3 hpe3 d0 d1;go_wp2_with fail;refine (FZ (uh H3) (uh T3) (by omega) hbx (by omega)).mono ?_;rintro e w4 ⟨v4,qs,rfl,hi4,hris4,hpe4,hb4⟩;obtain rfl:qs=Vb ps (f,z):=E7 (uh HQ) hris4 (hpe4.trans (uh P3));have hz4:=hb4.size;obtain ⟨a4,cap4,rfl⟩:=hi4.shape;have H4:=Z9 hi4;have B4:Hid (Below w.heap.size w w4):=Z9 ((uh B3).trans (hb4.mono (by omega)));clear hi4 hris4 hpe4 hb4 H2 H3 T3 P3;go_wp2_with fail;refine (XX (uh H4).pc).mono ?_;cases hq2:Yf (Vb ps (f,z))
  ·rintro e w5 ⟨rfl,hb5⟩
   have B5:Hid (Below w.heap.size w w5):=Z9 ((uh B4).trans (hb5.mono (by omega)));clear hb5;go_wp2_with fail;refine (Lw ((uh Hv).below (uh B5)) (by omega)).mono ?_;rintro e w6 ⟨v6,rfl,hi6,hb6⟩;obtain ⟨a6,cap6,rfl⟩:=hi6.shape;have H6:=Z9 hi6;have B6:Hid (Below w.heap.size w w6):=Z9 ((uh B5).trans (hb6.mono (uh B5).size));clear hi6 hb6;go_wp2_with fail
   go_ret2
   rw [KP hq hq2];exact ⟨⟨_,rfl,(uh H6).mono (uh B5).size⟩,uh B6⟩
  ·rintro e w5 ⟨rfl,hb5⟩
   have H5:=Z9 ((uh H4).later hb5);have B5:Hid (Below w.heap.size w w5):=Z9 ((uh B4).trans (hb5.mono (by omega)));clear hb5;go_wp2_with fail
   go_ret2
   rw [Oe hq hq2];exact ⟨⟨_,rfl,(uh H5).mono (by omega)⟩,uh B5⟩
end Go.Proofs.YtamgfpdahadnfaaGreatDoor
