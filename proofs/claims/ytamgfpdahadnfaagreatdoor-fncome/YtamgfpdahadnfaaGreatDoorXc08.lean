/- Part 8 of what the proof rests on. No condition but those that a theorem names. -/
import Derived.Test.YtamgfpdahadnfaaGreatDoorXc07
import Derived.ChangeKeysEq
set_option maxHeartbeats 8000000
set_option maxRecDepth 100000
namespace Go.Proofs.YtamgfpdahadnfaaGreatDoor
open Go.ChangeShapes Go.WideShapes Go.ChangeAt Go.RowKit Go.Sort
set_option linter.unusedVariables false
set_option maxRecDepth 100000
theorem D4 (a b c d:Int) (w:World):(Op.equalIn 10000 171 (.agg #[.int .i64 a,.int .i64 b]) (.agg #[.int .i64 c,.int .i64 d])).run Tryz.prog w= .ok (a ==c && b ==d) w:=by
 have u:=Tryz.underlying2;have ag:=Tryz.isAgg2;have z:=Tryz.sizeOf2;have hc:Tryz.prog.cellsOf 2=1:=by kernel_rfl
 obtain ⟨i,hi⟩:=Option.isSome_iff_exists.1 (show (Tryz.prog.info? 2).isSome=true by kernel_rfl);rw [show (10000:Nat)=9999+1 from rfl,run_equalIn_array w 9999 _ _ Tryz.underlying171 hi,hc];simp only [show List.range 2=[0,1] from rfl,Op.eqItems];go_simp;by_cases h:a=c
 ·subst h
  by_cases h2:b=d
  ·subst h2;simp
  ·simp [h2]
 ·simp [h]
theorem zZ (a b c d:Int) (w:World):(binOp .eql 171 (.agg #[.int .i64 a,.int .i64 b]) (.agg #[.int .i64 c,.int .i64 d])).run Tryz.prog w= .ok (.bool (a ==c && b ==d)) w:=by
 rw [run_eql_struct,D4];rfl
theorem Pv (lo hi n:Int) (w:World):Calls Tryz.prog 235 #[.agg #[.int .i64 lo,.int .i64 hi],.int .i64 n] w fun e w'=>e= .returned (.agg #[.int .i64 (min lo n),.int .i64 (max hi n)])/\Below w.heap.size w w':=by
 by_cases h1:lo<=n
 all_goals
  by_cases h2:hi<n
  all_goals
   go_enter Tryz.func235,Tryz.ntmps235;go_wp2_with fail;exact ZS (v:= .agg #[.int .i64 (min lo n),.int .i64 (max hi n)]) (by simp [results,Tryz.results235,go_sem];omega) rfl ⟨rfl,((ba _ _)).alloc (by simp) _⟩
theorem LL (m:Int) (w:World) (m0 : -1000000000000<=m) (m1:m<=1000000000000):Calls Tryz.prog 187 #[.int .i64 m] w fun e w'=>e= .returned (.agg #[.int .i64 (m-20000),.int .i64 (m+63000)])/\Below w.heap.size w w':=by
 go_enter Tryz.func187,Tryz.ntmps187;go_wp2_with fail;exact ZS (v:= .agg #[.int .i64 (m-20000),.int .i64 (m+63000)]) (by simp [results,Tryz.results187,go_sem]) rfl ⟨rfl,(ba _ _)⟩
theorem K7 (lo hi:Int) (w:World):Calls Tryz.prog 188 #[.agg #[.int .i64 lo,.int .i64 hi]] w fun e w'=>e= .returned (.int .i64 lo)/\Below w.heap.size w w':=by
 go_enter Tryz.func188,Tryz.ntmps188;go_wp2_with fail;go_ret;exact ⟨rfl,(ba _ _)⟩
def loL (lo:Int) (zs:List Int):Int:=zs.foldl min lo
def hiL (hi:Int) (zs:List Int):Int:=zs.foldl max hi
theorem yC (zs:List Int):∀ lo,loL lo zs<=lo:=by
 induction zs with
 | nil=>intro lo;exact Int.le_refl _
 | cons z zs ih=>intro lo;exact Int.le_trans (ih (min lo z)) (Int.min_le_left _ _)
theorem yA (zs:List Int):∀ hi,hi<=hiL hi zs:=by
 induction zs with
 | nil=>intro hi;exact Int.le_refl _
 | cons z zs ih=>intro hi;exact Int.le_trans (Int.le_max_left _ _) (ih (max hi z))
theorem JR (zs:List Int):∀ lo hi,(loL lo zs ==lo && hiL hi zs ==hi)=zs.all fun z=>inB z lo hi:=by
 induction zs with
 | nil=>intro lo hi;simp [loL,hiL]
 | cons z zs ih=>
  intro lo hi;show (loL (min lo z) zs ==lo && hiL (max hi z) zs ==hi)=(inB z lo hi && zs.all fun z=>inB z lo hi)
  cases hz:inB z lo hi
  ·have hn:¬ (lo<=z/\z<=hi):=of_decide_eq_false hz
   have h1:=yC zs (min lo z);have h2:=yA zs (max hi z);simp only [Bool.false_and,Bool.and_eq_false_iff,beq_eq_false_iff_ne];omega
  ·obtain ⟨h1,h2⟩:=ZN hz
   rw [show min lo z=lo by omega,show max hi z=hi by omega,ih];rfl
theorem AJ {lo:Int} {zs:List Int} {k:Nat} (hk:k<zs.length):loL lo (zs.take (k+1))=min (loL lo (zs.take k)) (zs.getD k 0):=by
 unfold loL;rw [List.take_succ_eq_append_getElem hk,List.foldl_append];simp [List.getD,List.getElem?_eq_getElem hk]
theorem Av {hi:Int} {zs:List Int} {k:Nat} (hk:k<zs.length):hiL hi (zs.take (k+1))=max (hiL hi (zs.take k)) (zs.getD k 0):=by
 unfold hiL;rw [List.take_succ_eq_append_getElem hk,List.foldl_append];simp [List.getD,List.getElem?_eq_getElem hk]
attribute [local go_sem ↓] zZ
theorem QC (lo hi:Int) (b cap:Nat) (zs:List Int) (w:World) (hl:zs.length<=1000) (hb:b<w.heap.size) (hc:∀ k,k<zs.length->w.cell? ⟨b,k,none⟩=some (.int .i64 (zs.getD k 0))) :
  Calls Tryz.prog 189 #[.agg #[.int .i64 lo,.int .i64 hi],.slice (some ⟨b,0,none⟩) zs.length cap] w fun e w'=>e= .returned (.bool (zs.all fun z=>inB z lo hi))/\Below w.heap.size w w':=by
 have Hc:=Z9 hc;clear hc;go_enter Tryz.func189,Tryz.ntmps189;go_wp2_with fail
 go_loopw [11] (fun i wr=> ∃ k:Nat,k<=zs.length/\i= .int .i64 k/\Blk wr (w.heap.size+1) 171 #[.int .i64 (loL lo (zs.take k)),.int .i64 (hiL hi (zs.take k))]/\Blk wr w.heap.size 171 #[.int .i64 lo,.int .i64 hi]/\Below w.heap.size w wr) (fun i _=>zs.length-(intOf i).toNat)
 case atStart=>
  refine ⟨0,Zz _,rfl,?_,(Blk.new w _ _).alloc _,((ba _ _)).alloc (by simp) _⟩;have:=Blk.new (w.alloc (.cells #[.int .i64 lo,.int .i64 hi] 171)) 171 #[.int .i64 lo,.int .i64 hi];simpa [loL,hiL] using this
 case round=>
  obtain ⟨k,hk,rfl,hs,ho,hbl⟩:=hrel;have Hs:=Z9 hs;have Ho:=Z9 ho;have Hb:=Z9 hbl;by_cases hlt:k<zs.length
  ·have c0:=uh Hc k hlt
   rw [<-hbl.cell (p:=⟨b,k,none⟩) hb] at c0;have e1:=AJ (lo:=lo) hlt;have e2:=Av (hi:=hi) hlt;have s0:=hs.cell (i:=0) rfl;have s1:=hs.cell (i:=1) rfl;have g0:=hs.free 0;have g1:=hs.free 1;generalize zs.getD k 0=z at *;generalize loL lo (zs.take k)=x at *;generalize hiL hi (zs.take k)=y at *;have E1:=Z9 e1;have E2:=Z9 e2;clear e1 e2 hs ho hbl;go_wp2_with fail;refine ck (Pv x y z _) fun w1 hb1=> ?_;have hs1:=(uh Hs).below hb1 (uh Hs).lt;have Hs1:=Z9 hs1;have Ho1:Hid (Blk w1 w.heap.size 171 #[.int .i64 lo,.int .i64 hi]):=Z9 ((uh Ho).below hb1 (uh Ho).lt);have B1:Hid (Below w.heap.size w w1):=Z9 ((uh Hb).trans (hb1.mono (uh Hb).size));have s0:=hs1.cell (i:=0) rfl;have s1:=hs1.cell (i:=1) rfl;have g0:=hs1.free 0;have g1:=hs1.free 1;clear hs1 hb1;go_wp2_with fail;go_roundw
   case rel=>
    refine ⟨k+1,by omega,by go_num,?_,?_,?_⟩
    ·rw [uh E1,uh E2]
     simpa using ((uh Hs1).set 0 (.int .i64 (min x z))).set 1 (.int .i64 (max y z))
    ·exact ((uh Ho1).other (by simp) _).other (by simp) _
    ·exact ((uh B1).setCell (by simp) _).setCell (by simp) _
   case measure=>exact ms
  ·obtain rfl:k=zs.length:=by omega
   rw [List.take_length] at hs;have e3:=JR zs lo hi;have s0:=hs.cell (i:=0) rfl;have s1:=hs.cell (i:=1) rfl;have o0:=ho.cell (i:=0) rfl;have o1:=ho.cell (i:=1) rfl;generalize loL lo zs=x at *;generalize hiL hi zs=y at *;have E3:=Z9 e3;clear e3 hs ho hbl Hs;go_wp2_with fail;go_ret;exact ⟨Z5 (uh E3),uh Hb⟩
theorem WX (b cap:Nat) (zs:List Int) (w:World) (hl:zs.length<=1000) (hb:b<w.heap.size) (hc:∀ k,k<zs.length->w.cell? ⟨b,k,none⟩=some (.int .i64 (zs.getD k 0))) :
  Calls Tryz.prog 186 #[.slice (some ⟨b,0,none⟩) zs.length cap] w fun e w'=>e= .returned (.bool (zs.all fun z=>inB z (-1000000000000) 1000000000000))/\Below w.heap.size w w':=by
 have Hc:=Z9 hc;clear hc;go_enter Tryz.func186,Tryz.ntmps186;go_wp2_with fail;refine ck (QC _ _ b cap zs _ hl hb (uh Hc)) fun w1 hb1=> ?_;have B1:=Z9 hb1;clear hb1;go_wp2_with fail;go_ret;exact ⟨rfl,uh B1⟩
theorem Ru (h m:Int) (w:World):Calls Tryz.prog 129 #[.int .i64 h,.int .i64 m] w fun e w'=>e= .returned (.bool (V2 h m))/\Below w.heap.size w w':=by
 cases hh:Xe h && Xe m
 ·have hs:V2 h m=false:=by unfold V2;rw [hh];rfl
  have Hs:=Z9 hs;clear hs;go_enter Tryz.func129,Tryz.ntmps129;go_wp2_with fail;refine (WX _ _ [h,m] _ (by simp) (by simp) ?_).mono ?_
  ·intro k hk
   simp at hk
   match k,hk with
   | 0,_=>simp
   | 1,_=>simp
  rintro e w1 ⟨rfl,hb⟩;rw [Dq,hh];have B1:Hid (Below w.heap.size w w1):=Z9 (((ba _ _)).trans (hb.mono (by simp)));clear hb;go_wp2_with fail;go_ret;exact ⟨Z5 (uh Hs).symm,uh B1⟩
 ·have hs:V2 h m=inB (h-m) (-20000) 63000:=by unfold V2;rw [hh];rfl
  have Hs:=Z9 hs;have h':=hh;simp only [ZP] at h';obtain ⟨m0,m1⟩:=Sx h'.2;clear hs h';go_enter Tryz.func129,Tryz.ntmps129;go_wp2_with fail;refine (WX _ _ [h,m] _ (by simp) (by simp) ?_).mono ?_
  ·intro k hk
   simp at hk
   match k,hk with
   | 0,_=>simp
   | 1,_=>simp
  rintro e w1 ⟨rfl,hb⟩;rw [Dq,hh];have B1:Hid (Below w.heap.size w w1):=Z9 (((ba _ _)).trans (hb.mono (by simp)));clear hb;go_wp2_with fail;refine ck (LL m _ m0 m1) fun w2 hb=> ?_;have B2:Hid (Below w.heap.size w w2):=Z9 ((uh B1).trans (hb.mono (uh B1).size));clear hb B1;go_wp2_with fail;refine (QC _ _ _ _ [h] _ (by simp) (by simp) ?_).mono ?_
  ·intro k hk
   simp at hk;subst hk;simp
  rintro e w3 ⟨rfl,hb⟩;rw [zu];have B3:Hid (Below w.heap.size w w3):=Z9 (((uh B2).alloc (uh B2).size _).trans (hb.mono (by have:=(uh B2).size;simp;omega)));clear hb B2;go_wp2_with fail;go_ret;exact ⟨Z5 (uh Hs).symm,uh B3⟩
theorem Ml (h m:Int) (w:World):Calls Tryz.prog 127 #[.int .i64 h,.int .i64 m] w fun e w'=>e= .returned (.int .i64 (Zj h m))/\Below w.heap.size w w':=by
 cases hh:Xe m
 ·have hs:Zj h m=h:=by unfold Zj;rw [hh];rfl
  have Hs:=Z9 hs;clear hs;go_enter Tryz.func127,Tryz.ntmps127;go_wp2_with fail;refine (WX _ _ [m] _ (by simp) (by simp) ?_).mono ?_
  ·intro k hk
   simp at hk;subst hk;simp
  rintro e w1 ⟨rfl,hb⟩;rw [yX,hh];have B1:Hid (Below w.heap.size w w1):=Z9 (((ba _ _)).trans (hb.mono (by simp)));clear hb;go_wp2_with fail;go_ret;exact ⟨ZC (uh Hs).symm,uh B1⟩
 ·have hs:Zj h m=max h (m-20000):=by unfold Zj;rw [hh];rfl
  obtain ⟨m0,m1⟩:=Sx hh;have Hs:=Z9 hs;clear hs;by_cases hc:h<m-20000
  all_goals
   go_enter Tryz.func127,Tryz.ntmps127;go_wp2_with fail;refine (WX _ _ [m] _ (by simp) (by simp) ?_).mono ?_
   ·intro k hk
    simp at hk;subst hk;simp
   rintro e w1 ⟨rfl,hb⟩;rw [yX,hh];have B1:Hid (Below w.heap.size w w1):=Z9 (((ba _ _)).trans (hb.mono (by simp)));clear hb;go_wp2_with fail;refine ck (LL m _ m0 m1) fun w2 hb=> ?_;have B2:Hid (Below w.heap.size w w2):=Z9 ((uh B1).trans (hb.mono (uh B1).size));clear hb B1;go_wp2_with fail;refine ck (K7 _ _ _) fun w3 hb=> ?_;have B3:Hid (Below w.heap.size w w3):=Z9 ((uh B2).trans (hb.mono (uh B2).size));clear hb B2;go_wp2_with fail;go_ret;exact ⟨ZC (by rw [uh Hs];omega),uh B3⟩
theorem Le (h f t:Int) (w:World):Calls Tryz.prog 128 #[.int .i64 h,.int .i64 f,.int .i64 t] w fun e w'=>e= .returned (.int .i64 (Zq h f t))/\Below w.heap.size w w':=by
 cases hh:Xe h && (Xe f && Xe t)
 ·have hs:Zq h f t=h:=by unfold Zq;rw [hh];rfl
  have Hs:=Z9 hs;clear hs;go_enter Tryz.func128,Tryz.ntmps128;go_wp2_with fail;refine (WX _ _ [h,f,t] _ (by simp) (by simp) ?_).mono ?_
  ·intro k hk
   simp at hk
   match k,hk with
   | 0,_=>simp
   | 1,_=>simp
   | 2,_=>simp
  rintro e w1 ⟨rfl,hb⟩;rw [yY,hh];have B1:Hid (Below w.heap.size w w1):=Z9 (((ba _ _)).trans (hb.mono (by simp)));clear hb;go_wp2_with fail;go_ret;exact ⟨ZC (uh Hs).symm,uh B1⟩
 ·have hs:Zq h f t=h-f+t:=by unfold Zq;rw [hh];rfl
  have Hs:=Z9 hs;have h':=hh;simp only [ZP] at h';obtain ⟨h0,h1⟩:=Sx h'.1;obtain ⟨f0,f1⟩:=Sx h'.2.1;obtain ⟨t0,t1⟩:=Sx h'.2.2;clear hs h';go_enter Tryz.func128,Tryz.ntmps128;go_wp2_with fail;refine (WX _ _ [h,f,t] _ (by simp) (by simp) ?_).mono ?_
  ·intro k hk
   simp at hk
   match k,hk with
   | 0,_=>simp
   | 1,_=>simp
   | 2,_=>simp
  rintro e w1 ⟨rfl,hb⟩;rw [yY,hh];have B1:Hid (Below w.heap.size w w1):=Z9 (((ba _ _)).trans (hb.mono (by simp)));clear hb;go_wp2_with fail;go_ret;exact ⟨ZC (uh Hs).symm,uh B1⟩
theorem Mj (m f:Int) (w:World):Calls Tryz.prog 215 #[.int .i64 m,.int .i64 f] w fun e w'=>e= .returned (.int .i64 (Zu m f))/\Below w.heap.size w w':=by
 cases hh:Xe m && Xe f
 ·have hs:Zu m f=m:=by unfold Zu;rw [hh];rfl
  have Hs:=Z9 hs;clear hs;go_enter Tryz.func215,Tryz.ntmps215;go_wp2_with fail;refine (WX _ _ [m,f] _ (by simp) (by simp) ?_).mono ?_
  ·intro k hk
   simp at hk
   match k,hk with
   | 0,_=>simp
   | 1,_=>simp
  rintro e w1 ⟨rfl,hb⟩;rw [Dq,hh];have B1:Hid (Below w.heap.size w w1):=Z9 (((ba _ _)).trans (hb.mono (by simp)));clear hb;go_wp2_with fail;go_ret;exact ⟨ZC (uh Hs).symm,uh B1⟩
 ·have hs:Zu m f=min (max m f) 900000000000:=by unfold Zu;rw [hh];rfl
  have Hs:=Z9 hs;clear hs;go_enter Tryz.func215,Tryz.ntmps215;go_wp2_with fail;refine (WX _ _ [m,f] _ (by simp) (by simp) ?_).mono ?_
  ·intro k hk
   simp at hk
   match k,hk with
   | 0,_=>simp
   | 1,_=>simp
  rintro e w1 ⟨rfl,hb⟩;rw [Dq,hh];have B1:Hid (Below w.heap.size w w1):=Z9 (((ba _ _)).trans (hb.mono (by simp)));clear hb;go_wp2_with fail;refine ck (UZ m f 900000000000 _) fun w2 hw2=> ?_;subst w2;go_wp2_with fail;go_ret;exact ⟨ZC (uh Hs).symm,uh B1⟩
theorem FT (x:Int) (w:World):Calls Tryz.prog 103 #[.int .i64 x] w fun e w'=>e= .returned (.bool (Xe x))/\w'=w:=by
 go_enter Tryz.func103,Tryz.ntmps103;go_wp2_with (go_at_call 59;refine (ZV _ _ _ _).mono ?_;rintro e w' ⟨rfl,rfl⟩)
 go_ret;exact ⟨rfl,rfl⟩
theorem Ys {x:Int} {r:Bool} (h:Xe x=r) (w:World):Calls Tryz.prog 103 #[.int .i64 x] w fun e w'=>e= .returned (.bool r)/\w'=w:=by
 rw [<-h];exact FT x w
theorem Ng (h m:Int) (w:World):Calls Tryz.prog 65 #[.int .i64 h,.int .i64 m] w fun e w'=>e= .returned (.int .i64 (Zj h m))/\w'=w:=by
 cases h2:Xe m
 ·have hs:Zj h m=h:=by unfold Zj;rw [h2];rfl
  have Hs:=Z9 hs;have H2:=Z9 h2;clear hs h2;go_enter Tryz.func65,Tryz.ntmps65;go_wp2_with (go_at_call 103;refine (Ys (uh H2) _).mono ?_;rintro e w' ⟨rfl,rfl⟩)
  go_ret;exact ⟨ZC (uh Hs).symm,rfl⟩
 have hs:Zj h m=max h (m-20000):=by unfold Zj;rw [h2];rfl
 obtain ⟨b0,b1⟩:=Sx h2;have Hs:=Z9 hs;have H2:=Z9 h2;clear hs h2;go_enter Tryz.func65,Tryz.ntmps65;go_wp2_with (first | (go_at_call 124;refine (Tj _ _ _).mono ?_;rintro e w' ⟨rfl,rfl⟩) | (go_at_call 103;refine (Ys (uh H2) _).mono ?_;rintro e w' ⟨rfl,rfl⟩))
 go_ret;exact ⟨ZC (uh Hs).symm,rfl⟩
theorem QO (h f t:Int) (w:World):Calls Tryz.prog 66 #[.int .i64 h,.int .i64 f,.int .i64 t] w fun e w'=>e= .returned (.int .i64 (Zq h f t))/\w'=w:=by
 cases h1:Xe h
 ·have hs:Zq h f t=h:=by unfold Zq;rw [h1];rfl
  have Hs:=Z9 hs;have H1:=Z9 h1;clear hs h1;go_enter Tryz.func66,Tryz.ntmps66;go_wp2_with (go_at_call 103;refine (Ys (uh H1) _).mono ?_;rintro e w' ⟨rfl,rfl⟩)
  go_ret;exact ⟨ZC (uh Hs).symm,rfl⟩
 cases h2:Xe f
 ·have hs:Zq h f t=h:=by unfold Zq;rw [h1,h2];rfl
  have Hs:=Z9 hs;have H1:=Z9 h1;have H2:=Z9 h2;clear hs h1 h2;go_enter Tryz.func66,Tryz.ntmps66;go_wp2_with (go_at_call 103;first | (refine (Ys (uh H1) _).mono ?_;rintro e w' ⟨rfl,rfl⟩) | (refine (Ys (uh H2) _).mono ?_;rintro e w' ⟨rfl,rfl⟩))
  go_ret;exact ⟨ZC (uh Hs).symm,rfl⟩
 cases h3:Xe t
 ·have hs:Zq h f t=h:=by unfold Zq;rw [h1,h2,h3];rfl
  have Hs:=Z9 hs;have H1:=Z9 h1;have H2:=Z9 h2;have H3:=Z9 h3;clear hs h1 h2 h3;go_enter Tryz.func66,Tryz.ntmps66;go_wp2_with (go_at_call 103;first | (refine (Ys (uh H1) _).mono ?_;rintro e w' ⟨rfl,rfl⟩) | (refine (Ys (uh H2) _).mono ?_;rintro e w' ⟨rfl,rfl⟩) | (refine (Ys (uh H3) _).mono ?_;rintro e w' ⟨rfl,rfl⟩))
  go_ret;exact ⟨ZC (uh Hs).symm,rfl⟩
 have hs:Zq h f t=h-f+t:=by unfold Zq;rw [h1,h2,h3];rfl
 obtain ⟨a0,a1⟩:=Sx h1;obtain ⟨b0,b1⟩:=Sx h2;obtain ⟨c0,c1⟩:=Sx h3;have Hs:=Z9 hs;have H1:=Z9 h1;have H2:=Z9 h2;have H3:=Z9 h3;clear hs h1 h2 h3;go_enter Tryz.func66,Tryz.ntmps66;go_wp2_with (go_at_call 103;first | (refine (Ys (uh H1) _).mono ?_;rintro e w' ⟨rfl,rfl⟩) | (refine (Ys (uh H2) _).mono ?_;rintro e w' ⟨rfl,rfl⟩) | (refine (Ys (uh H3) _).mono ?_;rintro e w' ⟨rfl,rfl⟩))
 go_ret;exact ⟨ZC (uh Hs).symm,rfl⟩
theorem Nb (m f:Int) (w:World):Calls Tryz.prog 173 #[.int .i64 m,.int .i64 f] w fun e w'=>e= .returned (.int .i64 (Zu m f))/\w'=w:=by
 cases h1:Xe m
 ·have hs:Zu m f=m:=by unfold Zu;rw [h1];rfl
  have Hs:=Z9 hs;have H1:=Z9 h1;clear hs h1;go_enter Tryz.func173,Tryz.ntmps173;go_wp2_with (go_at_call 103;refine (Ys (uh H1) _).mono ?_;rintro e w' ⟨rfl,rfl⟩)
  go_ret;exact ⟨ZC (uh Hs).symm,rfl⟩
 cases h2:Xe f
 ·have hs:Zu m f=m:=by unfold Zu;rw [h1,h2];rfl
  have Hs:=Z9 hs;have H1:=Z9 h1;have H2:=Z9 h2;clear hs h1 h2;go_enter Tryz.func173,Tryz.ntmps173;go_wp2_with (go_at_call 103;first | (refine (Ys (uh H1) _).mono ?_;rintro e w' ⟨rfl,rfl⟩) | (refine (Ys (uh H2) _).mono ?_;rintro e w' ⟨rfl,rfl⟩))
  go_ret;exact ⟨ZC (uh Hs).symm,rfl⟩
 have hs:Zu m f=min (max m f) 900000000000:=by unfold Zu;rw [h1,h2];rfl
 have Hs:=Z9 hs;have H1:=Z9 h1;have H2:=Z9 h2;clear hs h1 h2;go_enter Tryz.func173,Tryz.ntmps173;go_wp2_with (first | (go_at_call 124;refine (Tj _ _ _).mono ?_;rintro e w' ⟨rfl,rfl⟩) | (go_at_call 222;refine (Kf _ _ _).mono ?_;rintro e w' ⟨rfl,rfl⟩) | (go_at_call 103;first | (refine (Ys (uh H1) _).mono ?_;rintro e w' ⟨rfl,rfl⟩) | (refine (Ys (uh H2) _).mono ?_;rintro e w' ⟨rfl,rfl⟩)))
 go_ret;exact ⟨ZC (uh Hs).symm,rfl⟩
end Go.Proofs.YtamgfpdahadnfaaGreatDoor
namespace Go.Proofs.YtamgfpdahadnfaaGreatDoor
open Go.ChangeShapes Go.WideShapes Go.ChangeAt Go.RowKit Go.Sort
set_option linter.unusedVariables false
set_option maxRecDepth 100000
def SK (d:XN):Bool:=d.1
theorem Rs (a:Option Addr) (n cap:Nat) (i:Int) (w:World):Calls Tryz.prog 182 #[.slice a n cap,.int .i64 i] w fun e w'=>e= .returned (.bool (Xf n i))/\w'=w:=by
 by_cases h0:0<=i
 ·by_cases h1:i<(n:Int)
  all_goals
   go_enter Tryz.func182,Tryz.ntmps182;go_wp2_with fail;go_ret;exact ⟨Z5 (by unfold Xf;simp [h0,h1]),rfl⟩
 ·go_enter Tryz.func182,Tryz.ntmps182
  go_wp2_with fail;go_ret;exact ⟨Z5 (by unfold Xf;simp;omega),rfl⟩
theorem Jq (a:Option Addr) (n cap:Nat) (i:Int) (w:World):Calls Tryz.prog 185 #[.slice a n cap,.int .i64 i] w fun e w'=>e= .returned (.bool (Xf n i))/\w'=w:=by
 by_cases h0:0<=i
 ·by_cases h1:i<(n:Int)
  all_goals
   go_enter Tryz.func185,Tryz.ntmps185;go_wp2_with fail;go_ret;exact ⟨Z5 (by unfold Xf;simp [h0,h1]),rfl⟩
 ·go_enter Tryz.func185,Tryz.ntmps185
  go_wp2_with fail;go_ret;exact ⟨Z5 (by unfold Xf;simp;omega),rfl⟩
theorem Jp (a:Option Addr) (n cap:Nat) (i:Int) (w:World):Calls Tryz.prog 165 #[.slice a n cap,.int .i64 i] w fun e w'=>e= .returned (.bool (Xf n i))/\w'=w:=by
 by_cases h0:0<=i
 ·by_cases h1:i<(n:Int)
  all_goals
   go_enter Tryz.func165,Tryz.ntmps165;go_wp2_with fail;go_ret;exact ⟨Z5 (by unfold Xf;simp [h0,h1]),rfl⟩
 ·go_enter Tryz.func165,Tryz.ntmps165
  go_wp2_with fail;go_ret;exact ⟨Z5 (by unfold Xf;simp;omega),rfl⟩
theorem Gx (a:Option Addr) (n cap:Nat) (i:Int) (w:World):Calls Tryz.prog 229 #[.slice a n cap,.int .i64 i] w fun e w'=>e= .returned (.bool (Xf n i))/\w'=w:=by
 by_cases h0:0<=i
 ·by_cases h1:i<(n:Int)
  all_goals
   go_enter Tryz.func229,Tryz.ntmps229;go_wp2_with fail;go_ret;exact ⟨Z5 (by unfold Xf;simp [h0,h1]),rfl⟩
 ·go_enter Tryz.func229,Tryz.ntmps229
  go_wp2_with fail;go_ret;exact ⟨Z5 (by unfold Xf;simp;omega),rfl⟩
theorem VY (st be rk my gu lo hi hd ca ut wk:Int) (w:World):Calls Tryz.prog 164 #[.agg (I11 st be rk my gu lo hi hd ca ut wk)] w fun e w'=>e= .returned (.bool (st ==0))/\Below w.heap.size w w':=by
 go_enter Tryz.func164,Tryz.ntmps164;go_wp2_with fail;go_ret;exact ⟨rfl,(ba _ _)⟩
theorem Mp (st be rk my gu lo hi hd ca ut wk:Int) (w:World):Calls Tryz.prog 126 #[.agg (I11 st be rk my gu lo hi hd ca ut wk)] w fun e w'=>e= .returned (.bool (st ==1))/\Below w.heap.size w w':=by
 go_enter Tryz.func126,Tryz.ntmps126;go_wp2_with fail;go_ret;exact ⟨rfl,(ba _ _)⟩
theorem Qm (op:Bool) (who mk:Int) (w:World):Calls Tryz.prog 143 #[.agg #[.bool op,.int .i64 who,.int .i64 mk]] w fun e w'=>e= .returned (.bool op)/\Below w.heap.size w w':=by
 go_enter Tryz.func143,Tryz.ntmps143;go_wp2_with fail;go_ret;exact ⟨rfl,(ba _ _)⟩
theorem Gw (op:Bool) (who mk:Int) (w:World):Calls Tryz.prog 228 #[.agg #[.bool op,.int .i64 who,.int .i64 mk]] w fun e w'=>e= .returned (.bool (Vv (op,who,mk)))/\Below w.heap.size w w':=by
 go_enter Tryz.func228,Tryz.ntmps228;go_wp2_with fail;refine (Zv _ _ _ _).mono ?_;rintro e w' ⟨rfl,h9⟩;subst w';go_wp2_with fail;go_ret;exact ⟨rfl,(ba _ _)⟩
theorem Ay (st be rk my gu lo hi hd ca ut wk b:Int) (w:World):Calls Tryz.prog 232 #[.agg (I11 st be rk my gu lo hi hd ca ut wk),.int .i64 b] w fun e w'=>e= .returned (.bool (atB b (st,be,rk,my,gu,lo,hi,hd,ca,ut,wk)))/\Below w.heap.size w w':=by
 by_cases h2:st=2
 ·subst h2
  go_enter Tryz.func232,Tryz.ntmps232;go_wp2_with fail;go_ret;exact ⟨Z5 (by unfold atB;simp),(ba _ _)⟩
 have n2:(st ==2)=false:=by simpa using h2
 by_cases h3:st=3
 ·subst h3
  go_enter Tryz.func232,Tryz.ntmps232;go_wp2_with fail;go_ret;exact ⟨Z5 (by unfold atB;simp),(ba _ _)⟩
 have n3:(st ==3)=false:=by simpa using h3
 go_enter Tryz.func232,Tryz.ntmps232;go_wp2_with fail;go_ret;exact ⟨Z5 (by unfold atB;simp [n2,n3]),(ba _ _)⟩
theorem IV (st be rk my gu lo hi hd ca ut wk b:Int) (w:World):Calls Tryz.prog 234 #[.agg (I11 st be rk my gu lo hi hd ca ut wk),.int .i64 b] w fun e w'=>e= .returned (.bool (YY b (st,be,rk,my,gu,lo,hi,hd,ca,ut,wk)))/\Below w.heap.size w w':=by
 by_cases h3:st=3
 ·subst h3
  go_enter Tryz.func234,Tryz.ntmps234;go_wp2_with fail;go_ret;exact ⟨Z5 (by unfold YY;simp),(ba _ _)⟩
 have n3:(st ==3)=false:=by simpa using h3
 go_enter Tryz.func234,Tryz.ntmps234;go_wp2_with fail;go_ret;exact ⟨Z5 (by unfold YY;simp [n3]),(ba _ _)⟩
theorem JU (st be rk my gu lo hi hd ca ut wk b:Int) (R:Nat) (w:World) (hc:w.cell? ⟨R,0,none⟩=some (.int .i64 b)) (hR:R<w.heap.size):Calls Tryz.prog 231 #[.agg (I11 st be rk my gu lo hi hd ca ut wk),.pointer (some ⟨R,0,none⟩)] w fun e w'=>e= .returned (.bool (atB b (st,be,rk,my,gu,lo,hi,hd,ca,ut,wk)))/\Below w.heap.size w w':=by
 have hne:R ≠ w.heap.size:=U3 hR;go_enter Tryz.func231,Tryz.ntmps231;go_wp2_with fail;refine ck (Ay st be rk my gu lo hi hd ca ut wk b _) fun w1 hb=> ?_;have Hb:=Z9 (((ZZ w.heap.size w).alloc (Z1 _) _).trans (hb.mono (by simp)));clear hb;go_wp2_with fail;go_ret;exact ⟨rfl,uh Hb⟩
theorem Oa (st be rk my gu lo hi hd ca ut wk b:Int) (R:Nat) (w:World) (hc:w.cell? ⟨R,0,none⟩=some (.int .i64 b)) (hR:R<w.heap.size):Calls Tryz.prog 233 #[.agg (I11 st be rk my gu lo hi hd ca ut wk),.pointer (some ⟨R,0,none⟩)] w fun e w'=>e= .returned (.bool (YY b (st,be,rk,my,gu,lo,hi,hd,ca,ut,wk)))/\Below w.heap.size w w':=by
 have hne:R ≠ w.heap.size:=U3 hR;go_enter Tryz.func233,Tryz.ntmps233;go_wp2_with fail;refine ck (IV st be rk my gu lo hi hd ca ut wk b _) fun w1 hb=> ?_;have Hb:=Z9 (((ZZ w.heap.size w).alloc (Z1 _) _).trans (hb.mono (by simp)));clear hb;go_wp2_with fail;go_ret;exact ⟨rfl,uh Hb⟩
theorem Tg (st be rk my gu lo hi hd ca ut wk:Int) (a:Option Addr) (n cap:Nat) (w:World):Calls Tryz.prog 97 #[.agg (I11 st be rk my gu lo hi hd ca ut wk),.slice a n cap] w fun e w'=>e= .returned (.bool (Xu n (st,be,rk,my,gu,lo,hi,hd,ca,ut,wk)))/\Below w.heap.size w w':=by
 have hx:∀ q:Bool,Calls Tryz.prog 97 #[.agg (I11 st be rk my gu lo hi hd ca ut wk),.slice a n cap] w (fun e w'=>e= .returned (.bool q)/\Below w.heap.size w w')->q=Xu n (st,be,rk,my,gu,lo,hi,hd,ca,ut,wk)->Calls Tryz.prog 97 #[.agg (I11 st be rk my gu lo hi hd ca ut wk),.slice a n cap] w fun e w'=>e= .returned (.bool (Xu n (st,be,rk,my,gu,lo,hi,hd,ca,ut,wk)))/\Below w.heap.size w w':=fun q h e=>by rw [<-e];exact h
 by_cases h0:st=0
 ·subst h0
  refine hx true ?_ (by unfold Xu;simp);go_enter Tryz.func97,Tryz.ntmps97;go_wp2_with fail;refine ck (VY 0 be rk my gu lo hi hd ca ut wk _) fun w1 hb=> ?_;have Hb:=Z9 (((ZZ w.heap.size w).alloc (Z1 _) _).trans (hb.mono (by simp)));clear hb;go_wp2_with fail;go_ret;exact ⟨rfl,uh Hb⟩
 have n0:(st ==0)=false:=by simpa using h0
 by_cases h1:gu= -1
 ·subst h1
  refine hx true ?_ (by unfold Xu;simp);go_enter Tryz.func97,Tryz.ntmps97;go_wp2_with fail;refine (VY st be rk my (-1) lo hi hd ca ut wk _).mono ?_;rw [n0];rintro e w1 ⟨rfl,hb⟩;have c4:w1.cell? ⟨w.heap.size,4,none⟩=some (.int .i64 (-1)):=(hb.cell (p:=⟨w.heap.size,4,none⟩) (by simp)).trans (Zg _ rfl);have Hb:=Z9 (((ZZ w.heap.size w).alloc (Z1 _) _).trans (hb.mono (by simp)));clear hb;go_wp2_with fail;go_ret;exact ⟨rfl,uh Hb⟩
 have n1:(gu == -1)=false:=by simpa using h1
 refine hx (Xf n gu) ?_ (by unfold Xu;simp [n0,n1]);go_enter Tryz.func97,Tryz.ntmps97;go_wp2_with fail;refine (VY st be rk my gu lo hi hd ca ut wk _).mono ?_;rw [n0];rintro e w1 ⟨rfl,hb⟩;have c4:w1.cell? ⟨w.heap.size,4,none⟩=some (.int .i64 gu):=(hb.cell (p:=⟨w.heap.size,4,none⟩) (by simp)).trans (Zg _ rfl);have Hb:=Z9 (((ZZ w.heap.size w).alloc (Z1 _) _).trans (hb.mono (by simp)));clear hb;go_wp2_with fail;refine ck (Jp a n cap gu _) fun w2 h9=> ?_;subst w2;go_wp2_with fail;go_ret;exact ⟨rfl,uh Hb⟩
theorem Lu (st be rk my gu lo hi hd ca ut wk:Int) (R:Nat) (a:Option Addr) (n cap:Nat) (w:World) (hc:w.cell? ⟨R,0,none⟩=some (.slice a n cap)) (hR:R<w.heap.size):Calls Tryz.prog 226 #[.agg (I11 st be rk my gu lo hi hd ca ut wk),.pointer (some ⟨R,0,none⟩)] w fun e w'=>e= .returned (.bool (Xu n (st,be,rk,my,gu,lo,hi,hd,ca,ut,wk)))/\Below w.heap.size w w':=by
 have hne:R ≠ w.heap.size:=U3 hR;go_enter Tryz.func226,Tryz.ntmps226;go_wp2_with fail;refine ck (Tg st be rk my gu lo hi hd ca ut wk a n cap _) fun w1 hb=> ?_;have Hb:=Z9 (((ZZ w.heap.size w).alloc (Z1 _) _).trans (hb.mono (by simp)));clear hb;go_wp2_with fail;go_ret;exact ⟨rfl,uh Hb⟩
theorem Calls.bool_of {P:Program} {f:FuncId} {args:Array Value} {w:World} {q q':Bool} (h:Calls P f args w fun e w'=>e= .returned (.bool q)/\Below w.heap.size w w') (e:q=q'):Calls P f args w fun e w'=>e= .returned (.bool q')/\Below w.heap.size w w':=by rw [<-e];exact h
theorem Lg (st be rk my gu lo hi hd ca ut wk:Int) {v:Value} {ds:List XN} {w:World} (h:UC w v ds):Calls Tryz.prog 122 #[.agg (I11 st be rk my gu lo hi hd ca ut wk),v] w fun e w'=>e= .returned (.bool (Wr ds (st,be,rk,my,gu,lo,hi,hd,ca,ut,wk)))/\Below w.heap.size w w':=by
 obtain ⟨a,cap,rfl,hc,hm,hr⟩:=h;have Hr:=Z9 hr;clear hr;by_cases h0:st=0
 ·subst h0
  refine Calls.bool_of (q:=true) ?_ (by unfold Wr;simp);go_enter Tryz.func122,Tryz.ntmps122;go_wp2_with fail;refine ck (VY 0 be rk my gu lo hi hd ca ut wk _) fun w1 hb=> ?_;have Hb:=Z9 (((ZZ w.heap.size w).alloc (Z1 _) _).trans (hb.mono (by simp)));clear hb;go_wp2_with fail;go_ret;exact ⟨rfl,uh Hb⟩
 have n0:(st ==0)=false:=by simpa using h0
 cases hh:Xf ds.length be
 ·refine Calls.bool_of (q:=false) ?_ (by unfold Wr;simp only [n0,hh];rfl)
  have Hh:=Z9 hh;clear hh;go_enter Tryz.func122,Tryz.ntmps122;go_wp2_with fail;refine (VY st be rk my gu lo hi hd ca ut wk _).mono ?_;rw [n0];rintro e w1 ⟨rfl,hb⟩;have c1:w1.cell? ⟨w.heap.size,1,none⟩=some (.int .i64 be):=(hb.cell (p:=⟨w.heap.size,1,none⟩) (by simp)).trans (Zg _ rfl);have Hb:=Z9 (((ZZ w.heap.size w).alloc (Z1 _) _).trans (hb.mono (by simp)));clear hb;go_wp2_with fail;refine (Rs a ds.length cap be _).mono ?_;rw [uh Hh];rintro e w2 ⟨rfl,h9⟩;subst w2;go_wp2_with fail;go_ret;exact ⟨rfl,uh Hb⟩
 have hbe:0<=be/\be<(ds.length:Int):=by unfold Xf at hh;simpa using hh
 obtain ⟨j,rfl⟩:∃ j:Nat,be=j:=⟨be.toNat,by omega⟩
 have hj:j<ds.length:=by omega
 have hj1:(j:Int)<(ds.length:Int):=by omega
 rcases uh Hr with e0 | ⟨b,off,rfl,hbw,hcl⟩
 ·rw [e0] at hj;simp at hj
 obtain ⟨t0,t1,t2⟩:=Y4 hcl hj
 have hD:Wr ds (st,(j:Int),rk,my,gu,lo,hi,hd,ca,ut,wk)=(st ==1 || ((Z8 ds j).1 && (Vx my j && V2 hd (Z8 ds j).2.2))):=by
  unfold Wr;simp only [n0,hh,Zy,Bool.false_or,Bool.true_and]
 have HD:=Z9 hD;have Hh:=Z9 hh;clear hD hh hcl Hr;generalize Z8 ds j=d at *;obtain ⟨op,who,mk⟩:=d;simp only at t0 t1 t2;obtain ⟨qm,hqm⟩:∃ q,Vx my j=q:=⟨_,rfl⟩
 have Hm:=Z9 hqm;obtain ⟨qb,hqb⟩:∃ q,V2 hd mk=q:=⟨_,rfl⟩
 have Hbd:=Z9 hqb;clear hqm hqb;refine Calls.bool_of (q:=(st ==1 || (op && (qm && qb)))) ?_ (by rw [uh HD,uh Hm,uh Hbd]);clear HD;go_enter Tryz.func122,Tryz.ntmps122;go_wp2_with fail;refine (VY st (j:Int) rk my gu lo hi hd ca ut wk _).mono ?_;rw [n0];rintro e w1 ⟨rfl,hb⟩;have SB:Hid (Blk w1 w.heap.size 40 (I11 st j rk my gu lo hi hd ca ut wk)):=Z9 ((Blk.new w _ _).below hb (by simp));have Hb:=Z9 (((ZZ w.heap.size w).alloc (Z1 _) _).trans (hb.mono (by simp)));rw [<-(uh Hb).cell (p:=⟨b,off+j*3,none⟩) hbw] at t0;rw [<-(uh Hb).cell (p:=⟨b,off+j*3+1,none⟩) hbw] at t1;rw [<-(uh Hb).cell (p:=⟨b,off+j*3+2,none⟩) hbw] at t2;clear hb;have s1:=(uh SB).cell (i:=1) (v:= .int .i64 j) rfl;go_wp2_with fail;refine (Rs _ ds.length cap (j:Int) _).mono ?_;rw [uh Hh];rintro e w2 ⟨rfl,h9⟩;subst w2;clear s1;have s1:=(uh SB).cell (i:=1) (v:= .int .i64 j) rfl;have hbw1:b<w1.heap.size:=Zf hbw (uh Hb).size;have hl0:=(uh SB).lt;go_upto_region 6 with fail;clear t0 t1 t2 s1;replace SB:Hid (Blk (w1.alloc (.cells #[.bool op,.int .i64 who,.int .i64 mk] 43)) w.heap.size 40 (I11 st j rk my gu lo hi hd ca ut wk)):=Z9 ((uh SB).alloc _);have DB:Hid (Blk (w1.alloc (.cells #[.bool op,.int .i64 who,.int .i64 mk] 43)) w1.heap.size 43 #[.bool op,.int .i64 who,.int .i64 mk]):=Z9 (Blk.new w1 _ _);replace Hb:Hid (Below w.heap.size w (w1.alloc (.cells #[.bool op,.int .i64 who,.int .i64 mk] 43))):=Z9 ((uh Hb).alloc (uh Hb).size _);generalize w1.alloc (.cells #[.bool op,.int .i64 who,.int .i64 mk] 43)=W at *;generalize w1.heap.size=db at *;obtain ⟨s0,s1,s2,s3,s4,s5,s6,s7,s8,s9,s10⟩:=(uh SB).c11;go_wp2_with fail;refine ck (Mp st (j:Int) rk my gu lo hi hd ca ut wk _) fun w3 hb=> ?_;replace SB:=bl SB hb;replace DB:=bl DB hb;replace Hb:=Z9 ((uh Hb).trans (hb.mono (uh Hb).size));clear hb s0 s1 s2 s3 s4 s5 s6 s7 s8 s9 s10;by_cases h1:st=1
 ·subst h1
  go_wp2_with fail;go_ret;exact ⟨Z5 (by simp),uh Hb⟩
 have n1:(st ==1)=false:=by simpa using h1
 rw [n1];have g0:=(uh DB).cell (i:=0) (v:= .bool op) rfl;have g1:=(uh DB).cell (i:=1) (v:= .int .i64 who) rfl;have g2:=(uh DB).cell (i:=2) (v:= .int .i64 mk) rfl;go_wp2_with fail;refine ck (Qm op who mk _) fun w4 hb=> ?_;replace SB:=bl SB hb;replace DB:=bl DB hb;replace Hb:=Z9 ((uh Hb).trans (hb.mono (uh Hb).size));clear hb g0 g1 g2;cases op
 ·go_wp2_with fail
  go_ret;exact ⟨Z5 (by simp [h1]),uh Hb⟩
 have s1:=(uh SB).cell (i:=1) (v:= .int .i64 j) rfl;have s3:=(uh SB).cell (i:=3) (v:= .int .i64 my) rfl;have s7:=(uh SB).cell (i:=7) (v:= .int .i64 hd) rfl;have g2:=(uh DB).cell (i:=2) (v:= .int .i64 mk) rfl;go_wp2_with fail;refine (Vi my (j:Int) _).mono ?_;rw [uh Hm];rintro e w5 ⟨rfl,h9⟩;subst w5;cases qm
 ·go_wp2_with fail
  go_ret;exact ⟨Z5 (by simp [h1]),uh Hb⟩
 go_wp2_with fail;refine (Ru hd mk _).mono ?_;rw [uh Hbd];rintro e w6 ⟨rfl,hb⟩;replace Hb:=Z9 ((uh Hb).trans (hb.mono (uh Hb).size));clear hb;go_wp2_with fail;go_ret;exact ⟨Z5 (by simp [h1]),uh Hb⟩
theorem BL {w:World} {v:Value} {ss:List Z3} (h:Vy w v ss):Calls Tryz.prog 120 #[v,.func (Fn.func 96) #[] #[]] w fun e w'=>e= .returned (.bool (XX Zw ss ss.length))/\Below w.heap.size w w':=by
 obtain ⟨a,cap,rfl,hc,hm,hr⟩:=h;have Hr:=Z9 hr;clear hr;go_enter Tryz.func120,Tryz.ntmps120;go_wp2_with fail
 go_loopw [9] (fun i wr=> ∃ k:Nat,k<=ss.length/\i= .int .i64 k/\XX Zw ss k=true/\Below w.heap.size w wr) (fun i _=>ss.length-(intOf i).toNat)
 case atStart=>exact ⟨0,Zz _,rfl,rfl,ZZ _ _⟩
 case round=>
  obtain ⟨k,hk,rfl,hst,hb0⟩:=hrel;have Hst:=Z9 hst;have BB:=Z9 hb0;by_cases hlt:k<ss.length
  ·have hlt1:(k:Int)<(ss.length:Int):=by omega
   rcases uh Hr with e0 | ⟨b,off,rfl,hbw,hcl⟩
   ·rw [e0] at hlt;simp at hlt
   obtain ⟨d0,d1,d2,d3,d4,d5,d6,d7,d8,d9,d10⟩:=ZA hcl hlt;rw [<-hb0.cell (p:=⟨b,off+k*11,none⟩) hbw] at d0;rw [<-hb0.cell (p:=⟨b,off+k*11+1,none⟩) hbw] at d1;rw [<-hb0.cell (p:=⟨b,off+k*11+2,none⟩) hbw] at d2;rw [<-hb0.cell (p:=⟨b,off+k*11+3,none⟩) hbw] at d3;rw [<-hb0.cell (p:=⟨b,off+k*11+4,none⟩) hbw] at d4;rw [<-hb0.cell (p:=⟨b,off+k*11+5,none⟩) hbw] at d5;rw [<-hb0.cell (p:=⟨b,off+k*11+6,none⟩) hbw] at d6;rw [<-hb0.cell (p:=⟨b,off+k*11+7,none⟩) hbw] at d7;rw [<-hb0.cell (p:=⟨b,off+k*11+8,none⟩) hbw] at d8;rw [<-hb0.cell (p:=⟨b,off+k*11+9,none⟩) hbw] at d9;rw [<-hb0.cell (p:=⟨b,off+k*11+10,none⟩) hbw] at d10;have HU:=Z9 (fun hh=>Ps (p:=Zw) (xs:=ss) (k:=k) hst hh);have HN:=Z9 (fun hh=>Pr (p:=Zw) (xs:=ss) hlt hh);clear hcl hst hb0;generalize Z8 ss k=s at *;obtain ⟨st,be,rk,my,gu,lo,hi,hd,ca,ut,wk⟩:=s;simp only at d0 d1 d2 d3 d4 d5 d6 d7 d8 d9 d10;have hbr:b<wr.heap.size:=Zf hbw (uh BB).size;go_wp2_with fail;clear d0 d1 d2 d3 d4 d5 d6 d7 d8 d9 d10;obtain ⟨q,hq⟩:∃ q,Zw (st,be,rk,my,gu,lo,hi,hd,ca,ut,wk)=q:=⟨_,rfl⟩
   have Hq:=Z9 hq;clear hq;have hba:Below wr.heap.size wr (wr.alloc (.cells (I11 st be rk my gu lo hi hd ca ut wk) 40)):=ba _ _;replace BB:=bt BB hba;clear hba;refine (R8 st be rk my gu lo hi hd ca ut wk _).mono ?_;rw [uh Hq];rintro e w1 ⟨rfl,hb⟩;replace BB:=bt BB hb;clear hb;cases q
   ·go_wp2_with fail
    go_ret;exact ⟨Z5 (uh HN (uh Hq)).symm,uh BB⟩
   ·go_wp2_with fail
    go_roundw
    case rel=>exact ⟨k+1,by omega,by go_num,uh HU (uh Hq),uh BB⟩
    case measure=>exact ms
  ·obtain rfl:k=ss.length:=by omega
   go_wp2_with fail;go_ret;exact ⟨Z5 (uh Hst).symm,uh BB⟩
theorem I3 {w:World} {v:Value} {ss:List Z3} {R n gc:Nat} {ga:Option Addr} (h:Vy w v ss) (hc0:w.cell? ⟨R,0,none⟩=some (.slice ga n gc)) (hR:R<w.heap.size):Calls Tryz.prog 120 #[v,.func (Fn.func 226) #[] #[.pointer (some ⟨R,0,none⟩)]] w fun e w'=>e= .returned (.bool (XX (Xu n) ss ss.length))/\Below w.heap.size w w':=by
 obtain ⟨a,cap,rfl,hc,hm,hr⟩:=h;have Hr:=Z9 hr;clear hr;have HC:=Z9 hc0;clear hc0;go_enter Tryz.func120,Tryz.ntmps120;go_wp2_with fail
 go_loopw [9] (fun i wr=> ∃ k:Nat,k<=ss.length/\i= .int .i64 k/\XX (Xu n) ss k=true/\Below w.heap.size w wr) (fun i _=>ss.length-(intOf i).toNat)
 case atStart=>exact ⟨0,Zz _,rfl,rfl,ZZ _ _⟩
 case round=>
  obtain ⟨k,hk,rfl,hst,hb0⟩:=hrel;have Hst:=Z9 hst;have BB:=Z9 hb0;by_cases hlt:k<ss.length
  ·have hlt1:(k:Int)<(ss.length:Int):=by omega
   rcases uh Hr with e0 | ⟨b,off,rfl,hbw,hcl⟩
   ·rw [e0] at hlt;simp at hlt
   obtain ⟨d0,d1,d2,d3,d4,d5,d6,d7,d8,d9,d10⟩:=ZA hcl hlt;rw [<-hb0.cell (p:=⟨b,off+k*11,none⟩) hbw] at d0;rw [<-hb0.cell (p:=⟨b,off+k*11+1,none⟩) hbw] at d1;rw [<-hb0.cell (p:=⟨b,off+k*11+2,none⟩) hbw] at d2;rw [<-hb0.cell (p:=⟨b,off+k*11+3,none⟩) hbw] at d3;rw [<-hb0.cell (p:=⟨b,off+k*11+4,none⟩) hbw] at d4;rw [<-hb0.cell (p:=⟨b,off+k*11+5,none⟩) hbw] at d5;rw [<-hb0.cell (p:=⟨b,off+k*11+6,none⟩) hbw] at d6;rw [<-hb0.cell (p:=⟨b,off+k*11+7,none⟩) hbw] at d7;rw [<-hb0.cell (p:=⟨b,off+k*11+8,none⟩) hbw] at d8;rw [<-hb0.cell (p:=⟨b,off+k*11+9,none⟩) hbw] at d9;rw [<-hb0.cell (p:=⟨b,off+k*11+10,none⟩) hbw] at d10;have HU:=Z9 (fun hh=>Ps (p:=(Xu n)) (xs:=ss) (k:=k) hst hh);have HN:=Z9 (fun hh=>Pr (p:=(Xu n)) (xs:=ss) hlt hh);clear hcl hst hb0;generalize Z8 ss k=s at *;obtain ⟨st,be,rk,my,gu,lo,hi,hd,ca,ut,wk⟩:=s;simp only at d0 d1 d2 d3 d4 d5 d6 d7 d8 d9 d10;have hbr:b<wr.heap.size:=Zf hbw (uh BB).size;go_wp2_with fail;clear d0 d1 d2 d3 d4 d5 d6 d7 d8 d9 d10;obtain ⟨q,hq⟩:∃ q,(Xu n) (st,be,rk,my,gu,lo,hi,hd,ca,ut,wk)=q:=⟨_,rfl⟩
   have Hq:=Z9 hq;clear hq;have hba:Below wr.heap.size wr (wr.alloc (.cells (I11 st be rk my gu lo hi hd ca ut wk) 40)):=ba _ _;replace BB:=bt BB hba;clear hba;refine (Lu st be rk my gu lo hi hd ca ut wk R ga n gc _ (((uh BB).cell (p:=⟨R,0,none⟩) hR).trans (uh HC)) (Zf hR (uh BB).size)).mono ?_;rw [uh Hq];rintro e w1 ⟨rfl,hb⟩;replace BB:=bt BB hb;clear hb;cases q
   ·go_wp2_with fail
    go_ret;exact ⟨Z5 (uh HN (uh Hq)).symm,uh BB⟩
   ·go_wp2_with fail
    go_roundw
    case rel=>exact ⟨k+1,by omega,by go_num,uh HU (uh Hq),uh BB⟩
    case measure=>exact ms
  ·obtain rfl:k=ss.length:=by omega
   go_wp2_with fail;go_ret;exact ⟨Z5 (uh Hst).symm,uh BB⟩
theorem FM {w:World} {v:Value} {ss:List XN} (h:UC w v ss):Calls Tryz.prog 227 #[v,.func (Fn.func 228) #[] #[]] w fun e w'=>e= .returned (.bool (XX Vv ss ss.length))/\Below w.heap.size w w':=by
 obtain ⟨a,cap,rfl,hc,hm,hr⟩:=h;have Hr:=Z9 hr;clear hr;go_enter Tryz.func227,Tryz.ntmps227;go_wp2_with fail
 go_loopw [9] (fun i wr=> ∃ k:Nat,k<=ss.length/\i= .int .i64 k/\XX Vv ss k=true/\Below w.heap.size w wr) (fun i _=>ss.length-(intOf i).toNat)
 case atStart=>exact ⟨0,Zz _,rfl,rfl,ZZ _ _⟩
 case round=>
  obtain ⟨k,hk,rfl,hst,hb0⟩:=hrel;have Hst:=Z9 hst;have BB:=Z9 hb0;by_cases hlt:k<ss.length
  ·have hlt1:(k:Int)<(ss.length:Int):=by omega
   rcases uh Hr with e0 | ⟨b,off,rfl,hbw,hcl⟩
   ·rw [e0] at hlt;simp at hlt
   obtain ⟨d0,d1,d2⟩:=Y4 hcl hlt;rw [<-hb0.cell (p:=⟨b,off+k*3,none⟩) hbw] at d0;rw [<-hb0.cell (p:=⟨b,off+k*3+1,none⟩) hbw] at d1;rw [<-hb0.cell (p:=⟨b,off+k*3+2,none⟩) hbw] at d2;have HU:=Z9 (fun hh=>Ps (p:=Vv) (xs:=ss) (k:=k) hst hh);have HN:=Z9 (fun hh=>Pr (p:=Vv) (xs:=ss) hlt hh);clear hcl hst hb0;generalize Z8 ss k=s at *;obtain ⟨op,who,mk⟩:=s;simp only at d0 d1 d2;have hbr:b<wr.heap.size:=Zf hbw (uh BB).size;go_wp2_with fail;clear d0 d1 d2;obtain ⟨q,hq⟩:∃ q,Vv (op,who,mk)=q:=⟨_,rfl⟩
   have Hq:=Z9 hq;clear hq;have hba:Below wr.heap.size wr (wr.alloc (.cells #[.bool op,.int .i64 who,.int .i64 mk] 43)):=ba _ _;replace BB:=bt BB hba;clear hba;refine (Gw op who mk _).mono ?_;rw [uh Hq];rintro e w1 ⟨rfl,hb⟩;replace BB:=bt BB hb;clear hb;cases q
   ·go_wp2_with fail
    go_ret;exact ⟨Z5 (uh HN (uh Hq)).symm,uh BB⟩
   ·go_wp2_with fail
    go_roundw
    case rel=>exact ⟨k+1,by omega,by go_num,uh HU (uh Hq),uh BB⟩
    case measure=>exact ms
  ·obtain rfl:k=ss.length:=by omega
   go_wp2_with fail;go_ret;exact ⟨Z5 (uh Hst).symm,uh BB⟩
theorem IS {w:World} {v:Value} {ss:List Z3} {R:Nat} {bn:Int} (h:Vy w v ss) (hl:ss.length<=1000) (hc0:w.cell? ⟨R,0,none⟩=some (.int .i64 bn)) (hR:R<w.heap.size):Calls Tryz.prog 230 #[v,.func (Fn.func 231) #[] #[.pointer (some ⟨R,0,none⟩)]] w fun e w'=> ∃ v',e= .returned v'/\NumsAt w.heap.size w' v' (ZO (atB bn) ss ss.length)/\Below w.heap.size w w':=by
 obtain ⟨a,cap,rfl,hc,hm,hr⟩:=h;have Hr:=Z9 hr;clear hr;have HC:=Z9 hc0;clear hc0;go_enter Tryz.func230,Tryz.ntmps230;go_wp2_with fail
 go_loopw [5,11] (fun l i wr=> ∃ k:Nat,k<=ss.length/\i= .int .i64 k/\NumsAt w.heap.size wr l (ZO (atB bn) ss k)/\Below w.heap.size w wr) (fun _ i _=>ss.length-(intOf i).toNat)
 case atStart=>exact ⟨0,Zz _,rfl,Y8 rfl (Z1 _),(ba _ _)⟩
 case round=>
  obtain ⟨k,hk,rfl,hln,hb0⟩:=hrel;obtain ⟨la,lc,rfl⟩:=RecAt.shape hln;have HL:=Z9 hln;have BB:=Z9 hb0;have hfl:=VW (atB bn) ss k;clear hln;by_cases hlt:k<ss.length
  ·have hlt1:(k:Int)<(ss.length:Int):=by omega
   rcases uh Hr with e0 | ⟨b,off,rfl,hbw,hcl⟩
   ·rw [e0] at hlt;simp at hlt
   obtain ⟨d0,d1,d2,d3,d4,d5,d6,d7,d8,d9,d10⟩:=ZA hcl hlt;rw [<-hb0.cell (p:=⟨b,off+k*11,none⟩) hbw] at d0;rw [<-hb0.cell (p:=⟨b,off+k*11+1,none⟩) hbw] at d1;rw [<-hb0.cell (p:=⟨b,off+k*11+2,none⟩) hbw] at d2;rw [<-hb0.cell (p:=⟨b,off+k*11+3,none⟩) hbw] at d3;rw [<-hb0.cell (p:=⟨b,off+k*11+4,none⟩) hbw] at d4;rw [<-hb0.cell (p:=⟨b,off+k*11+5,none⟩) hbw] at d5;rw [<-hb0.cell (p:=⟨b,off+k*11+6,none⟩) hbw] at d6;rw [<-hb0.cell (p:=⟨b,off+k*11+7,none⟩) hbw] at d7;rw [<-hb0.cell (p:=⟨b,off+k*11+8,none⟩) hbw] at d8;rw [<-hb0.cell (p:=⟨b,off+k*11+9,none⟩) hbw] at d9;rw [<-hb0.cell (p:=⟨b,off+k*11+10,none⟩) hbw] at d10;have HY:=Z9 (fun hh=>Yq (p:=(atB bn)) (xs:=ss) (k:=k) hh);have HN:=Z9 (fun hh=>XK (p:=(atB bn)) (xs:=ss) (k:=k) hh);clear hcl hb0;generalize Z8 ss k=s at *;obtain ⟨st,be,rk,my,gu,lo,hi,hd,ca,ut,wk⟩:=s;simp only at d0 d1 d2 d3 d4 d5 d6 d7 d8 d9 d10;have hbr:b<wr.heap.size:=Zf hbw (uh BB).size;go_wp2_with fail;clear d0 d1 d2 d3 d4 d5 d6 d7 d8 d9 d10;obtain ⟨q,hq⟩:∃ q,(atB bn) (st,be,rk,my,gu,lo,hi,hd,ca,ut,wk)=q:=⟨_,rfl⟩
   have Hq:=Z9 hq;clear hq;have hba:Below wr.heap.size wr (wr.alloc (.cells (I11 st be rk my gu lo hi hd ca ut wk) 40)):=ba _ _;replace BB:=bt BB hba;replace HL:=Z9 (RecAt.later (uh HL) hba);clear hba;refine (JU st be rk my gu lo hi hd ca ut wk bn R _ (((uh BB).cell (p:=⟨R,0,none⟩) hR).trans (uh HC)) (Zf hR (uh BB).size)).mono ?_;rw [uh Hq];rintro e w1 ⟨rfl,hb⟩;replace BB:=bt BB hb;replace HL:=Z9 (RecAt.later (uh HL) hb);clear hb;cases q
   ·go_wp2_with fail
    go_roundw
    case rel=>exact ⟨k+1,by omega,by go_num,by rw [uh HN (uh Hq)];exact uh HL,uh BB⟩
    case measure=>exact ms
   ·have hsx:=(uh BB).size
    go_wp2_with (at_builtin;refine ZI tyN rfl (.tmp 19) (.tmp 21) 130 Tryz.underlying130 rfl w.heap.size _ _ (ZO (atB bn) ss k) [(k:Int)] rfl rfl (RecAt.later (uh HL) ((ba _ _))) (WH (k:Int) rfl (Z1 _) (by omega)) (by simp;omega) (by simp;omega) ?_;intro u9 w9 hp9 hg9 hat9;have HP9:=Z9 hp9;have HG9:=Z9 hg9;clear hp9 hg9 hat9)
    have hgo:∀ i,(Value.slice la (ZO (atB bn) ss k).length lc).ownBlock=some i->w.heap.size<=i:=fun i e=>(RecAt.lt (uh HL) e).1;have hb9:Below w.heap.size w1 w9:=((ZZ _ _).alloc hsx _).trans ((ZZ _ _).grown (uh HG9) (by simp;omega) hgo);have hb8:=(uh BB).trans hb9;go_wp2_with fail;go_roundw
    case rel=>exact ⟨k+1,by omega,by go_num,by rw [uh HY (uh Hq)];exact uh HP9,hb8⟩
    case measure=>exact ms
  ·obtain rfl:k=ss.length:=by omega
   go_wp2_with fail;go_ret;exact ⟨_,rfl,uh HL,uh BB⟩
theorem Nt {w:World} {v:Value} {ss:List Z3} {R:Nat} {bn:Int} (h:Vy w v ss) (hl:ss.length<=1000) (hc0:w.cell? ⟨R,0,none⟩=some (.int .i64 bn)) (hR:R<w.heap.size):Calls Tryz.prog 230 #[v,.func (Fn.func 233) #[] #[.pointer (some ⟨R,0,none⟩)]] w fun e w'=> ∃ v',e= .returned v'/\NumsAt w.heap.size w' v' (ZO (YY bn) ss ss.length)/\Below w.heap.size w w':=by
 obtain ⟨a,cap,rfl,hc,hm,hr⟩:=h;have Hr:=Z9 hr;clear hr;have HC:=Z9 hc0;clear hc0;go_enter Tryz.func230,Tryz.ntmps230;go_wp2_with fail
 go_loopw [5,11] (fun l i wr=> ∃ k:Nat,k<=ss.length/\i= .int .i64 k/\NumsAt w.heap.size wr l (ZO (YY bn) ss k)/\Below w.heap.size w wr) (fun _ i _=>ss.length-(intOf i).toNat)
 case atStart=>exact ⟨0,Zz _,rfl,Y8 rfl (Z1 _),(ba _ _)⟩
 case round=>
  obtain ⟨k,hk,rfl,hln,hb0⟩:=hrel;obtain ⟨la,lc,rfl⟩:=RecAt.shape hln;have HL:=Z9 hln;have BB:=Z9 hb0;have hfl:=VW (YY bn) ss k;clear hln;by_cases hlt:k<ss.length
  ·have hlt1:(k:Int)<(ss.length:Int):=by omega
   rcases uh Hr with e0 | ⟨b,off,rfl,hbw,hcl⟩
   ·rw [e0] at hlt;simp at hlt
   obtain ⟨d0,d1,d2,d3,d4,d5,d6,d7,d8,d9,d10⟩:=ZA hcl hlt;rw [<-hb0.cell (p:=⟨b,off+k*11,none⟩) hbw] at d0;rw [<-hb0.cell (p:=⟨b,off+k*11+1,none⟩) hbw] at d1;rw [<-hb0.cell (p:=⟨b,off+k*11+2,none⟩) hbw] at d2;rw [<-hb0.cell (p:=⟨b,off+k*11+3,none⟩) hbw] at d3;rw [<-hb0.cell (p:=⟨b,off+k*11+4,none⟩) hbw] at d4;rw [<-hb0.cell (p:=⟨b,off+k*11+5,none⟩) hbw] at d5;rw [<-hb0.cell (p:=⟨b,off+k*11+6,none⟩) hbw] at d6;rw [<-hb0.cell (p:=⟨b,off+k*11+7,none⟩) hbw] at d7;rw [<-hb0.cell (p:=⟨b,off+k*11+8,none⟩) hbw] at d8;rw [<-hb0.cell (p:=⟨b,off+k*11+9,none⟩) hbw] at d9;rw [<-hb0.cell (p:=⟨b,off+k*11+10,none⟩) hbw] at d10;have HY:=Z9 (fun hh=>Yq (p:=(YY bn)) (xs:=ss) (k:=k) hh);have HN:=Z9 (fun hh=>XK (p:=(YY bn)) (xs:=ss) (k:=k) hh);clear hcl hb0;generalize Z8 ss k=s at *;obtain ⟨st,be,rk,my,gu,lo,hi,hd,ca,ut,wk⟩:=s;simp only at d0 d1 d2 d3 d4 d5 d6 d7 d8 d9 d10;have hbr:b<wr.heap.size:=Zf hbw (uh BB).size;go_wp2_with fail;clear d0 d1 d2 d3 d4 d5 d6 d7 d8 d9 d10;obtain ⟨q,hq⟩:∃ q,(YY bn) (st,be,rk,my,gu,lo,hi,hd,ca,ut,wk)=q:=⟨_,rfl⟩
   have Hq:=Z9 hq;clear hq;have hba:Below wr.heap.size wr (wr.alloc (.cells (I11 st be rk my gu lo hi hd ca ut wk) 40)):=ba _ _;replace BB:=bt BB hba;replace HL:=Z9 (RecAt.later (uh HL) hba);clear hba;refine (Oa st be rk my gu lo hi hd ca ut wk bn R _ (((uh BB).cell (p:=⟨R,0,none⟩) hR).trans (uh HC)) (Zf hR (uh BB).size)).mono ?_;rw [uh Hq];rintro e w1 ⟨rfl,hb⟩;replace BB:=bt BB hb;replace HL:=Z9 (RecAt.later (uh HL) hb);clear hb;cases q
   ·go_wp2_with fail
    go_roundw
    case rel=>exact ⟨k+1,by omega,by go_num,by rw [uh HN (uh Hq)];exact uh HL,uh BB⟩
    case measure=>exact ms
   ·have hsx:=(uh BB).size
    go_wp2_with (at_builtin;refine ZI tyN rfl (.tmp 19) (.tmp 21) 130 Tryz.underlying130 rfl w.heap.size _ _ (ZO (YY bn) ss k) [(k:Int)] rfl rfl (RecAt.later (uh HL) ((ba _ _))) (WH (k:Int) rfl (Z1 _) (by omega)) (by simp;omega) (by simp;omega) ?_;intro u9 w9 hp9 hg9 hat9;have HP9:=Z9 hp9;have HG9:=Z9 hg9;clear hp9 hg9 hat9)
    have hgo:∀ i,(Value.slice la (ZO (YY bn) ss k).length lc).ownBlock=some i->w.heap.size<=i:=fun i e=>(RecAt.lt (uh HL) e).1;have hb9:Below w.heap.size w1 w9:=((ZZ _ _).alloc hsx _).trans ((ZZ _ _).grown (uh HG9) (by simp;omega) hgo);have hb8:=(uh BB).trans hb9;go_wp2_with fail;go_roundw
    case rel=>exact ⟨k+1,by omega,by go_num,by rw [uh HY (uh Hq)];exact uh HP9,hb8⟩
    case measure=>exact ms
  ·obtain rfl:k=ss.length:=by omega
   go_wp2_with fail;go_ret;exact ⟨_,rfl,uh HL,uh BB⟩
theorem LB {w:World} {v:Value} {ss:List XN} (h:UC w v ss) (hl:ss.length<=1000):Calls Tryz.prog 142 #[v,.func (Fn.func 143) #[] #[]] w fun e w'=> ∃ v',e= .returned v'/\NumsAt w.heap.size w' v' (ZO SK ss ss.length)/\Below w.heap.size w w':=by
 obtain ⟨a,cap,rfl,hc,hm,hr⟩:=h;have Hr:=Z9 hr;clear hr;go_enter Tryz.func142,Tryz.ntmps142;go_wp2_with fail
 go_loopw [5,11] (fun l i wr=> ∃ k:Nat,k<=ss.length/\i= .int .i64 k/\NumsAt w.heap.size wr l (ZO SK ss k)/\Below w.heap.size w wr) (fun _ i _=>ss.length-(intOf i).toNat)
 case atStart=>exact ⟨0,Zz _,rfl,Y8 rfl (Z1 _),(ba _ _)⟩
 case round=>
  obtain ⟨k,hk,rfl,hln,hb0⟩:=hrel;obtain ⟨la,lc,rfl⟩:=RecAt.shape hln;have HL:=Z9 hln;have BB:=Z9 hb0;have hfl:=VW SK ss k;clear hln;by_cases hlt:k<ss.length
  ·have hlt1:(k:Int)<(ss.length:Int):=by omega
   rcases uh Hr with e0 | ⟨b,off,rfl,hbw,hcl⟩
   ·rw [e0] at hlt;simp at hlt
   obtain ⟨d0,d1,d2⟩:=Y4 hcl hlt;rw [<-hb0.cell (p:=⟨b,off+k*3,none⟩) hbw] at d0;rw [<-hb0.cell (p:=⟨b,off+k*3+1,none⟩) hbw] at d1;rw [<-hb0.cell (p:=⟨b,off+k*3+2,none⟩) hbw] at d2;have HY:=Z9 (fun hh=>Yq (p:=SK) (xs:=ss) (k:=k) hh);have HN:=Z9 (fun hh=>XK (p:=SK) (xs:=ss) (k:=k) hh);clear hcl hb0;generalize Z8 ss k=s at *;obtain ⟨op,who,mk⟩:=s;simp only at d0 d1 d2;have hbr:b<wr.heap.size:=Zf hbw (uh BB).size;go_wp2_with fail;clear d0 d1 d2;obtain ⟨q,hq⟩:∃ q,SK (op,who,mk)=q:=⟨_,rfl⟩
   have Hq:=Z9 hq;clear hq;have hba:Below wr.heap.size wr (wr.alloc (.cells #[.bool op,.int .i64 who,.int .i64 mk] 43)):=ba _ _;replace BB:=bt BB hba;replace HL:=Z9 (RecAt.later (uh HL) hba);clear hba;refine ck (Calls.bool_of (Qm op who mk _) (uh Hq)) fun w1 hb=> ?_;replace BB:=bt BB hb;replace HL:=Z9 (RecAt.later (uh HL) hb);clear hb;cases q
   ·go_wp2_with fail
    go_roundw
    case rel=>exact ⟨k+1,by omega,by go_num,by rw [uh HN (uh Hq)];exact uh HL,uh BB⟩
    case measure=>exact ms
   ·have hsx:=(uh BB).size
    go_wp2_with (at_builtin;refine ZI tyN rfl (.tmp 19) (.tmp 21) 130 Tryz.underlying130 rfl w.heap.size _ _ (ZO SK ss k) [(k:Int)] rfl rfl (RecAt.later (uh HL) ((ba _ _))) (WH (k:Int) rfl (Z1 _) (by omega)) (by simp;omega) (by simp;omega) ?_;intro u9 w9 hp9 hg9 hat9;have HP9:=Z9 hp9;have HG9:=Z9 hg9;clear hp9 hg9 hat9)
    have hgo:∀ i,(Value.slice la (ZO SK ss k).length lc).ownBlock=some i->w.heap.size<=i:=fun i e=>(RecAt.lt (uh HL) e).1;have hb9:Below w.heap.size w1 w9:=((ZZ _ _).alloc hsx _).trans ((ZZ _ _).grown (uh HG9) (by simp;omega) hgo);have hb8:=(uh BB).trans hb9;go_wp2_with fail;go_roundw
    case rel=>exact ⟨k+1,by omega,by go_num,by rw [uh HY (uh Hq)];exact uh HP9,hb8⟩
    case measure=>exact ms
  ·obtain rfl:k=ss.length:=by omega
   go_wp2_with fail;go_ret;exact ⟨_,rfl,uh HL,uh BB⟩
set_option maxRecDepth 100000
theorem NK (st be rk my gu lo hi hd ca ut wk:Int) {R n3 p3:Nat} {a3:Option Addr} {ds:List XN} {w:World} (hc:w.cell? ⟨R,3,none⟩=some (.slice a3 n3 p3)) (hR:R<w.heap.size) (h:UC w (.slice a3 n3 p3) ds):Calls Tryz.prog 121 #[.agg (I11 st be rk my gu lo hi hd ca ut wk),.pointer (some ⟨R,0,none⟩)] w fun e w'=>e= .returned (.bool (Wr ds (st,be,rk,my,gu,lo,hi,hd,ca,ut,wk)))/\Below w.heap.size w w':=by
 have hne:R ≠ w.heap.size:=U3 hR;have HD:=Z9 h;clear h;go_enter Tryz.func121,Tryz.ntmps121;go_wp2_with fail;refine ck (Lg st be rk my gu lo hi hd ca ut wk ((uh HD).below ((ba _ _)))) fun w1 hb=> ?_;have Hb:=Z9 (((ZZ w.heap.size w).alloc (Z1 _) _).trans (hb.mono (by simp)));clear hb;go_wp2_with fail;go_ret;exact ⟨rfl,uh Hb⟩
theorem I2 {w:World} {v:Value} {ss:List Z3} {R n3 p3:Nat} {a3:Option Addr} {ds:List XN} (h:Vy w v ss) (hc0:w.cell? ⟨R,3,none⟩=some (.slice a3 n3 p3)) (hR:R<w.heap.size) (hds:UC w (.slice a3 n3 p3) ds):Calls Tryz.prog 120 #[v,.func (Fn.func 121) #[] #[.pointer (some ⟨R,0,none⟩)]] w fun e w'=>e= .returned (.bool (XX (Wr ds) ss ss.length))/\Below w.heap.size w w':=by
 obtain ⟨a,cap,rfl,hc,hm,hr⟩:=h;have Hr:=Z9 hr;clear hr;have HC:=Z9 hc0;have HD:=Z9 hds;clear hc0 hds;go_enter Tryz.func120,Tryz.ntmps120;go_wp2_with fail
 go_loopw [9] (fun i wr=> ∃ k:Nat,k<=ss.length/\i= .int .i64 k/\XX (Wr ds) ss k=true/\Below w.heap.size w wr) (fun i _=>ss.length-(intOf i).toNat)
 case atStart=>exact ⟨0,Zz _,rfl,rfl,ZZ _ _⟩
 case round=>
  obtain ⟨k,hk,rfl,hst,hb0⟩:=hrel;have Hst:=Z9 hst;have BB:=Z9 hb0;by_cases hlt:k<ss.length
  ·have hlt1:(k:Int)<(ss.length:Int):=by omega
   rcases uh Hr with e0 | ⟨b,off,rfl,hbw,hcl⟩
   ·rw [e0] at hlt;simp at hlt
   obtain ⟨d0,d1,d2,d3,d4,d5,d6,d7,d8,d9,d10⟩:=ZA hcl hlt;rw [<-hb0.cell (p:=⟨b,off+k*11,none⟩) hbw] at d0;rw [<-hb0.cell (p:=⟨b,off+k*11+1,none⟩) hbw] at d1;rw [<-hb0.cell (p:=⟨b,off+k*11+2,none⟩) hbw] at d2;rw [<-hb0.cell (p:=⟨b,off+k*11+3,none⟩) hbw] at d3;rw [<-hb0.cell (p:=⟨b,off+k*11+4,none⟩) hbw] at d4;rw [<-hb0.cell (p:=⟨b,off+k*11+5,none⟩) hbw] at d5;rw [<-hb0.cell (p:=⟨b,off+k*11+6,none⟩) hbw] at d6;rw [<-hb0.cell (p:=⟨b,off+k*11+7,none⟩) hbw] at d7;rw [<-hb0.cell (p:=⟨b,off+k*11+8,none⟩) hbw] at d8;rw [<-hb0.cell (p:=⟨b,off+k*11+9,none⟩) hbw] at d9;rw [<-hb0.cell (p:=⟨b,off+k*11+10,none⟩) hbw] at d10;have HU:=Z9 (fun hh=>Ps (p:=(Wr ds)) (xs:=ss) (k:=k) hst hh);have HN:=Z9 (fun hh=>Pr (p:=(Wr ds)) (xs:=ss) hlt hh);clear hcl hst hb0;generalize Z8 ss k=s at *;obtain ⟨st,be,rk,my,gu,lo,hi,hd,ca,ut,wk⟩:=s;simp only at d0 d1 d2 d3 d4 d5 d6 d7 d8 d9 d10;have hbr:b<wr.heap.size:=Zf hbw (uh BB).size;go_wp2_with fail;clear d0 d1 d2 d3 d4 d5 d6 d7 d8 d9 d10;obtain ⟨q,hq⟩:∃ q,(Wr ds) (st,be,rk,my,gu,lo,hi,hd,ca,ut,wk)=q:=⟨_,rfl⟩
   have Hq:=Z9 hq;clear hq;have hba:Below wr.heap.size wr (wr.alloc (.cells (I11 st be rk my gu lo hi hd ca ut wk) 40)):=ba _ _;replace BB:=bt BB hba;clear hba;refine (NK st be rk my gu lo hi hd ca ut wk (((uh BB).cell (p:=⟨R,3,none⟩) hR).trans (uh HC)) (Zf hR (uh BB).size) ((uh HD).below (uh BB))).mono ?_;rw [uh Hq];rintro e w1 ⟨rfl,hb⟩;replace BB:=bt BB hb;clear hb;cases q
   ·go_wp2_with fail
    go_ret;exact ⟨Z5 (uh HN (uh Hq)).symm,uh BB⟩
   ·go_wp2_with fail
    go_roundw
    case rel=>exact ⟨k+1,by omega,by go_num,uh HU (uh Hq),uh BB⟩
    case measure=>exact ms
  ·obtain rfl:k=ss.length:=by omega
   go_wp2_with fail;go_ret;exact ⟨Z5 (uh Hst).symm,uh BB⟩
theorem WS (a0 a1 a2 a3 a4:Option Addr) (n0 n1 n2 n3 n4 p0 p1 p2 p3 p4:Nat) (now:Int) (w:World):Calls Tryz.prog 119 #[.agg #[.slice a0 n0 p0,.slice a1 n1 p1,.slice a2 n2 p2,.slice a3 n3 p3,.slice a4 n4 p4,.int .i64 now]] w fun e w'=>e= .returned (.slice a2 n2 p2)/\Below w.heap.size w w':=by
 go_enter Tryz.func119,Tryz.ntmps119;go_wp2_with fail;go_ret;exact ⟨rfl,(ba _ _)⟩
theorem Oe (a0 a1 a2 a3 a4:Option Addr) (n0 n1 n2 n3 n4 p0 p1 p2 p3 p4:Nat) (now:Int) (w:World):Calls Tryz.prog 141 #[.agg #[.slice a0 n0 p0,.slice a1 n1 p1,.slice a2 n2 p2,.slice a3 n3 p3,.slice a4 n4 p4,.int .i64 now]] w fun e w'=>e= .returned (.slice a3 n3 p3)/\Below w.heap.size w w':=by
 go_enter Tryz.func141,Tryz.ntmps141;go_wp2_with fail;go_ret;exact ⟨rfl,(ba _ _)⟩
theorem JP {w:World} {v v1:Value} {ss:List Z3} {gs:List Zr} (h:Vy w v ss) (h1:XD w v1 gs):Calls Tryz.prog 177 #[v,v1] w fun e w'=>e= .returned (.bool (Tu ss gs.length))/\Below w.heap.size w w':=by
 have Hv:=Z9 h;obtain ⟨a,cap,rfl,_,_⟩:=IsRec.shape h;obtain ⟨ga,gc,rfl,_,_⟩:=IsRec.shape h1;clear h h1;obtain ⟨q1,hq1⟩:∃ q,XX Zw ss ss.length=q:=⟨_,rfl⟩
 obtain ⟨q2,hq2⟩:∃ q,XX (Xu gs.length) ss ss.length=q:=⟨_,rfl⟩
 have H1:=Z9 hq1;have H2:=Z9 hq2;by_cases hl:ss.length<=12
 ·refine Calls.bool_of (q:=(q1 && q2)) ?_ (by unfold Tu;rw [hq1,hq2,decide_eq_true hl,Bool.true_and])
  have hl1:(ss.length:Int)<=12:=by omega
  clear hq1 hq2;have HW:=Z9 ((uh Hv).below ((ZZ _ _).alloc (Z1 _) (.cells #[.slice ga gs.length gc] 27)));go_enter Tryz.func177,Tryz.ntmps177;go_wp2_with fail;refine (BL (uh HW)).mono ?_;rw [uh H1];rintro e w1 ⟨rfl,hb⟩;replace HW:=Z9 ((uh HW).below hb);have c0:w1.cell? ⟨w.heap.size,0,none⟩=some (.slice ga gs.length gc):=(hb.cell (p:=⟨w.heap.size,0,none⟩) (by simp)).trans (Zg _ rfl);have hlt:w.heap.size<w1.heap.size:=by have:=hb.size;simp at this;omega
  have Hb:=Z9 (((ZZ w.heap.size w).alloc (Z1 _) _).trans (hb.mono (by simp)));have HC:=Z9 c0;clear hb c0;cases q1
  ·go_wp2_with fail
   go_ret;exact ⟨rfl,uh Hb⟩
  go_wp2_with fail;refine (I3 (uh HW) (uh HC) hlt).mono ?_;rw [uh H2];rintro e w2 ⟨rfl,hb⟩;replace Hb:=Z9 ((uh Hb).trans (hb.mono (uh Hb).size));clear hb;go_wp2_with fail;go_ret;exact ⟨Z5 (by simp),uh Hb⟩
 ·refine Calls.bool_of (q:=false) ?_ (by unfold Tu;rw [decide_eq_false hl];rfl)
  have hl1:¬ ((ss.length:Int)<=12):=by omega
  clear hq1 hq2;go_enter Tryz.func177,Tryz.ntmps177;go_wp2_with fail;go_ret;exact ⟨rfl,(ba _ _)⟩
theorem Gf {w:World} {v:Value} {ds:List XN} {n:Int} (h:UC w v ds) (hn:n<=1000):Calls Tryz.prog 178 #[v,.int .i64 n] w fun e w'=>e= .returned (.bool (QX ds n))/\Below w.heap.size w w':=by
 have Hv:=Z9 h;obtain ⟨a,cap,rfl,_,_⟩:=IsRec.shape h;clear h;obtain ⟨q1,hq1⟩:∃ q,XX Vv ds ds.length=q:=⟨_,rfl⟩
 obtain ⟨ws,hws⟩:∃ ws,ZO SK ds ds.length=ws:=⟨_,rfl⟩
 have H1:=Z9 hq1;have H2:=Z9 hws;by_cases hl:(ds.length:Int)=n
 ·refine Calls.bool_of (q:=(q1 && decide (0<ws.length))) ?_ (by unfold QX;rw [hq1,show ZO (fun d:XN=>d.1) ds ds.length=ws from hws,decide_eq_true hl,Bool.true_and])
  subst hl;have hl1:ds.length<=1000:=by omega
  clear hq1 hws;go_enter Tryz.func178,Tryz.ntmps178;go_wp2_with fail;refine (FM (uh Hv)).mono ?_;rw [uh H1];rintro e w1 ⟨rfl,hb⟩;replace Hv:=Z9 ((uh Hv).below hb);have Hb:=Z9 hb;clear hb;cases q1
  ·go_wp2_with fail
   go_ret;exact ⟨rfl,uh Hb⟩
  go_wp2_with fail;refine (LB (uh Hv) hl1).mono ?_;rw [uh H2];rintro e w2 ⟨v2,rfl,hn2,hb⟩;obtain ⟨la,lc,rfl⟩:=RecAt.shape hn2;replace Hb:=Z9 ((uh Hb).trans (hb.mono (uh Hb).size));clear hb hn2;go_wp2_with fail;go_ret;exact ⟨Z5 (by simp),uh Hb⟩
 ·refine Calls.bool_of (q:=false) ?_ (by unfold QX;rw [decide_eq_false hl];rfl)
  have hl1:((ds.length:Int) ==n)=false:=by simpa using hl
  clear hq1 hws;go_enter Tryz.func178,Tryz.ntmps178;go_wp2_with fail;go_ret;exact ⟨rfl,ZZ _ _⟩
theorem EU {ps:List Int} {rs:List ZX} {k:Nat} (hk:k<ps.length) (h:Xf (ZQ rs k).2.length (Z8 ps k)=false):Vj ps rs=false:=by
 unfold Vj;rw [Qh (p:=fun j=>Xf (ZQ rs j).2.length (Z8 ps j)) hk h,Bool.and_false]
theorem MM {w:World} {v v0:Value} {ps:List Int} {rs:List ZX} (h:OJ w v ps) (h0:IsRooms w v0 rs):Calls Tryz.prog 180 #[v,v0] w fun e w'=>e= .returned (.bool (Vj ps rs))/\Below w.heap.size w w':=by
 obtain ⟨a,cap,rfl,hc,hm,hr⟩:=h;obtain ⟨a0,cap0,rfl,hc0,hm0,hr0⟩:=h0;have Hr:=Z9 hr;have Hr0:=Z9 hr0;clear hr hr0;by_cases hl:ps.length=rs.length
 ·have hl1:(ps.length:Int)=(rs.length:Int):=by omega
  have hbn:((ps.length:Int) !=(rs.length:Int))=false:=by simp [hl]
  have Hall:Hid ((List.range ps.length).all (fun j=>Xf (ZQ rs j).2.length (Z8 ps j))=true->Vj ps rs=true):=Z9 (fun e=>by unfold Vj;rw [e,decide_eq_true hl];rfl);have Hl:=Z9 hl;clear hl hl1;go_enter Tryz.func180,Tryz.ntmps180;go_wp2_with fail
  go_loopw [14] (fun i wr=> ∃ k:Nat,k<=ps.length/\i= .int .i64 k/\(List.range k).all (fun j=>Xf (ZQ rs j).2.length (Z8 ps j))=true/\Below w.heap.size w wr) (fun i _=>ps.length-(intOf i).toNat)
  case atStart=>exact ⟨0,Zz _,rfl,rfl,ZZ _ _⟩
  case round=>
   obtain ⟨k,hk,rfl,hst,hb0⟩:=hrel;have Hst:=Z9 hst;have BB:=Z9 hb0;by_cases hlt:k<ps.length
   ·have hlt1:(k:Int)<(ps.length:Int):=by omega
    have hlt2:(k:Int)<(rs.length:Int):=by have:=uh Hl;omega
    rcases uh Hr with e0 | ⟨b,off,rfl,hbw,hcl⟩
    ·rw [e0] at hlt;simp at hlt
    rcases uh Hr0 with e0 | ⟨b0,off0,rfl,hbw0,hcl0⟩
    ·rw [e0] at hlt2;simp at hlt2;omega
    have d0:=hcl k hlt 0 _ rfl;simp only [Nat.mul_one,Nat.add_zero] at d0;rw [<-hb0.cell (p:=⟨b,off+k,none⟩) hbw] at d0;obtain ⟨_,pv,g1,hpv⟩:=hcl0 k (by have:=uh Hl;omega);obtain ⟨pa,pc,rfl,_,_,_⟩:=hpv;rw [<-hb0.cell (p:=⟨b0,off0+k*2+1,none⟩) hbw0] at g1;have HU:=Z9 (fun (hh:Xf (ZQ rs k).2.length (Z8 ps k)=true)=>(show (List.range (k+1)).all (fun j=>Xf (ZQ rs j).2.length (Z8 ps j))=true from by rw [TB,hst,hh];rfl));have HN:=Z9 (fun hh=>EU (rs:=rs) hlt hh);clear hcl hcl0 hst hb0;generalize Z8 ps k=x at *;generalize (ZQ rs k).2.length=n at *;obtain ⟨q,hq⟩:∃ q,Xf n x=q:=⟨_,rfl⟩
    have Hq:=Z9 hq;clear hq;go_wp2_with fail;refine (Gx pa n pc x _).mono ?_;rw [uh Hq];rintro e w1 ⟨rfl,h9⟩;subst w1;cases q
    ·go_wp2_with fail
     go_ret;exact ⟨Z5 (uh HN (uh Hq)).symm,uh BB⟩
    ·go_wp2_with fail
     go_roundw
     case rel=>exact ⟨k+1,by omega,by go_num,uh HU (uh Hq),uh BB⟩
     case measure=>exact ms
   ·obtain rfl:k=ps.length:=by omega
    go_wp2_with fail;go_ret;exact ⟨Z5 (uh Hall (uh Hst)).symm,uh BB⟩
 ·refine Calls.bool_of (q:=false) ?_ (by unfold Vj;rw [decide_eq_false hl];rfl)
  have hbn:((ps.length:Int) !=(rs.length:Int))=true:=by simp;omega
  go_enter Tryz.func180,Tryz.ntmps180;go_wp2_with fail;go_ret;exact ⟨rfl,ZZ _ _⟩
theorem Calls.same_below' {P:Program} {f:FuncId} {args:Array Value} {w:World} {v:Value} (h:Calls P f args w fun e w'=>e= .returned v/\w'=w):Calls P f args w fun e w'=>e= .returned v/\Below w.heap.size w w':=h.mono fun e w' ⟨he,hw⟩=>⟨he,by subst hw;exact ZZ _ _⟩
theorem Calls.int_of {P:Program} {f:FuncId} {args:Array Value} {w:World} {q q':Int} (h:Calls P f args w fun e w'=>e= .returned (.int .i64 q)/\Below w.heap.size w w') (e:q=q'):Calls P f args w fun e w'=>e= .returned (.int .i64 q')/\Below w.heap.size w w':=by rw [<-e];exact h
theorem H7 {w:World} {v0 v1 v2 v3 v4:Value} {m:Z6} (h:Smy w v0 v1 v2 v3 v4 m):Calls Tryz.prog 118 #[.agg #[v0,v1,v2,v3,v4,.int .i64 m.now]] w fun e w'=>e= .returned (.bool (PO m))/\Below w.heap.size w w':=by
 have Hv:=Z9 (h.alloc (.cells #[v0,v1,v2,v3,v4,.int .i64 m.now] 32));obtain ⟨a0,p0,a1,p1,a2,p2,a3,p3,a4,p4,rfl,rfl,rfl,rfl,rfl,_,_,_,_,_,_,_,_,_,_⟩:=h.five;clear h;obtain ⟨q1,hq1⟩:∃ q,Y2 m.rm=q:=⟨_,rfl⟩
 obtain ⟨q2,hq2⟩:∃ q,Zh m.gd=q:=⟨_,rfl⟩
 obtain ⟨q3,hq3⟩:∃ q,Tu m.sm m.gd.length=q:=⟨_,rfl⟩
 obtain ⟨q4,hq4⟩:∃ q,QX m.dk (Wi m.rm)=q:=⟨_,rfl⟩
 obtain ⟨q5,hq5⟩:∃ q,Vj m.pc m.rm=q:=⟨_,rfl⟩
 obtain ⟨q6,hq6⟩:∃ q,inB m.now 0 1000000=q:=⟨_,rfl⟩
 refine Calls.bool_of (q:=(q1 && (q2 && (q3 && (q4 && (q5 && q6)))))) ?_ (by
  unfold PO;rw [hq2,hq3,hq5,hq6];cases q1
  ·rw [hq1];rfl
  ·rw [<-TZ hq1,hq4,hq1])
 have kb:Hid (Blk (w.alloc (.cells (S6 a0 p0 a1 p1 a2 p2 a3 p3 a4 p4 m) 32)) w.heap.size 32 (S6 a0 p0 a1 p1 a2 p2 a3 p3 a4 p4 m)):=Z9 (Blk.new w _ _);have BB:Hid (Below w.heap.size w (w.alloc (.cells (S6 a0 p0 a1 p1 a2 p2 a3 p3 a4 p4 m) 32))):=Z9 ((ba _ _))
 have hbv:Wi m.rm<=1000:=by
  cases hb:Y2 m.rm
  ·rw [Qj hb];omega
  ·rw [TZ hb];have:=(Zl hb).2.2.2;omega
 go_enter Tryz.func118,Tryz.ntmps118;go_wp2_with fail;generalize w.alloc (.cells (S6 a0 p0 a1 p1 a2 p2 a3 p3 a4 p4 m) 32)=W at *;have H1:=Z9 (fun (X:World) (hX:Below W.heap.size W X)=>Calls.bool_of (XF ((uh Hv).below hX).rm) hq1);have H2:=Z9 (fun (X:World) (hX:Below W.heap.size W X)=>Calls.bool_of (Wc ((uh Hv).below hX).gd) hq2);have H3:=Z9 (fun (X:World) (hX:Below W.heap.size W X)=>Calls.bool_of (JP ((uh Hv).below hX).sm ((uh Hv).below hX).gd) hq3);have H4a:=Z9 (fun (X:World) (hX:Below W.heap.size W X)=>VH ((uh Hv).below hX).rm);have H4:=Z9 (fun (X:World) (hX:Below W.heap.size W X)=>Calls.bool_of (Gf ((uh Hv).below hX).dk hbv) hq4);have H5:=Z9 (fun (X:World) (hX:Below W.heap.size W X)=>Calls.bool_of (MM ((uh Hv).below hX).pc ((uh Hv).below hX).rm) hq5);have H6:=Z9 (fun (X:World) (hX:Below W.heap.size W X)=>Calls.bool_of (Calls.same_below' (Zv 0 m.now 1000000 X)) hq6);clear hq1 hq2 hq3 hq4 hq5 hq6;generalize Wi m.rm=nb at *;obtain ⟨c0,c1,c2,c3,c4,c5⟩:=(uh kb).c6;have y0:=Z2 c0;have y1:=Z2 c1;have y2:=Z2 c2;have y3:=Z2 c3;have y4:=Z2 c4;have y5:=Z2 c5;cases q1
 ·go_wp2_with fail
  refine wq ?_
  repeat (go_big_quiet_step (first | exact ZY (uh H1 _ (Z0 _ _ _)) | exact ZY (uh H2 _ (Z0 _ _ _)) | exact ZY (uh H3 _ (Z0 _ _ _)) | exact ZY (uh H4a _ (Z0 _ _ _)) | exact ZY (uh H4 _ (Z0 _ _ _)) | exact ZY (uh H5 _ (Z0 _ _ _)) | exact ZY (uh H6 _ (Z0 _ _ _))))
  refine wpQuiet_nil ?_;intro _ hw';obtain ⟨⟨dq,osq⟩,hw''⟩:=hw';subst hw'';go_wp2_with fail;go_ret;exact ⟨rfl,(uh BB).trans ((Z0 _ _ _).mono (uh BB).size)⟩
 cases q2
 ·go_wp2_with fail
  refine wq ?_
  repeat (go_big_quiet_step (first | exact ZY (uh H1 _ (Z0 _ _ _)) | exact ZY (uh H2 _ (Z0 _ _ _)) | exact ZY (uh H3 _ (Z0 _ _ _)) | exact ZY (uh H4a _ (Z0 _ _ _)) | exact ZY (uh H4 _ (Z0 _ _ _)) | exact ZY (uh H5 _ (Z0 _ _ _)) | exact ZY (uh H6 _ (Z0 _ _ _))))
  refine wpQuiet_nil ?_;intro _ hw';obtain ⟨⟨dq,osq⟩,hw''⟩:=hw';subst hw'';go_wp2_with fail;go_ret;exact ⟨rfl,(uh BB).trans ((Z0 _ _ _).mono (uh BB).size)⟩
 cases q3
 ·go_wp2_with fail
  refine wq ?_
  repeat (go_big_quiet_step (first | exact ZY (uh H1 _ (Z0 _ _ _)) | exact ZY (uh H2 _ (Z0 _ _ _)) | exact ZY (uh H3 _ (Z0 _ _ _)) | exact ZY (uh H4a _ (Z0 _ _ _)) | exact ZY (uh H4 _ (Z0 _ _ _)) | exact ZY (uh H5 _ (Z0 _ _ _)) | exact ZY (uh H6 _ (Z0 _ _ _))))
  refine wpQuiet_nil ?_;intro _ hw';obtain ⟨⟨dq,osq⟩,hw''⟩:=hw';subst hw'';go_wp2_with fail;go_ret;exact ⟨rfl,(uh BB).trans ((Z0 _ _ _).mono (uh BB).size)⟩
 cases q4
 ·go_wp2_with fail
  refine wq ?_
  repeat (go_big_quiet_step (first | exact ZY (uh H1 _ (Z0 _ _ _)) | exact ZY (uh H2 _ (Z0 _ _ _)) | exact ZY (uh H3 _ (Z0 _ _ _)) | exact ZY (uh H4a _ (Z0 _ _ _)) | exact ZY (uh H4 _ (Z0 _ _ _)) | exact ZY (uh H5 _ (Z0 _ _ _)) | exact ZY (uh H6 _ (Z0 _ _ _))))
  refine wpQuiet_nil ?_;intro _ hw';obtain ⟨⟨dq,osq⟩,hw''⟩:=hw';subst hw'';go_wp2_with fail;go_ret;exact ⟨rfl,(uh BB).trans ((Z0 _ _ _).mono (uh BB).size)⟩
 cases q5
 ·go_wp2_with fail
  refine wq ?_
  repeat (go_big_quiet_step (first | exact ZY (uh H1 _ (Z0 _ _ _)) | exact ZY (uh H2 _ (Z0 _ _ _)) | exact ZY (uh H3 _ (Z0 _ _ _)) | exact ZY (uh H4a _ (Z0 _ _ _)) | exact ZY (uh H4 _ (Z0 _ _ _)) | exact ZY (uh H5 _ (Z0 _ _ _)) | exact ZY (uh H6 _ (Z0 _ _ _))))
  refine wpQuiet_nil ?_;intro _ hw';obtain ⟨⟨dq,osq⟩,hw''⟩:=hw';subst hw'';go_wp2_with fail;go_ret;exact ⟨rfl,(uh BB).trans ((Z0 _ _ _).mono (uh BB).size)⟩
 go_wp2_with fail;refine wq ?_
 repeat (go_big_quiet_step (first | exact ZY (uh H1 _ (Z0 _ _ _)) | exact ZY (uh H2 _ (Z0 _ _ _)) | exact ZY (uh H3 _ (Z0 _ _ _)) | exact ZY (uh H4a _ (Z0 _ _ _)) | exact ZY (uh H4 _ (Z0 _ _ _)) | exact ZY (uh H5 _ (Z0 _ _ _)) | exact ZY (uh H6 _ (Z0 _ _ _))))
 refine wpQuiet_nil ?_;intro _ hw';obtain ⟨⟨dq,osq⟩,hw''⟩:=hw';subst hw'';go_wp2_with fail;go_ret;exact ⟨Z5 (by simp),(uh BB).trans ((Z0 _ _ _).mono (uh BB).size)⟩
theorem Rf {w:World} {v0 v1 v2 v3 v4:Value} {m:Z6} (h:Smy w v0 v1 v2 v3 v4 m):Calls Tryz.prog 56 #[.agg #[v0,v1,v2,v3,v4,.int .i64 m.now]] w fun e w'=>e= .returned (.bool (VS m))/\Below w.heap.size w w':=by
 have Hv:=Z9 (h.alloc (.cells #[v0,v1,v2,v3,v4,.int .i64 m.now] 32));obtain ⟨a0,p0,a1,p1,a2,p2,a3,p3,a4,p4,rfl,rfl,rfl,rfl,rfl,_,_,_,_,_,_,_,_,_,_⟩:=h.five;clear h;obtain ⟨q1,hq1⟩:∃ q,PO m=q:=⟨_,rfl⟩
 obtain ⟨q2,hq2⟩:∃ q,XX (Wr m.dk) m.sm m.sm.length=q:=⟨_,rfl⟩
 refine Calls.bool_of (q:=(q1 && q2)) ?_ (by unfold VS;rw [hq1,hq2]);have H1:=Z9 hq1;have H2:=Z9 hq2;clear hq1 hq2;have kb:Hid (Blk (w.alloc (.cells (S6 a0 p0 a1 p1 a2 p2 a3 p3 a4 p4 m) 32)) w.heap.size 32 (S6 a0 p0 a1 p1 a2 p2 a3 p3 a4 p4 m)):=Z9 (Blk.new w _ _);have BB:Hid (Below w.heap.size w (w.alloc (.cells (S6 a0 p0 a1 p1 a2 p2 a3 p3 a4 p4 m) 32))):=Z9 ((ba _ _));go_enter Tryz.func56,Tryz.ntmps56;go_wp2_with fail;generalize w.alloc (.cells (S6 a0 p0 a1 p1 a2 p2 a3 p3 a4 p4 m) 32)=W at *;refine (H7 (uh Hv)).mono ?_;rw [uh H1];rintro e w1 ⟨rfl,hb⟩;replace Hv:=Z9 ((uh Hv).below hb);replace kb:=bl kb hb;replace BB:=bt BB hb;clear hb;cases q1
 ·go_wp2_with fail
  go_ret;exact ⟨rfl,uh BB⟩
 obtain ⟨c0,c1,c2,c3,c4,c5⟩:=(uh kb).c6;go_wp2_with fail;refine ck (WS _ _ _ _ _ _ _ _ _ _ _ _ _ _ _ _ _) fun w2 hb=> ?_;replace Hv:=Z9 ((uh Hv).below hb);replace kb:=bl kb hb;replace BB:=bt BB hb;clear hb c0 c1 c2 c3 c4 c5;go_wp2_with fail;refine (I2 (uh Hv).sm ((uh kb).cell (i:=3) rfl) (uh kb).lt (uh Hv).dk).mono ?_;rw [uh H2];rintro e w3 ⟨rfl,hb⟩;replace BB:=bt BB hb;clear hb;go_wp2_with fail;go_ret;exact ⟨Z5 (by simp),uh BB⟩
theorem R6 {w:World} {v0 v1 v2 v3 v4:Value} {m:Z6} (b:Int) (h:Smy w v0 v1 v2 v3 v4 m) (hl:m.sm.length<=1000):Calls Tryz.prog 183 #[.agg #[v0,v1,v2,v3,v4,.int .i64 m.now],.int .i64 b] w fun e w'=> ∃ v',e= .returned v'/\NumsAt w.heap.size w' v' (ZO (atB b) m.sm m.sm.length)/\Below w.heap.size w w':=by
 have Hv:=Z9 ((h.alloc (.cells #[v0,v1,v2,v3,v4,.int .i64 m.now] 32)).alloc (.cells #[.int .i64 b] 2));obtain ⟨a0,p0,a1,p1,a2,p2,a3,p3,a4,p4,rfl,rfl,rfl,rfl,rfl,_,_,_,_,_,_,_,_,_,_⟩:=h.five;clear h;have BB:Hid (Below w.heap.size w ((w.alloc (.cells (S6 a0 p0 a1 p1 a2 p2 a3 p3 a4 p4 m) 32)).alloc (.cells #[.int .i64 b] 2))):=Z9 (((ba _ _)).alloc (by simp) _)
 have kc:Hid (Blk ((w.alloc (.cells (S6 a0 p0 a1 p1 a2 p2 a3 p3 a4 p4 m) 32)).alloc (.cells #[.int .i64 b] 2)) (w.heap.size+1) 2 #[.int .i64 b]):=Z9 (by
  have k:=Blk.new (w.alloc (.cells (S6 a0 p0 a1 p1 a2 p2 a3 p3 a4 p4 m) 32)) 2 #[.int .i64 b];rw [Y1] at k
  exact k)
 go_enter Tryz.func183,Tryz.ntmps183;go_wp2_with fail;generalize (w.alloc (.cells (S6 a0 p0 a1 p1 a2 p2 a3 p3 a4 p4 m) 32)).alloc (.cells #[.int .i64 b] 2)=W at *;refine ck (WS _ _ _ _ _ _ _ _ _ _ _ _ _ _ _ _ _) fun w2 hb=> ?_;replace Hv:=Z9 ((uh Hv).below hb);replace kc:=bl kc hb;replace BB:=bt BB hb;clear hb;go_wp2_with fail;refine (IS (uh Hv).sm hl ((uh kc).cell (i:=0) rfl) (uh kc).lt).mono ?_;rintro e w3 ⟨v',rfl,hn,hb⟩;have HN:=Z9 (RecAt.mono hn (uh BB).size);replace BB:=bt BB hb;obtain ⟨la,lc,rfl⟩:=RecAt.shape hn;clear hb hn;go_wp2_with fail;go_ret;exact ⟨_,rfl,uh HN,uh BB⟩
theorem Nu {w:World} {v0 v1 v2 v3 v4:Value} {m:Z6} (b:Int) (h:Smy w v0 v1 v2 v3 v4 m) (hl:m.sm.length<=1000):Calls Tryz.prog 184 #[.agg #[v0,v1,v2,v3,v4,.int .i64 m.now],.int .i64 b] w fun e w'=> ∃ v',e= .returned v'/\NumsAt w.heap.size w' v' (ZO (YY b) m.sm m.sm.length)/\Below w.heap.size w w':=by
 have Hv:=Z9 ((h.alloc (.cells #[v0,v1,v2,v3,v4,.int .i64 m.now] 32)).alloc (.cells #[.int .i64 b] 2));obtain ⟨a0,p0,a1,p1,a2,p2,a3,p3,a4,p4,rfl,rfl,rfl,rfl,rfl,_,_,_,_,_,_,_,_,_,_⟩:=h.five;clear h;have BB:Hid (Below w.heap.size w ((w.alloc (.cells (S6 a0 p0 a1 p1 a2 p2 a3 p3 a4 p4 m) 32)).alloc (.cells #[.int .i64 b] 2))):=Z9 (((ba _ _)).alloc (by simp) _)
 have kc:Hid (Blk ((w.alloc (.cells (S6 a0 p0 a1 p1 a2 p2 a3 p3 a4 p4 m) 32)).alloc (.cells #[.int .i64 b] 2)) (w.heap.size+1) 2 #[.int .i64 b]):=Z9 (by
  have k:=Blk.new (w.alloc (.cells (S6 a0 p0 a1 p1 a2 p2 a3 p3 a4 p4 m) 32)) 2 #[.int .i64 b];rw [Y1] at k
  exact k)
 go_enter Tryz.func184,Tryz.ntmps184;go_wp2_with fail;generalize (w.alloc (.cells (S6 a0 p0 a1 p1 a2 p2 a3 p3 a4 p4 m) 32)).alloc (.cells #[.int .i64 b] 2)=W at *;refine ck (WS _ _ _ _ _ _ _ _ _ _ _ _ _ _ _ _ _) fun w2 hb=> ?_;replace Hv:=Z9 ((uh Hv).below hb);replace kc:=bl kc hb;replace BB:=bt BB hb;clear hb;go_wp2_with fail;refine (Nt (uh Hv).sm hl ((uh kc).cell (i:=0) rfl) (uh kc).lt).mono ?_;rintro e w3 ⟨v',rfl,hn,hb⟩;have HN:=Z9 (RecAt.mono hn (uh BB).size);replace BB:=bt BB hb;obtain ⟨la,lc,rfl⟩:=RecAt.shape hn;clear hb hn;go_wp2_with fail;go_ret;exact ⟨_,rfl,uh HN,uh BB⟩
theorem Fw {w:World} {v0 v1 v2 v3 v4:Value} {m:Z6} {b:Nat} (h:Smy w v0 v1 v2 v3 v4 m) (hl:m.sm.length<=1000) (hb0:b<m.dk.length):Calls Tryz.prog 123 #[.agg #[v0,v1,v2,v3,v4,.int .i64 m.now],.int .i64 (b:Int)] w fun e w'=>e= .returned (.bool (U1 m b))/\Below w.heap.size w w':=by
 have Hv:=Z9 (h.alloc (.cells #[v0,v1,v2,v3,v4,.int .i64 m.now] 32));obtain ⟨a0,p0,rfl,_,_⟩:=IsRooms.shape h.rm;obtain ⟨a1,p1,rfl,_,_⟩:=IsRec.shape h.gd;obtain ⟨a2,p2,rfl,_,_⟩:=IsRec.shape h.sm;obtain ⟨a3,p3,rfl,hc3,hm3,r3⟩:=h.dk;obtain ⟨a4,p4,rfl,_,_⟩:=IsRec.shape h.pc;clear h
 rcases r3 with e0 | ⟨db,off,rfl,hbw,hcl⟩
 ·rw [e0] at hb0;simp at hb0
 obtain ⟨_,d1,_⟩:=Y4 hcl hb0;have hb1:(b:Int)<(m.dk.length:Int):=by omega
 have hT:U1 m b=if (Z8 m.dk b).2.1= -1 then decide ((ZO (atB b) m.sm m.sm.length).length=0) else decide ((ZO (YY b) m.sm m.sm.length).length=1) && decide (Z8 (ZO (YY b) m.sm m.sm.length) 0=(Z8 m.dk b).2.1):=rfl
 have HT:=Z9 hT;clear hT hcl;generalize (Z8 m.dk b).2.1=who at *;have hne:db ≠ w.heap.size:=U3 hbw;obtain ⟨BB,kb⟩:=V7 w 32 #[.slice a0 m.rm.length p0,.slice a1 m.gd.length p1,.slice a2 m.sm.length p2,.slice (some ⟨db,off,none⟩) m.dk.length p3,.slice a4 m.pc.length p4,.int .i64 m.now];rw [<-(uh BB).cell (p:=⟨db,off+b*3+1,none⟩) hbw] at d1;by_cases hw:who= -1
 ·subst hw
  obtain ⟨ws,hws⟩:∃ ws,ZO (atB b) m.sm m.sm.length=ws:=⟨_,rfl⟩
  refine Calls.bool_of (q:=decide (ws.length=0)) ?_ (by rw [uh HT,if_pos rfl,hws]);have Hws:=Z9 hws;clear hws HT;go_enter Tryz.func123,Tryz.ntmps123;go_upto_region 3 with fail;generalize w.alloc (.cells #[.slice a0 m.rm.length p0,.slice a1 m.gd.length p1,.slice a2 m.sm.length p2,.slice (some ⟨db,off,none⟩) m.dk.length p3,.slice a4 m.pc.length p4,.int .i64 m.now] 32)=W at *;obtain ⟨c0,c1,c2,c3,c4,c5⟩:=(uh kb).c6;go_wp2_with fail;refine (R6 (b:Int) (uh Hv) hl).mono ?_;rw [uh Hws];rintro e w2 ⟨v',rfl,hn,hb⟩;obtain ⟨la,lc,rfl⟩:=RecAt.shape hn;replace BB:=bt BB hb;clear hb hn c0 c1 c2 c3 c4 c5;go_wp2_with fail;go_ret;exact ⟨Z5 (by rw [Bool.eq_iff_iff];simp only [beq_iff_eq,Y0];omega),uh BB⟩
 have nw:(who == -1)=false:=by simpa using hw
 obtain ⟨ws,hws⟩:∃ ws,ZO (YY b) m.sm m.sm.length=ws:=⟨_,rfl⟩
 refine Calls.bool_of (q:=decide (ws.length=1) && decide (Z8 ws 0=who)) ?_ (by rw [uh HT,if_neg hw,hws]);have Hws:=Z9 hws;clear hws HT;go_enter Tryz.func123,Tryz.ntmps123;go_upto_region 3 with fail;generalize w.alloc (.cells #[.slice a0 m.rm.length p0,.slice a1 m.gd.length p1,.slice a2 m.sm.length p2,.slice (some ⟨db,off,none⟩) m.dk.length p3,.slice a4 m.pc.length p4,.int .i64 m.now] 32)=W at *;obtain ⟨c0,c1,c2,c3,c4,c5⟩:=(uh kb).c6;go_wp2_with fail;refine (Nu (b:Int) (uh Hv) hl).mono ?_;rw [uh Hws];rintro e w2 ⟨v',rfl,hn,hb⟩;obtain ⟨la,lc,rfl⟩:=RecAt.shape hn;replace BB:=bt BB hb;have HN:=Z9 hn;clear hb hn c0 c1 c2 c3 c4 c5;by_cases h1:ws.length=1
 ·obtain ⟨g,hga,_,_,hcl,_⟩:=RecAt.view YE (by omega) (uh HN) rfl (by omega)
  cases hga;have z0:=hcl 0 (by omega) 0 _ rfl;simp only [Nat.zero_mul,Nat.add_zero] at z0;have hl1:((ws.length:Int) ==1)=true:=by simp;omega
  clear hcl;have h01:(0:Int)<(ws.length:Int):=by omega
  obtain ⟨z,hz⟩:∃ z,Z8 ws 0=z:=⟨_,rfl⟩
  rw [hz] at z0;have Hz:=Z9 hz;clear hz;go_wp2_with fail;go_ret;exact ⟨Z5 (by rw [uh Hz,decide_eq_true h1,Bool.eq_iff_iff];simp only [Bool.true_and,beq_iff_eq,Y0]),uh BB⟩
 ·have hl1:((ws.length:Int) ==1)=false:=by simp;omega
  go_wp2_with fail;go_ret;exact ⟨Z5 (by rw [decide_eq_false h1];rfl),uh BB⟩
theorem IJ {w:World} {v0 v1 v2 v3 v4:Value} {m:Z6} (h:Smy w v0 v1 v2 v3 v4 m) (hl:m.sm.length<=1000):Calls Tryz.prog 57 #[.agg #[v0,v1,v2,v3,v4,.int .i64 m.now]] w fun e w'=>e= .returned (.bool (Qb m))/\Below w.heap.size w w':=by
 have Hv:=Z9 (h.alloc (.cells #[v0,v1,v2,v3,v4,.int .i64 m.now] 32));obtain ⟨a0,p0,a1,p1,a2,p2,a3,p3,a4,p4,rfl,rfl,rfl,rfl,rfl,_,_,_,_,_,_,_,_,_,_⟩:=h.five;clear h;obtain ⟨BB0,kb0⟩:=V7 w 32 (S6 a0 p0 a1 p1 a2 p2 a3 p3 a4 p4 m);go_enter Tryz.func57,Tryz.ntmps57;go_wp2_with fail
 go_loopw [7] (fun i wr=> ∃ k:Nat,k<=m.dk.length/\i= .int .i64 k/\(List.range k).all (U1 m)=true/\Smy wr (.slice a0 m.rm.length p0) (.slice a1 m.gd.length p1) (.slice a2 m.sm.length p2) (.slice a3 m.dk.length p3) (.slice a4 m.pc.length p4) m/\Blk wr w.heap.size 32 (S6 a0 p0 a1 p1 a2 p2 a3 p3 a4 p4 m)/\Below w.heap.size w wr) (fun i _=>m.dk.length-(intOf i).toNat)
 case atStart=>exact ⟨0,Zz _,rfl,rfl,uh Hv,uh kb0,uh BB0⟩
 case round=>
  obtain ⟨k,hk,rfl,hst,hv,hkb,hb0⟩:=hrel;have Hst:=Z9 hst;have Hv1:=Z9 hv;have kb:=Z9 hkb;have BB:=Z9 hb0;clear hv hkb hb0 kb0 BB0 Hv;by_cases hlt:k<m.dk.length
  ·have hlt1:(k:Int)<(m.dk.length:Int):=by omega
   have HU:=Z9 (fun (hh:U1 m k=true)=>(show (List.range (k+1)).all (U1 m)=true from by rw [TB,hst,hh];rfl));have HN:=Z9 (fun hh=>(show Qb m=false from Qh (p:=U1 m) hlt hh));clear hst;obtain ⟨q,hq⟩:∃ q,U1 m k=q:=⟨_,rfl⟩
   have Hq:=Z9 hq;clear hq;obtain ⟨c0,c1,c2,c3,c4,c5⟩:=(uh kb).c6;go_wp2_with fail;refine (Fw (uh Hv1) hl hlt).mono ?_;rw [uh Hq];rintro e w1 ⟨rfl,hb⟩;replace Hv1:=Z9 ((uh Hv1).below hb);replace kb:=bl kb hb;replace BB:=bt BB hb;clear hb c0 c1 c2 c3 c4 c5;cases q
   ·go_wp2_with fail
    go_ret;exact ⟨Z5 (uh HN (uh Hq)).symm,uh BB⟩
   ·go_wp2_with fail
    go_roundw
    case rel=>exact ⟨k+1,by omega,by go_num,uh HU (uh Hq),uh Hv1,uh kb,uh BB⟩
    case measure=>exact ms
  ·obtain rfl:k=m.dk.length:=by omega
   go_wp2_with fail;go_ret;exact ⟨Z5 (uh Hst).symm,uh BB⟩
theorem CD {m:Z6} (h:VS m=true):m.sm.length<=12:=by
 rw [Qq] at h;unfold YK YA at h;simp only [ZP,Y0] at h;exact h.1.2.2.1
theorem OW {w:World} {v0 v1 v2 v3 v4:Value} {m:Z6} (h:Smy w v0 v1 v2 v3 v4 m):Calls Tryz.prog 13 #[.agg #[v0,v1,v2,v3,v4,.int .i64 m.now]] w fun e w'=>e= .returned (.bool (ZJ m))/\Below w.heap.size w w':=by
 have Hv:=Z9 (h.alloc (.cells #[v0,v1,v2,v3,v4,.int .i64 m.now] 32));obtain ⟨a0,p0,a1,p1,a2,p2,a3,p3,a4,p4,rfl,rfl,rfl,rfl,rfl,_,_,_,_,_,_,_,_,_,_⟩:=h.five;clear h;obtain ⟨q1,hq1⟩:∃ q,VS m=q:=⟨_,rfl⟩
 obtain ⟨q2,hq2⟩:∃ q,Qb m=q:=⟨_,rfl⟩
 refine Calls.bool_of (q:=(q1 && q2)) ?_ (by rw [<-Bl];unfold Bk;rw [hq1,hq2]);have H1:=Z9 hq1;have H2:=Z9 hq2;clear hq1 hq2;have kb:Hid (Blk (w.alloc (.cells (S6 a0 p0 a1 p1 a2 p2 a3 p3 a4 p4 m) 32)) w.heap.size 32 (S6 a0 p0 a1 p1 a2 p2 a3 p3 a4 p4 m)):=Z9 (Blk.new w _ _);have BB:Hid (Below w.heap.size w (w.alloc (.cells (S6 a0 p0 a1 p1 a2 p2 a3 p3 a4 p4 m) 32))):=Z9 ((ba _ _));go_enter Tryz.func13,Tryz.ntmps13;go_wp2_with fail;generalize w.alloc (.cells (S6 a0 p0 a1 p1 a2 p2 a3 p3 a4 p4 m) 32)=W at *;refine (Rf (uh Hv)).mono ?_;rw [uh H1];rintro e w1 ⟨rfl,hb⟩;replace Hv:=Z9 ((uh Hv).below hb);replace kb:=bl kb hb;replace BB:=bt BB hb;clear hb;cases q1
 ·go_wp2_with fail
  go_ret;exact ⟨rfl,uh BB⟩
 obtain ⟨c0,c1,c2,c3,c4,c5⟩:=(uh kb).c6;go_wp2_with fail;refine (IJ (uh Hv) (by have:=CD (uh H1);omega)).mono ?_;rw [uh H2];rintro e w2 ⟨rfl,hb⟩;replace BB:=bt BB hb;clear hb c0 c1 c2 c3 c4 c5;go_wp2_with fail;go_ret;exact ⟨Z5 (by simp),uh BB⟩
theorem Wm (w:World) (v0 v1 v2 v3 v4:Value) (m:Z6) (q:Bool) (hq:ZJ m=q) (h:Smy w v0 v1 v2 v3 v4 m):Calls Tryz.prog 13 #[.agg #[v0,v1,v2,v3,v4,.int .i64 m.now]] w fun e w'=>e= .returned (.bool q)/\Below w.heap.size w w':=Calls.bool_of (OW h) hq
end Go.Proofs.YtamgfpdahadnfaaGreatDoor
