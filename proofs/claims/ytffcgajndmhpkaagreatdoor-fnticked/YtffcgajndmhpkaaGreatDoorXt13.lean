/- Part 13 of what the proof rests on. No condition but those that a theorem names. -/
import Derived.Test.YtffcgajndmhpkaaGreatDoorXt12
import Derived.ChangeKeysEq
set_option maxHeartbeats 8000000
set_option maxRecDepth 100000
namespace Go.Proofs.YtffcgajndmhpkaaGreatDoor
open Go.ChangeShapes Go.WideShapes Go.ChangeAt Go.RowKit Go.Sort
set_option linter.unusedVariables false
set_option maxRecDepth 100000
theorem GI (a b c d:Int) (w:World):(Op.equalIn 10000 249 (.agg #[.int .i64 a,.int .i64 b]) (.agg #[.int .i64 c,.int .i64 d])).run Tryz.prog w= .ok (a ==c && b ==d) w:=by
 have u:=Tryz.underlying2
 have ag:=Tryz.isAgg2
 have z:=Tryz.sizeOf2
 have hc:Tryz.prog.cellsOf 2=1:=by kernel_rfl
 obtain ⟨i,hi⟩:=Option.isSome_iff_exists.1 (show (Tryz.prog.info? 2).isSome=true by kernel_rfl)
 rw [show (10000:Nat)=9999+1 from rfl,run_equalIn_array w 9999 _ _ Tryz.underlying249 hi,hc]
 simp only [show List.range 2=[0,1] from rfl,Op.eqItems]
 go_simp
 by_cases h:a=c
 ·subst h
  by_cases h2:b=d
  ·subst h2;simp
  ·simp [h2]
 ·simp [h]
theorem Dh (a b c d:Int) (w:World):(binOp .eql 249 (.agg #[.int .i64 a,.int .i64 b]) (.agg #[.int .i64 c,.int .i64 d])).run Tryz.prog w= .ok (.bool (a ==c && b ==d)) w:=by
 rw [run_eql_struct,GI];rfl
theorem Ro (lo hi n:Int) (w:World):Calls Tryz.prog 272 #[.agg #[.int .i64 lo,.int .i64 hi],.int .i64 n] w fun e w'=>e= .returned (.agg #[.int .i64 (min lo n),.int .i64 (max hi n)])/\Below w.heap.size w w':=by
 by_cases h1:lo<=n
 all_goals
  by_cases h2:hi<n
  all_goals
   go_enter Tryz.func272,Tryz.ntmps272
   go_wp2_with fail
   exact bodyPost_ret (v:= .agg #[.int .i64 (min lo n),.int .i64 (max hi n)]) (by simp [results,Tryz.results272,go_sem];omega) rfl ⟨rfl,((ba _ _)).alloc (by simp) _⟩
theorem GH (m:Int) (w:World) (m0 : -1000000000000<=m) (m1:m<=1000000000000):Calls Tryz.prog 223 #[.int .i64 m] w fun e w'=>e= .returned (.agg #[.int .i64 (m-20000),.int .i64 (m+63000)])/\Below w.heap.size w w':=by
 go_enter Tryz.func223,Tryz.ntmps223
 go_wp2_with fail
 exact bodyPost_ret (v:= .agg #[.int .i64 (m-20000),.int .i64 (m+63000)]) (by simp [results,Tryz.results223,go_sem]) rfl ⟨rfl,(ba _ _)⟩
def loL (lo:Int) (zs:List Int):Int:=zs.foldl min lo
def hiL (hi:Int) (zs:List Int):Int:=zs.foldl max hi
theorem BV (zs:List Int):∀ lo,loL lo zs<=lo:=by
 induction zs with
 | nil=>intro lo;exact Int.le_refl _
 | cons z zs ih=>intro lo;exact Int.le_trans (ih (min lo z)) (Int.min_le_left _ _)
theorem BQ (zs:List Int):∀ hi,hi<=hiL hi zs:=by
 induction zs with
 | nil=>intro hi;exact Int.le_refl _
 | cons z zs ih=>intro hi;exact Int.le_trans (Int.le_max_left _ _) (ih (max hi z))
theorem Mh (zs:List Int):∀ lo hi,(loL lo zs ==lo && hiL hi zs ==hi)=zs.all fun z=>inB z lo hi:=by
 induction zs with
 | nil=>intro lo hi;simp [loL,hiL]
 | cons z zs ih=>
  intro lo hi
  show (loL (min lo z) zs ==lo && hiL (max hi z) zs ==hi)=(inB z lo hi && zs.all fun z=>inB z lo hi)
  cases hz:inB z lo hi
  ·have hn:¬ (lo<=z/\z<=hi):=of_decide_eq_false hz
   have h1:=BV zs (min lo z)
   have h2:=BQ zs (max hi z)
   simp only [Bool.false_and,Bool.and_eq_false_iff,beq_eq_false_iff_ne]
   omega
  ·obtain ⟨h1,h2⟩:=ZU hz
   rw [show min lo z=lo by omega,show max hi z=hi by omega,ih];rfl
theorem DK {lo:Int} {zs:List Int} {k:Nat} (hk:k<zs.length):loL lo (zs.take (k+1))=min (loL lo (zs.take k)) (zs.getD k 0):=by
 unfold loL;rw [List.take_succ_eq_append_getElem hk,List.foldl_append];simp [List.getD,List.getElem?_eq_getElem hk]
theorem Dz {hi:Int} {zs:List Int} {k:Nat} (hk:k<zs.length):hiL hi (zs.take (k+1))=max (hiL hi (zs.take k)) (zs.getD k 0):=by
 unfold hiL;rw [List.take_succ_eq_append_getElem hk,List.foldl_append];simp [List.getD,List.getElem?_eq_getElem hk]
attribute [local go_sem ↓] Dh
theorem Sm (lo hi:Int) (b cap:Nat) (zs:List Int) (w:World) (hl:zs.length<=1000) (hb:b<w.heap.size) (hc:∀ k,k<zs.length->w.cell? ⟨b,k,none⟩=some (.int .i64 (zs.getD k 0))) :
  Calls Tryz.prog 224 #[.agg #[.int .i64 lo,.int .i64 hi],.slice (some ⟨b,0,none⟩) zs.length cap] w fun e w'=>e= .returned (.bool (zs.all fun z=>inB z lo hi))/\Below w.heap.size w w':=by
 have Hc:=Z9 hc
 clear hc
 go_enter Tryz.func224,Tryz.ntmps224
 go_wp2_with fail
 go_loopw [11] (fun i wr=> ∃ k:Nat,k<=zs.length/\i= .int .i64 k/\Blk wr (w.heap.size+1) 249 #[.int .i64 (loL lo (zs.take k)),.int .i64 (hiL hi (zs.take k))]/\Blk wr w.heap.size 249 #[.int .i64 lo,.int .i64 hi]/\Below w.heap.size w wr) (fun i _=>zs.length-(intOf i).toNat)
 case atStart=>
  refine ⟨0,Nat.zero_le _,rfl,?_,(Blk.new w _ _).alloc _,((ba _ _)).alloc (by simp) _⟩
  have:=Blk.new (w.alloc (.cells #[.int .i64 lo,.int .i64 hi] 249)) 249 #[.int .i64 lo,.int .i64 hi]
  simpa [loL,hiL] using this
 case round=>
  obtain ⟨k,hk,rfl,hs,ho,hbl⟩:=hrel
  have Hs:=Z9 hs
  have Ho:=Z9 ho
  have Hb:=Z9 hbl
  by_cases hlt:k<zs.length
  ·have c0:=uh Hc k hlt
   rw [<-hbl.cell (p:=⟨b,k,none⟩) hb] at c0
   have e1:=DK (lo:=lo) hlt
   have e2:=Dz (hi:=hi) hlt
   have s0:=hs.cell (i:=0) rfl
   have s1:=hs.cell (i:=1) rfl
   have g0:=hs.free 0
   have g1:=hs.free 1
   generalize zs.getD k 0=z at *
   generalize loL lo (zs.take k)=x at *
   generalize hiL hi (zs.take k)=y at *
   have E1:=Z9 e1
   have E2:=Z9 e2
   clear e1 e2 hs ho hbl
   go_wp2_with fail
   refine ck (Ro x y z _) fun w1 hb1=> ?_
   have hs1:=(uh Hs).below hb1 (uh Hs).lt
   have Hs1:=Z9 hs1
   have Ho1:Hid (Blk w1 w.heap.size 249 #[.int .i64 lo,.int .i64 hi]):=Z9 ((uh Ho).below hb1 (uh Ho).lt)
   have B1:Hid (Below w.heap.size w w1):=Z9 ((uh Hb).trans (hb1.mono (uh Hb).size))
   have s0:=hs1.cell (i:=0) rfl
   have s1:=hs1.cell (i:=1) rfl
   have g0:=hs1.free 0
   have g1:=hs1.free 1
   clear hs1 hb1
   go_wp2_with fail
   go_roundw
   case rel=>
    refine ⟨k+1,by omega,by go_num,?_,?_,?_⟩
    ·rw [uh E1,uh E2]
     simpa using ((uh Hs1).set 0 (.int .i64 (min x z))).set 1 (.int .i64 (max y z))
    ·exact ((uh Ho1).other (by simp) _).other (by simp) _
    ·exact ((uh B1).setCell (by simp) _).setCell (by simp) _
   case measure=>exact ms
  ·obtain rfl:k=zs.length:=by omega
   rw [List.take_length] at hs
   have e3:=Mh zs lo hi
   have s0:=hs.cell (i:=0) rfl
   have s1:=hs.cell (i:=1) rfl
   have o0:=ho.cell (i:=0) rfl
   have o1:=ho.cell (i:=1) rfl
   generalize loL lo zs=x at *
   generalize hiL hi zs=y at *
   have E3:=Z9 e3
   clear e3 hs ho hbl Hs
   go_wp2_with fail
   go_ret
   exact ⟨Z5 (uh E3),uh Hb⟩
theorem UU (b cap:Nat) (zs:List Int) (w:World) (hl:zs.length<=1000) (hb:b<w.heap.size) (hc:∀ k,k<zs.length->w.cell? ⟨b,k,none⟩=some (.int .i64 (zs.getD k 0))) :
  Calls Tryz.prog 222 #[.slice (some ⟨b,0,none⟩) zs.length cap] w fun e w'=>e= .returned (.bool (zs.all fun z=>inB z (-1000000000000) 1000000000000))/\Below w.heap.size w w':=by
 have Hc:=Z9 hc
 clear hc
 go_enter Tryz.func222,Tryz.ntmps222
 go_wp2_with fail
 refine ck (Sm _ _ b cap zs _ hl hb (uh Hc)) fun w1 hb1=> ?_
 have B1:=Z9 hb1
 clear hb1
 go_wp2_with fail
 go_ret
 exact ⟨rfl,uh B1⟩
theorem Ol (h m:Int) (w:World):Calls Tryz.prog 175 #[.int .i64 h,.int .i64 m] w fun e w'=>e= .returned (.bool (Wc h m))/\Below w.heap.size w w':=by
 cases hh:V2 h && V2 m
 ·have hs:Wc h m=false:=by unfold Wc;rw [hh];rfl
  have Hs:=Z9 hs
  clear hs
  go_enter Tryz.func175,Tryz.ntmps175
  go_wp2_with fail
  refine (UU _ _ [h,m] _ (by simp) (by simp) ?_).mono ?_
  ·intro k hk
   simp at hk
   match k,hk with
   | 0,_=>simp
   | 1,_=>simp
  rintro e w1 ⟨rfl,hb⟩
  rw [Ga,hh]
  have B1:Hid (Below w.heap.size w w1):=Z9 (((ba _ _)).trans (hb.mono (by simp)))
  clear hb
  go_wp2_with fail
  go_ret
  exact ⟨Z5 (uh Hs).symm,uh B1⟩
 ·have hs:Wc h m=inB (h-m) (-20000) 63000:=by unfold Wc;rw [hh];rfl
  have Hs:=Z9 hs
  have h':=hh
  simp only [Bool.and_eq_true] at h'
  obtain ⟨m0,m1⟩:=Oh h'.2
  clear hs h'
  go_enter Tryz.func175,Tryz.ntmps175
  go_wp2_with fail
  refine (UU _ _ [h,m] _ (by simp) (by simp) ?_).mono ?_
  ·intro k hk
   simp at hk
   match k,hk with
   | 0,_=>simp
   | 1,_=>simp
  rintro e w1 ⟨rfl,hb⟩
  rw [Ga,hh]
  have B1:Hid (Below w.heap.size w w1):=Z9 (((ba _ _)).trans (hb.mono (by simp)))
  clear hb
  go_wp2_with fail
  refine ck (GH m _ m0 m1) fun w2 hb=> ?_
  have B2:Hid (Below w.heap.size w w2):=Z9 ((uh B1).trans (hb.mono (uh B1).size))
  clear hb B1
  go_wp2_with fail
  refine (Sm _ _ _ _ [h] _ (by simp) (by simp) ?_).mono ?_
  ·intro k hk
   simp at hk
   subst hk
   simp
  rintro e w3 ⟨rfl,hb⟩
  rw [CF]
  have B3:Hid (Below w.heap.size w w3):=Z9 (((uh B2).alloc (uh B2).size _).trans (hb.mono (by have:=(uh B2).size;simp;omega)))
  clear hb B2
  go_wp2_with fail
  go_ret
  exact ⟨Z5 (uh Hs).symm,uh B3⟩
theorem Om (m f:Int) (w:World):Calls Tryz.prog 206 #[.int .i64 m,.int .i64 f] w fun e w'=>e= .returned (.int .i64 (ZG m f))/\Below w.heap.size w w':=by
 cases hh:V2 m && V2 f
 ·have hs:ZG m f=m:=by unfold ZG;rw [hh];rfl
  have Hs:=Z9 hs
  clear hs
  go_enter Tryz.func206,Tryz.ntmps206
  go_wp2_with fail
  refine (UU _ _ [m,f] _ (by simp) (by simp) ?_).mono ?_
  ·intro k hk
   simp at hk
   match k,hk with
   | 0,_=>simp
   | 1,_=>simp
  rintro e w1 ⟨rfl,hb⟩
  rw [Ga,hh]
  have B1:Hid (Below w.heap.size w w1):=Z9 (((ba _ _)).trans (hb.mono (by simp)))
  clear hb
  go_wp2_with fail
  go_ret
  exact ⟨ZD (uh Hs).symm,uh B1⟩
 ·have hs:ZG m f=min (max m f) 900000000000:=by unfold ZG;rw [hh];rfl
  have Hs:=Z9 hs
  clear hs
  go_enter Tryz.func206,Tryz.ntmps206
  go_wp2_with fail
  refine (UU _ _ [m,f] _ (by simp) (by simp) ?_).mono ?_
  ·intro k hk
   simp at hk
   match k,hk with
   | 0,_=>simp
   | 1,_=>simp
  rintro e w1 ⟨rfl,hb⟩
  rw [Ga,hh]
  have B1:Hid (Below w.heap.size w w1):=Z9 (((ba _ _)).trans (hb.mono (by simp)))
  clear hb
  go_wp2_with fail
  refine ck (PG m f 900000000000 _) fun w2 hw2=> ?_
  subst w2
  go_wp2_with fail
  go_ret
  exact ⟨ZD (uh Hs).symm,uh B1⟩
theorem Jc (x:Int) (w:World):Calls Tryz.prog 161 #[.int .i64 x] w fun e w'=>e= .returned (.bool (V2 x))/\w'=w:=by
 go_enter Tryz.func161,Tryz.ntmps161
 go_wp2_with (go_at_call 40;refine (Z1 _ _ _ _).mono ?_;rintro e w' ⟨rfl,rfl⟩)
 go_ret
 exact ⟨rfl,rfl⟩
theorem YO {x:Int} {r:Bool} (h:V2 x=r) (w:World):Calls Tryz.prog 161 #[.int .i64 x] w fun e w'=>e= .returned (.bool r)/\w'=w:=by
 rw [<-h];exact Jc x w
theorem Pb (h m:Int) (w:World):Calls Tryz.prog 279 #[.int .i64 h,.int .i64 m] w fun e w'=>e= .returned (.int .i64 (Y1 h m))/\w'=w:=by
 cases h2:V2 m
 ·have hs:Y1 h m=h:=by unfold Y1;rw [h2];rfl
  have Hs:=Z9 hs
  have H2:=Z9 h2
  clear hs h2
  go_enter Tryz.func279,Tryz.ntmps279
  go_wp2_with (go_at_call 161;refine (YO (uh H2) _).mono ?_;rintro e w' ⟨rfl,rfl⟩)
  go_ret
  exact ⟨ZD (uh Hs).symm,rfl⟩
 have hs:Y1 h m=max h (m-20000):=by unfold Y1;rw [h2];rfl
 obtain ⟨b0,b1⟩:=Oh h2
 have Hs:=Z9 hs
 have H2:=Z9 h2
 clear hs h2
 go_enter Tryz.func279,Tryz.ntmps279
 go_wp2_with (first | (go_at_call 124;refine (SI _ _ _).mono ?_;rintro e w' ⟨rfl,rfl⟩) | (go_at_call 161;refine (YO (uh H2) _).mono ?_;rintro e w' ⟨rfl,rfl⟩))
 go_ret
 exact ⟨ZD (uh Hs).symm,rfl⟩
theorem Sv (h f t:Int) (w:World):Calls Tryz.prog 280 #[.int .i64 h,.int .i64 f,.int .i64 t] w fun e w'=>e= .returned (.int .i64 (Zq h f t))/\w'=w:=by
 cases h1:V2 h
 ·have hs:Zq h f t=h:=by unfold Zq;rw [h1];rfl
  have Hs:=Z9 hs
  have H1:=Z9 h1
  clear hs h1
  go_enter Tryz.func280,Tryz.ntmps280
  go_wp2_with (go_at_call 161;refine (YO (uh H1) _).mono ?_;rintro e w' ⟨rfl,rfl⟩)
  go_ret
  exact ⟨ZD (uh Hs).symm,rfl⟩
 cases h2:V2 f
 ·have hs:Zq h f t=h:=by unfold Zq;rw [h1,h2];rfl
  have Hs:=Z9 hs
  have H1:=Z9 h1
  have H2:=Z9 h2
  clear hs h1 h2
  go_enter Tryz.func280,Tryz.ntmps280
  go_wp2_with (go_at_call 161;first | (refine (YO (uh H1) _).mono ?_;rintro e w' ⟨rfl,rfl⟩) | (refine (YO (uh H2) _).mono ?_;rintro e w' ⟨rfl,rfl⟩))
  go_ret
  exact ⟨ZD (uh Hs).symm,rfl⟩
 cases h3:V2 t
 ·have hs:Zq h f t=h:=by unfold Zq;rw [h1,h2,h3];rfl
  have Hs:=Z9 hs
  have H1:=Z9 h1
  have H2:=Z9 h2
  have H3:=Z9 h3
  clear hs h1 h2 h3
  go_enter Tryz.func280,Tryz.ntmps280
  go_wp2_with (go_at_call 161;first | (refine (YO (uh H1) _).mono ?_;rintro e w' ⟨rfl,rfl⟩) | (refine (YO (uh H2) _).mono ?_;rintro e w' ⟨rfl,rfl⟩) | (refine (YO (uh H3) _).mono ?_;rintro e w' ⟨rfl,rfl⟩))
  go_ret
  exact ⟨ZD (uh Hs).symm,rfl⟩
 have hs:Zq h f t=h-f+t:=by unfold Zq;rw [h1,h2,h3];rfl
 obtain ⟨a0,a1⟩:=Oh h1
 obtain ⟨b0,b1⟩:=Oh h2
 obtain ⟨c0,c1⟩:=Oh h3
 have Hs:=Z9 hs
 have H1:=Z9 h1
 have H2:=Z9 h2
 have H3:=Z9 h3
 clear hs h1 h2 h3
 go_enter Tryz.func280,Tryz.ntmps280
 go_wp2_with (go_at_call 161;first | (refine (YO (uh H1) _).mono ?_;rintro e w' ⟨rfl,rfl⟩) | (refine (YO (uh H2) _).mono ?_;rintro e w' ⟨rfl,rfl⟩) | (refine (YO (uh H3) _).mono ?_;rintro e w' ⟨rfl,rfl⟩))
 go_ret
 exact ⟨ZD (uh Hs).symm,rfl⟩
theorem O7 (m f:Int) (w:World):Calls Tryz.prog 122 #[.int .i64 m,.int .i64 f] w fun e w'=>e= .returned (.int .i64 (ZG m f))/\w'=w:=by
 cases h1:V2 m
 ·have hs:ZG m f=m:=by unfold ZG;rw [h1];rfl
  have Hs:=Z9 hs
  have H1:=Z9 h1
  clear hs h1
  go_enter Tryz.func122,Tryz.ntmps122
  go_wp2_with (go_at_call 161;refine (YO (uh H1) _).mono ?_;rintro e w' ⟨rfl,rfl⟩)
  go_ret
  exact ⟨ZD (uh Hs).symm,rfl⟩
 cases h2:V2 f
 ·have hs:ZG m f=m:=by unfold ZG;rw [h1,h2];rfl
  have Hs:=Z9 hs
  have H1:=Z9 h1
  have H2:=Z9 h2
  clear hs h1 h2
  go_enter Tryz.func122,Tryz.ntmps122
  go_wp2_with (go_at_call 161;first | (refine (YO (uh H1) _).mono ?_;rintro e w' ⟨rfl,rfl⟩) | (refine (YO (uh H2) _).mono ?_;rintro e w' ⟨rfl,rfl⟩))
  go_ret
  exact ⟨ZD (uh Hs).symm,rfl⟩
 have hs:ZG m f=min (max m f) 900000000000:=by unfold ZG;rw [h1,h2];rfl
 have Hs:=Z9 hs
 have H1:=Z9 h1
 have H2:=Z9 h2
 clear hs h1 h2
 go_enter Tryz.func122,Tryz.ntmps122
 go_wp2_with (first | (go_at_call 124;refine (SI _ _ _).mono ?_;rintro e w' ⟨rfl,rfl⟩) | (go_at_call 187;refine (MD _ _ _).mono ?_;rintro e w' ⟨rfl,rfl⟩) | (go_at_call 161;first | (refine (YO (uh H1) _).mono ?_;rintro e w' ⟨rfl,rfl⟩) | (refine (YO (uh H2) _).mono ?_;rintro e w' ⟨rfl,rfl⟩)))
 go_ret
 exact ⟨ZD (uh Hs).symm,rfl⟩
end Go.Proofs.YtffcgajndmhpkaaGreatDoor
namespace Go.Proofs.YtffcgajndmhpkaaGreatDoor
open Go.ChangeShapes Go.WideShapes Go.ChangeAt Go.RowKit Go.Sort
set_option linter.unusedVariables false
set_option linter.unusedSimpArgs false
theorem Two.ents {p q:Option Nat} {w w':World} {B:Nat} {v:Value} {ps:List Z4} (h:EntsAt B w v ps) (ht:Two p q w w') (hp:∀ k,p=some k->k<B) (hq:∀ k,q=some k->k<B):EntsAt B w' v ps:=
 EntsAt.same h fun k e=>ht.block k (h.lt e).2 (fun e'=>by have:=hp k e';have:=(h.lt e).1;omega) (fun e'=>by have:=hq k e';have:=(h.lt e).1;omega)
theorem Two.cell {p q:Option Nat} {w w':World} (h:Two p q w w') {a:Addr} (ha:a.block<w.heap.size) (hp:p ≠ some a.block) (hq:q ≠ some a.block):w'.cell? a=w.cell? a:=World.cell?_of_block (w:=w) (h.block a.block ha hp hq)
theorem KR {q:List Z4} {j:Nat} (hj:j<q.length):q.take (j+1)=q.take j++[Z7 q j]:=by
 rw [List.take_succ_eq_append_getElem hj];unfold Z7;simp [List.getD,hj]
theorem MY {m:Z6} {b:Nat} (h:atV m.smiths b m.smiths.length=[]):XU m b={ m with desks:=m.desks.set b ((Z8 m.desks b).1,-1,(Z8 m.desks b).2.2) }:=by
 unfold XU;rw [h]
theorem Pk {m:Z6} {b:Nat} {e:Z4} {t:List Z4} (h:atV m.smiths b m.smiths.length=e::t):XU m b={ m with smiths:=(ZL m.smiths (e::t)).set e.2.toNat (stS (Z8 (ZL m.smiths (e::t)) e.2.toNat) 3),desks:=m.desks.set b ((Z8 m.desks b).1,e.2,ZG (Z8 m.desks b).2.2 e.1) }:=by
 unfold XU;rw [h]
theorem S9 {w:World} {R n₀:Nat} {v0 v1 v2 v3 v4:Value} {m:Z6} {qs:List (Z2 × Value)} (kb:Blk w R 32 #[v0,v1,v2,v3,v4,.int .i64 m.now]) (hf:FullSmy n₀ w v0 v1 v2 v3 v4 m qs) (h2:v2.ownBlock ≠ some R) (h3:v3.ownBlock ≠ some R) (hl:m.smiths.length<=800) (hd:m.desks.length<=1000) :
  Calls Tryz.prog 60 #[.pointer (some ⟨R,0,none⟩)] w fun e w'=>e= .returned (.tuple #[])/\FullSmy n₀ w' v0 v1 v2 v3 v4 (ZQ m) qs/\Two v2.ownBlock v3.ownBlock w w':=by
 obtain ⟨a2,p2,rfl⟩:=RecAt.shape hf.smiths
 obtain ⟨a3,p3,rfl⟩:=RecAt.shape hf.desks
 by_cases hnd:m.desks.length=0
 ·have hz:ZQ m=m:=by unfold ZQ;rw [hnd];rfl
  have c3:=kb.cell (i:=3) (v:= .slice a3 m.desks.length p3) rfl
  have HF:=Z9 hf
  rw [hz]
  have hz0:¬ (0:Int)<(m.desks.length:Int):=by omega
  clear hz hf kb hnd
  go_enter Tryz.func60,Tryz.ntmps60
  go_wp2_with fail
  go_loopw [2] (fun i wr=>i= .int .i64 0/\wr=w) (fun i _=>0)
  case atStart=>exact ⟨rfl,rfl⟩
  case round=>
   obtain ⟨rfl,hwr⟩:=hrel
   subst hwr
   go_wp2_with fail
   go_end0
   exact ⟨rfl,uh HF,Two.refl _ _ _⟩
 obtain ⟨g3,rfl,hg3,hg3w,_,_⟩:=RecAt.view ZF (by omega) hf.desks rfl (by omega)
 have Kb:=Z9 kb
 have H2:=Z9 h2
 have H3:Hid (g3 ≠ R):=Z9 (fun e=>h3 (by rw [e];rfl))
 have HF:=Z9 hf
 have L2:Hid (∀ i,(Value.slice a2 m.smiths.length p2).ownBlock=some i->i<w.heap.size):=Z9 (fun i e=>(RecAt.lt hf.smiths e).2)
 clear kb h2 h3 hf
 go_enter Tryz.func60,Tryz.ntmps60
 go_wp2_with fail
 go_loopw [2] (fun i wr=> ∃ k:Nat,k<=m.desks.length/\i= .int .i64 k/\FullSmy n₀ wr v0 v1 (.slice a2 m.smiths.length p2) (.slice (some ⟨g3,0,none⟩) m.desks.length p3) v4 (Zg m k) qs/\Two (Value.slice a2 m.smiths.length p2).ownBlock (some g3) w wr) (fun i _=>m.desks.length-(intOf i).toNat)
 case atStart=>exact ⟨0,Nat.zero_le _,rfl,uh HF,Two.refl _ _ _⟩
 case round=>
  obtain ⟨k,hk,rfl,hf1,htw⟩:=hrel
  obtain ⟨e1,e2,e3,e4,e5,e6⟩:=ZM m k
  have Tw:=Z9 htw
  have hgw:g3<wr.heap.size:=Nat.lt_of_lt_of_le hg3w htw.size
  have hszr:=htw.size
  have hkb1:=(uh Kb).two htw (uh H2) (fun e=>uh H3 (by cases e;rfl))
  have K1:=Z9 hkb1
  clear htw hkb1
  by_cases hlt:k<m.desks.length
  rotate_left
  ·obtain rfl:k=m.desks.length:=by omega
   have c3:=(uh K1).cell (i:=3) (v:= .slice (some ⟨g3,0,none⟩) m.desks.length p3) rfl
   have hno:¬ ((m.desks.length:Nat):Int)<(m.desks.length:Int):=by omega
   have HF1:=Z9 hf1
   clear hf1
   go_wp2_with fail
   go_end0
   exact ⟨rfl,uh HF1,uh Tw⟩
  have hstep:Zg m (k+1)=XU (Zg m k) k:=rfl
  generalize Zg m k=m1 at *
  have Hstep:=Z9 hstep
  clear hstep
  obtain ⟨c0,c1,c2,c3,c4,c5⟩:=(uh K1).c6
  have hat:=SH (k:Int) hf1.smy (by rw [e5];exact hl)
  rw [e4,e5] at hat
  have Hat:=Z9 hat
  have HF1:=Z9 hf1
  clear hat hf1
  go_wp2_with fail
  refine (uh Hat).mono ?_
  rintro e w1 ⟨v',rfl,he,hb⟩
  clear c0 c1 c2 c3 c4 c5 Hat
  have hmem:=Yc m1.smiths (k:Int)
  have hlq:=TI m1.smiths (k:Int) m.smiths.length
  have HN:Hid (atV m1.smiths (k:Int) m.smiths.length=[]->XU m1 k={ m1 with desks:=m1.desks.set k ((Z8 m1.desks k).1,-1,(Z8 m1.desks k).2.2) }):=Z9 (fun h=>MY (by rw [e5];exact h))
  have HC:Hid (∀ e t,atV m1.smiths (k:Int) m.smiths.length=e::t->XU m1 k={ m1 with smiths:=(ZL m1.smiths (e::t)).set e.2.toNat (stS (Z8 (ZL m1.smiths (e::t)) e.2.toNat) 3),desks:=m1.desks.set k ((Z8 m1.desks k).1,e.2,ZG (Z8 m1.desks k).2.2 e.1) }):=Z9 (fun e t h=>Pk (by rw [e5];exact h))
  have hmq:∀ x ∈ atV m1.smiths (k:Int) m.smiths.length,∃ j:Nat,j<m.smiths.length/\x.2=(j:Int):=fun x hx=>by
   obtain ⟨j,hj,_,_,rfl⟩:=(hmem x m.smiths.length).1 hx
   exact ⟨j,hj,rfl⟩
  have Hm:=Z9 hmq
  clear hmem hmq
  generalize atV m1.smiths (k:Int) m.smiths.length=q at *
  obtain ⟨qa,qc,rfl⟩:=EntsAt.shape he
  have HE:=Z9 he
  replace HF1:=Z9 ((uh HF1).below hb)
  replace K1:=bl K1 hb
  replace Tw:=Z9 ((uh Tw).trans (Two.of_below hb))
  have hgw1:g3<w1.heap.size:=Nat.lt_of_lt_of_le hgw hb.size
  have hwr1:=hb.size
  clear he hb
  obtain ⟨⟨o,wh,mk⟩,hrk⟩:∃ d,Z8 m1.desks k=d:=⟨_,rfl⟩
  rw [hrk] at HN HC
  simp only at HN HC
  have Hrk:=Z9 hrk
  have hkd:k<m1.desks.length:=by omega
  have hset:∀ d,Z8 (m1.desks.set k d) k=d:=fun d=>by rw [ZK hkd,if_pos rfl]
  have Hset:=Z9 hset
  clear hset
  obtain ⟨_,hga,_,_,hc3,hz3⟩:=RecAt.view ZF (by omega) (uh HF1).desks e6.symm (by omega)
  cases hga
  have d1:=hc3 k (by omega) 1 _ rfl
  rw [hrk] at d1
  have f1:=hz3 (k*3+1)
  have c3:=(uh K1).cell (i:=3) (v:= .slice (some ⟨g3,0,none⟩) m.desks.length p3) rfl
  have hput:=(uh HF1).putD e6.symm (j:=k) (i:=1) (by omega) (by omega) (.int .i64 (-1)) (o,-1,mk) (by rw [hrk];rfl)
  have HF2:=Z9 hput
  have hns:Two (Value.slice a2 m.smiths.length p2).ownBlock (some g3) w1 (w1.setCell ⟨g3,k*3+1,none⟩ (.int .i64 (-1))):=Two.of_set w1 (.inr rfl) _ _
  have K2:=Z9 ((uh K1).two hns (uh H2) (fun e=>uh H3 (by cases e;rfl)))
  have Tw2:=Z9 ((uh Tw).trans hns)
  have hlow2:∀ i,(Value.slice a2 m.smiths.length p2).ownBlock=some i->i<wr.heap.size:=fun i e=>Nat.lt_of_lt_of_le (uh L2 i e) hszr
  have Low2:=Z9 hlow2
  have HE2:=Z9 (Two.ents (uh HE) hns hlow2 (fun i e=>by cases e;exact hgw))
  clear hput hns hlow2 hc3 hz3 hrk
  go_upto_region 5 with fail
  clear d1 f1 c3 K1 Tw HE HF1
  generalize w1.setCell ⟨g3,k*3+1,none⟩ (.int .i64 (-1))=X at *
  have hsm:∀ i,i ∈ [0]->True:=fun _ _=>trivial
  clear hsm
  go_wp2_with fail
  go_loopw [4] (fun i wi=> ∃ j:Nat,j<=q.length/\i= .int .i64 j/\FullSmy n₀ wi v0 v1 (.slice a2 m.smiths.length p2) (.slice (some ⟨g3,0,none⟩) m.desks.length p3) v4 { m1 with smiths:=ZL m1.smiths (q.take j),desks:=m1.desks.set k (o,-1,mk) } qs/\Two (Value.slice a2 m.smiths.length p2).ownBlock (some g3) X wi) (fun i _=>q.length-(intOf i).toNat)
  case atStart=>exact ⟨0,Nat.zero_le _,rfl,by simpa [ZL] using uh HF2,Two.refl _ _ _⟩
  case round=>
   obtain ⟨wi,rfl⟩:∃ x,x=wr:=⟨wr,rfl⟩
   obtain ⟨j,hj,rfl,hf3,htw3⟩:=hrel
   have HF3:=Z9 hf3
   have Tw3:=Z9 htw3
   have K3:=Z9 ((uh K2).two htw3 (uh H2) (fun e=>uh H3 (by cases e;rfl)))
   have HE3:=Z9 (Two.ents (uh HE2) htw3 (uh Low2) (fun i e=>by cases e;exact hgw))
   clear hf3 htw3
   by_cases hjl:j<q.length
   ·obtain ⟨_,_,hqe,_,_,hr⟩:=EntsAt.paces (uh HE3)
    cases hqe
    rcases hr with e0 | ⟨eb,eo,rfl,hbw,hcl⟩
    ·rw [e0] at hjl;simp at hjl
    obtain ⟨c0,c1⟩:=hcl j hjl
    obtain ⟨i0,hi0,hie⟩:=uh Hm _ (XQ hjl)
    rw [hie] at c1
    have Htk:Hid (ZL m1.smiths (q.take (j+1))=(ZL m1.smiths (q.take j)).set i0 (stS (Z8 (ZL m1.smiths (q.take j)) i0) 2)):=Z9 (by rw [KR hjl,RT,hie];simp)
    have hwl:(ZL m1.smiths (q.take j)).length=m.smiths.length:=by rw [Yi,e5]
    obtain ⟨g2,rfl,hg2,hg2w,hc2,hz2⟩:=RecAt.view ZW (by omega) (uh HF3).smiths hwl.symm (by show 0<(ZL m1.smiths (q.take j)).length;omega)
    have s0:=hc2 i0 (by show i0<(ZL m1.smiths (q.take j)).length;omega) 0 _ rfl
    have f0:=hz2 (i0*11)
    have hput:=(uh HF3).putS hwl.symm (j:=i0) (i:=0) (by show i0<(ZL m1.smiths (q.take j)).length;omega) (by omega) (.int .i64 2) (stS (Z8 (ZL m1.smiths (q.take j)) i0) 2) rfl
    simp only [Nat.add_zero] at s0 hput
    have HF4:=Z9 hput
    have c2:=(uh K3).cell (i:=2) (v:= .slice (some ⟨g2,0,none⟩) m.smiths.length p2) rfl
    clear hcl hc2 hz2 hput hie c0 hwl
    have hi1:(i0:Int)<(m.smiths.length:Int):=by omega
    go_wp2_with fail
    refine ZR (S:=fun w'=>w'.cell? ⟨R,2,none⟩=some (.slice (some ⟨g2,0,none⟩) m.smiths.length p2)/\w'.cell? ⟨eb,eo+j*2+1,none⟩=some (.int .i64 (i0:Int))) (by kernel_rfl) (List.cons_ne_nil _ _) (by kernel_rfl) ⟨c2,c1⟩ (fun hHeld=> ?_)
    simp only [List.dropLast_cons_cons,List.dropLast_singleton,List.length_cons,List.length_nil,Nat.zero_add,Nat.reduceAdd]
    (refine tq 0 ?_;(try simp only [Act.put,sA,sZ,sS]))
    (refine tq 1 ?_;(try simp only [Act.put,sA,sZ,sS]))
    (refine tq 2 ?_;(try simp only [Act.put,sA,sZ,sS]))
    (refine tq 3 ?_;(try simp only [Act.put,sA,sZ,sS]))
    (refine tq 4 ?_;(try simp only [Act.put,sA,sZ,sS]))
    (refine tq 5 ?_;(try simp only [Act.put,sA,sZ,sS]))
    (refine tq 6 ?_;(try simp only [Act.put,sA,sZ,sS]))
    (refine tq 7 ?_;(try simp only [Act.put,sA,sZ,sS]))
    (refine tq 8 ?_;(try simp only [Act.put,sA,sZ,sS]))
    (refine tq 9 ?_;(try simp only [Act.put,sA,sZ,sS]))
    (refine tq 10 ?_;(try simp only [Act.put,sA,sZ,sS]))
    refine wpAnyH_done (by kernel_rfl) ?_ _
    refine ZE rfl rfl ?_
    go_simp
    clear hHeld
    go_wp2_with fail
    go_roundw
    case rel=>exact ⟨j+1,by omega,by go_num,by rw [uh Htk];exact (uh HF4).below (Below.refl _ _).drew,((uh Tw3).trans (Two.of_set _ (.inl rfl) _ _)).trans (Two.of_below (Below.refl _ _).drew)⟩
    case measure=>exact ms
   ·obtain rfl:j=q.length:=by omega
    rw [List.take_length] at HF3
    cases q with
    | nil=>
     clear HC
     go_wp2_with fail
     go_roundw
     case rel=>exact ⟨k+1,by omega,by go_num,by rw [uh Hstep,uh HN rfl];exact uh HF3,(uh Tw2).trans (uh Tw3)⟩
     case measure=>exact ms
    | cons e t=>
     obtain ⟨_,_,hqe,_,_,hr⟩:=EntsAt.paces (uh HE3)
     cases hqe
     rcases hr with e0 | ⟨eb,eo,rfl,hbw,hcl⟩
     ·cases e0
     obtain ⟨c0,c1⟩:=hcl 0 (by simp)
     obtain ⟨i0,hi0,hie⟩:=uh Hm e (by simp)
     have hp0:Z7 (e::t) 0=e:=rfl
     rw [hp0] at c0 c1
     rw [hie] at c1
     simp only [Nat.zero_mul,Nat.add_zero] at c0 c1
     have hcons:=uh HC e t rfl
     rw [hie] at hcons
     simp only [show ((i0:Int)).toNat=i0 by simp] at hcons
     have Hcons:=Z9 hcons
     obtain ⟨hd0,hhd⟩:∃ x,e.1=x:=⟨_,rfl⟩
     rw [hhd] at c0 Hcons
     clear hcons hhd hie hp0 hcl HN HC
     have hwl:(ZL m1.smiths (e::t)).length=m.smiths.length:=by rw [Yi,e5]
     obtain ⟨g2,rfl,hg2,hg2w,_,_⟩:=RecAt.view ZW (by omega) (uh HF3).smiths hwl.symm (by show 0<(ZL m1.smiths (e::t)).length;omega)
     have hD1:(m1.desks.set k (o,-1,mk)).length=m.desks.length:=by simp [e6]
     have hD2:∀ d,(m1.desks.set k d).length=m.desks.length:=fun d=>by simp [e6]
     have heb:=(EntsAt.lt (uh HE3) (k:=eb) rfl).1
     have hg2r:=uh Low2 g2 rfl
     have hlen:(e::t).length=t.length+1:=rfl
     have hlpos:(0:Int)<((t.length+1:Nat):Int):=by omega
     rw [hlen] at *
     obtain ⟨_,hga,_,_,hcd,hzd⟩:=RecAt.view ZF (by omega) (uh HF3).desks hD1.symm (by show 0<(m1.desks.set k (o,-1,mk)).length;omega)
     cases hga
     have d1:=hcd k (by show k<(m1.desks.set k (o,-1,mk)).length;omega) 1 _ rfl
     have f1:=hzd (k*3+1)
     have c3:=(uh K3).cell (i:=3) (v:= .slice (some ⟨g3,0,none⟩) m.desks.length p3) rfl
     have hne2:(Value.slice (some ⟨g2,0,none⟩) m.smiths.length p2).ownBlock ≠ some eb:=fun e9=>by have e8:g2=eb:=Option.some.inj e9;omega
     have hne3:(some g3:Option Nat) ≠ some eb:=fun e9=>by have e8:g3=eb:=Option.some.inj e9;omega
     have hput1:=(uh HF3).putD hD1.symm (j:=k) (i:=1) (by show k<(m1.desks.set k (o,-1,mk)).length;omega) (by omega) (.int .i64 (i0:Int)) (o,(i0:Int),mk) (by show XA (o,(i0:Int),mk)=(XA (Z8 (m1.desks.set k (o,-1,mk)) k)).set 1 _;rw [uh Hset];rfl)
     simp only [List.set_set] at hput1
     have HF4:Hid (FullSmy n₀ (wi.setCell ⟨g3,k*3+1,none⟩ (.int .i64 (i0:Int))).drew v0 v1 (.slice (some ⟨g2,0,none⟩) m.smiths.length p2) (.slice (some ⟨g3,0,none⟩) m.desks.length p3) v4 { m1 with smiths:=ZL m1.smiths (e::t),desks:=m1.desks.set k (o,(i0:Int),mk) } qs):=Z9 (hput1.below (Below.refl _ _).drew)
     have T4:Two (Value.slice (some ⟨g2,0,none⟩) m.smiths.length p2).ownBlock (some g3) wi (wi.setCell ⟨g3,k*3+1,none⟩ (.int .i64 (i0:Int))).drew:=(Two.of_set wi (.inr rfl) _ _).trans (Two.of_below (Below.refl _ _).drew)
     have K4:=Z9 ((uh K3).two T4 (uh H2) (fun e9=>uh H3 (by cases e9;rfl)))
     have x0:=(T4.cell (a:=⟨eb,eo,none⟩) hbw hne2 hne3).trans c0
     have x1:=(T4.cell (a:=⟨eb,eo+1,none⟩) hbw hne2 hne3).trans c1
     have hbw4:eb<((wi.setCell ⟨g3,k*3+1,none⟩ (.int .i64 (i0:Int))).drew).heap.size:=Nat.lt_of_lt_of_le hbw T4.size
     replace Tw3:=Z9 ((uh Tw3).trans T4)
     clear hput1 T4 hcd hzd HE3 HF3
     go_wp2_with fail
     refine ZR (S:=fun w'=>w'.cell? ⟨R,3,none⟩=some (.slice (some ⟨g3,0,none⟩) m.desks.length p3)/\w'.cell? ⟨eb,eo+1,none⟩=some (.int .i64 (i0:Int))) (by kernel_rfl) (List.cons_ne_nil _ _) (by kernel_rfl) ⟨c3,c1⟩ (fun hHeld=> ?_)
     simp only [List.dropLast_cons_cons,List.dropLast_singleton,List.length_cons,List.length_nil,Nat.zero_add,Nat.reduceAdd]
     (refine tq 0 ?_;(try simp only [Act.put,sA,sZ,sS]))
     (refine tq 1 ?_;(try simp only [Act.put,sA,sZ,sS]))
     (refine tq 2 ?_;(try simp only [Act.put,sA,sZ,sS]))
     (refine tq 3 ?_;(try simp only [Act.put,sA,sZ,sS]))
     (refine tq 4 ?_;(try simp only [Act.put,sA,sZ,sS]))
     (refine tq 5 ?_;(try simp only [Act.put,sA,sZ,sS]))
     (refine tq 6 ?_;(try simp only [Act.put,sA,sZ,sS]))
     (refine tq 7 ?_;(try simp only [Act.put,sA,sZ,sS]))
     (refine tq 8 ?_;(try simp only [Act.put,sA,sZ,sS]))
     (refine tq 9 ?_;(try simp only [Act.put,sA,sZ,sS]))
     (refine tq 10 ?_;(try simp only [Act.put,sA,sZ,sS]))
     refine wpAnyH_done (by kernel_rfl) ?_ _
     refine ZE rfl rfl ?_
     go_simp
     clear hHeld
     clear d1 f1 c3 c0 c1 hbw K3
     generalize (wi.setCell ⟨g3,k*3+1,none⟩ (.int .i64 (i0:Int))).drew=Y at *
     obtain ⟨_,hga,_,_,hcd,hzd⟩:=RecAt.view ZF (by omega) (uh HF4).desks (hD2 _).symm (by show 0<(m1.desks.set k _).length;rw [hD2];omega)
     cases hga
     have d2:=hcd k (by show k<(m1.desks.set k _).length;rw [hD2];omega) 2 _ rfl
     have d2':Y.cell? ⟨g3,k*3+2,none⟩=some (.int .i64 mk):=by
      have h9:Z8 (m1.desks.set k (o,(i0:Int),mk)) k=(o,(i0:Int),mk):=uh Hset _
      rw [show (({ m1 with smiths:=ZL m1.smiths (e::t),desks:=m1.desks.set k (o,(i0:Int),mk) } : Z6)).desks=m1.desks.set k (o,(i0:Int),mk) from rfl,h9] at d2
      exact d2
     have f2:=hzd (k*3+2)
     have c3:=(uh K4).cell (i:=3) (v:= .slice (some ⟨g3,0,none⟩) m.desks.length p3) rfl
     have hput2:=(uh HF4).putD (hD2 _).symm (j:=k) (i:=2) (by show k<(m1.desks.set k _).length;rw [hD2];omega) (by omega) (.int .i64 (ZG mk hd0)) (o,(i0:Int),ZG mk hd0) (by show XA (o,(i0:Int),ZG mk hd0)=(XA (Z8 (m1.desks.set k (o,(i0:Int),mk)) k)).set 2 _;rw [uh Hset];rfl)
     simp only [List.set_set] at hput2
     have HF5:Hid (FullSmy n₀ (Y.setCell ⟨g3,k*3+2,none⟩ (.int .i64 (ZG mk hd0))).drew v0 v1 (.slice (some ⟨g2,0,none⟩) m.smiths.length p2) (.slice (some ⟨g3,0,none⟩) m.desks.length p3) v4 { m1 with smiths:=ZL m1.smiths (e::t),desks:=m1.desks.set k (o,(i0:Int),ZG mk hd0) } qs):=Z9 (hput2.below (Below.refl _ _).drew)
     have T5:Two (Value.slice (some ⟨g2,0,none⟩) m.smiths.length p2).ownBlock (some g3) Y (Y.setCell ⟨g3,k*3+2,none⟩ (.int .i64 (ZG mk hd0))).drew:=(Two.of_set Y (.inr rfl) _ _).trans (Two.of_below (Below.refl _ _).drew)
     have K5:=Z9 ((uh K4).two T5 (uh H2) (fun e9=>uh H3 (by cases e9;rfl)))
     have y1:=(T5.cell (a:=⟨eb,eo+1,none⟩) hbw4 hne2 hne3).trans x1
     replace Tw3:=Z9 ((uh Tw3).trans T5)
     clear hput2 T5 hcd hzd HF4 d2
     go_wp2_with fail
     refine ZR (S:=fun w'=>w'.cell? ⟨R,3,none⟩=some (.slice (some ⟨g3,0,none⟩) m.desks.length p3)/\w'.cell? ⟨g3,k*3+2,none⟩=some (.int .i64 mk)/\w'.cell? ⟨eb,eo,none⟩=some (.int .i64 hd0)) (by kernel_rfl) (List.cons_ne_nil _ _) (by kernel_rfl) ⟨c3,d2',x0⟩ (fun hHeld=> ?_)
     simp only [List.dropLast_cons_cons,List.dropLast_singleton,List.length_cons,List.length_nil,Nat.zero_add,Nat.reduceAdd]
     (refine tq 0 ?_;(try simp only [Act.put,sA,sZ,sS]))
     (refine tq 1 ?_;(try simp only [Act.put,sA,sZ,sS]))
     (refine tq 2 ?_;(try simp only [Act.put,sA,sZ,sS]))
     (refine tq 3 ?_;(try simp only [Act.put,sA,sZ,sS]))
     (refine tq 4 ?_;(try simp only [Act.put,sA,sZ,sS]))
     (refine tq 5 ?_;(try simp only [Act.put,sA,sZ,sS]))
     (refine tq 6 ?_;(try simp only [Act.put,sA,sZ,sS]))
     (refine tq 7 ?_;(try simp only [Act.put,sA,sZ,sS]))
     (refine tq 8 ?_;(try simp only [Act.put,sA,sZ,sS]))
     (refine tq 9 ?_;(try simp only [Act.put,sA,sZ,sS]))
     (refine tq 10 ?_;(try simp only [Act.put,sA,sZ,sS]))
     (refine tq 11 ?_;(try simp only [Act.put,sA,sZ,sS]))
     (refine tq 12 ?_;(try simp only [Act.put,sA,sZ,sS]))
     (refine tq 13 ?_;(try simp only [Act.put,sA,sZ,sS]))
     (refine tq 14 ?_;(try simp only [Act.put,sA,sZ,sS]))
     (refine tq 15 ?_;(try simp only [Act.put,sA,sZ,sS]))
     (refine tq 16 ?_;(try simp only [Act.put,sA,sZ,sS]))
     refine rd 17 rfl (fun K hK=> ?_)
     go_simp
     refine ck (O7 mk hd0 _) fun w9 hw9=> ?_
     subst w9
     refine hK.out _ _ hHeld (fun hHeld=> ?_)
     clear hK K
     (try simp only [Act.put,sA,sZ,sS])
     (refine tq 18 ?_;(try simp only [Act.put,sA,sZ,sS]))
     (refine tq 19 ?_;(try simp only [Act.put,sA,sZ,sS]))
     refine wpAnyH_done (by kernel_rfl) ?_ _
     refine ZE rfl rfl ?_
     go_simp
     clear hHeld
     clear d2' f2 c3 x0 x1 hbw4 K4
     generalize (Y.setCell ⟨g3,k*3+2,none⟩ (.int .i64 (ZG mk hd0))).drew=Z at *
     obtain ⟨_,hga,_,_,hc2,hz2⟩:=RecAt.view ZW (by omega) (uh HF5).smiths hwl.symm (by show 0<(ZL m1.smiths (e::t)).length;omega)
     cases hga
     have s0:=hc2 i0 (by show i0<(ZL m1.smiths (e::t)).length;omega) 0 _ rfl
     have f0:=hz2 (i0*11)
     have c2:=(uh K5).cell (i:=2) (v:= .slice (some ⟨g2,0,none⟩) m.smiths.length p2) rfl
     have hput3:=(uh HF5).putS hwl.symm (j:=i0) (i:=0) (by show i0<(ZL m1.smiths (e::t)).length;omega) (by omega) (.int .i64 3) (stS (Z8 (ZL m1.smiths (e::t)) i0) 3) rfl
     simp only [Nat.add_zero] at s0 hput3
     have HF6:=Z9 hput3
     have hi1:(i0:Int)<(m.smiths.length:Int):=by omega
     clear hput3 hc2 hz2 HF5
     go_wp2_with fail
     refine ZR (S:=fun w'=>w'.cell? ⟨R,2,none⟩=some (.slice (some ⟨g2,0,none⟩) m.smiths.length p2)/\w'.cell? ⟨eb,eo+1,none⟩=some (.int .i64 (i0:Int))) (by kernel_rfl) (List.cons_ne_nil _ _) (by kernel_rfl) ⟨c2,y1⟩ (fun hHeld=> ?_)
     simp only [List.dropLast_cons_cons,List.dropLast_singleton,List.length_cons,List.length_nil,Nat.zero_add,Nat.reduceAdd]
     (refine tq 0 ?_;(try simp only [Act.put,sA,sZ,sS]))
     (refine tq 1 ?_;(try simp only [Act.put,sA,sZ,sS]))
     (refine tq 2 ?_;(try simp only [Act.put,sA,sZ,sS]))
     (refine tq 3 ?_;(try simp only [Act.put,sA,sZ,sS]))
     (refine tq 4 ?_;(try simp only [Act.put,sA,sZ,sS]))
     (refine tq 5 ?_;(try simp only [Act.put,sA,sZ,sS]))
     (refine tq 6 ?_;(try simp only [Act.put,sA,sZ,sS]))
     (refine tq 7 ?_;(try simp only [Act.put,sA,sZ,sS]))
     (refine tq 8 ?_;(try simp only [Act.put,sA,sZ,sS]))
     (refine tq 9 ?_;(try simp only [Act.put,sA,sZ,sS]))
     refine wpAnyH_done (by kernel_rfl) ?_ _
     refine ZE rfl rfl ?_
     go_simp
     clear hHeld
     go_wp2_with fail
     go_roundw
     case rel=>exact ⟨k+1,by omega,by go_num,by rw [uh Hstep,uh Hcons];exact (uh HF6).below (Below.refl _ _).drew,((uh Tw2).trans (uh Tw3)).trans ((Two.of_set _ (.inl rfl) _ _).trans (Two.of_below (Below.refl _ _).drew))⟩
     case measure=>exact ms
theorem FullSmy.set_off {n₀:Nat} {w:World} {v0 v1 v2 v3 v4:Value} {m:Z6} {qs:List (Z2 × Value)} (h:FullSmy n₀ w v0 v1 v2 v3 v4 m qs) {g:Nat} (ho:∀ k,(v0.ownBlock=some k\/(∃ q ∈ qs,q.2.ownBlock=some k)\/v1.ownBlock=some k\/v2.ownBlock=some k\/v3.ownBlock=some k\/v4.ownBlock=some k)->k ≠ g) (o:Nat) (u:Value):FullSmy n₀ (w.setCell ⟨g,o,none⟩ u) v0 v1 v2 v3 v4 m qs:=by
 have hne:∀ k,k ≠ g->(w.setCell ⟨g,o,none⟩ u).heap[k]?=w.heap[k]?:=fun k hk=>heap_setCell_other w _ k u hk
 exact ⟨h.hall.same2 fun k e=>hne k (ho k (by rcases e with e | e;exact .inl e;exact .inr (.inl e))),h.rooms,RecAt.same h.guilds fun k e=>hne k (ho k (.inr (.inr (.inl e)))),RecAt.same h.smiths fun k e=>hne k (ho k (.inr (.inr (.inr (.inl e))))),RecAt.same h.desks fun k e=>hne k (ho k (.inr (.inr (.inr (.inr (.inl e)))))),RecAt.same h.paces fun k e=>hne k (ho k (.inr (.inr (.inr (.inr (.inr e)))))),h.h1,h.h2,h.h3,h.h4,h.a12,h.a13,h.a14,h.a23,h.a24,h.a34⟩
theorem YP (n₀:Nat) (w:World):FullSmy n₀ w (.slice none 0 0) (.slice none 0 0) (.slice none 0 0) (.slice none 0 0) (.slice none 0 0) YF []:=by
 have hz:NI (.slice none 0 0) (.slice none 0 0):=fun b e=>by cases e
 exact ⟨OwnHall.nil _ _,rfl,World.ownsRow_nil _ _ _ _,World.ownsRow_nil _ _ _ _,World.ownsRow_nil _ _ _ _,World.ownsRow_nil _ _ _ _,⟨hz,fun q hq=>by cases hq⟩,⟨hz,fun q hq=>by cases hq⟩,⟨hz,fun q hq=>by cases hq⟩,⟨hz,fun q hq=>by cases hq⟩,hz,hz,hz,hz,hz,hz⟩
end Go.Proofs.YtffcgajndmhpkaaGreatDoor
