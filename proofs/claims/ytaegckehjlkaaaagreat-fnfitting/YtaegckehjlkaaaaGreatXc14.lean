/- Part 14 of what the proof rests on. No condition but those that a theorem names. -/
import Derived.Test.YtaegckehjlkaaaaGreatXc06
import Derived.ChangeKeysEq
import Derived.WalkMore
import Derived.Below
namespace Go.Proofs.YtaegckehjlkaaaaGreat
open Go.ChangeShapes Go.WideShapes Go.ChangeAt Go.RowKit Go.Sort
set_option linter.unusedVariables false
set_option maxRecDepth 100000
theorem Im (a b c d:Int) (w:World):(Op.equalIn 10000 233 (.agg #[.int .i64 a,.int .i64 b]) (.agg #[.int .i64 c,.int .i64 d])).run Tryz.prog w= .ok (a ==c && b ==d) w:=by
 have u:=Tryz.underlying2
 have ag:=Tryz.isAgg2
 have z:=Tryz.sizeOf2
 have hc:Tryz.prog.cellsOf 2=1:=by kernel_rfl
 obtain ⟨i,hi⟩:=Option.isSome_iff_exists.1 (show (Tryz.prog.info? 2).isSome=true by kernel_rfl)
 rw [show (10000:Nat)=9999+1 from rfl,run_equalIn_array w 9999 _ _ Tryz.underlying233 hi,hc]
 simp only [show List.range 2=[0,1] from rfl,Op.eqItems]
 go_simp
 by_cases h:a=c
 ·subst h
  by_cases h2:b=d
  ·subst h2;simp
  ·simp [h2]
 ·simp [h]
theorem Dq (a b c d:Int) (w:World):(binOp .eql 233 (.agg #[.int .i64 a,.int .i64 b]) (.agg #[.int .i64 c,.int .i64 d])).run Tryz.prog w= .ok (.bool (a ==c && b ==d)) w:=by
 rw [run_eql_struct,Im];rfl
theorem Rd (lo hi n:Int) (w:World):Calls Tryz.prog 269 #[.agg #[.int .i64 lo,.int .i64 hi],.int .i64 n] w fun e w'=>e= .returned (.agg #[.int .i64 (min lo n),.int .i64 (max hi n)])/\Below w.heap.size w w':=by
 by_cases h1:lo<=n
 all_goals
  by_cases h2:hi<n
  all_goals
   go_enter Tryz.func269,Tryz.ntmps269
   go_wp2_with fail
   exact bodyPost_ret (v:= .agg #[.int .i64 (min lo n),.int .i64 (max hi n)]) (by simp [results,Tryz.results269,go_sem];omega) rfl ⟨rfl,((Below.refl _ _).alloc (Nat.le_refl _) _).alloc (by simp) _⟩
theorem Il (m:Int) (w:World) (m0 : -1000000000000<=m) (m1:m<=1000000000000):Calls Tryz.prog 229 #[.int .i64 m] w fun e w'=>e= .returned (.agg #[.int .i64 (m-20000),.int .i64 (m+63000)])/\Below w.heap.size w w':=by
 go_enter Tryz.func229,Tryz.ntmps229
 go_wp2_with fail
 exact bodyPost_ret (v:= .agg #[.int .i64 (m-20000),.int .i64 (m+63000)]) (by simp [results,Tryz.results229,go_sem]) rfl ⟨rfl,(Below.refl _ _).alloc (Nat.le_refl _) _⟩
def loL (lo:Int) (zs:List Int):Int:=zs.foldl min lo
def hiL (hi:Int) (zs:List Int):Int:=zs.foldl max hi
theorem CI (zs:List Int):∀ lo,loL lo zs<=lo:=by
 induction zs with
 | nil=>intro lo;exact Int.le_refl _
 | cons z zs ih=>intro lo;exact Int.le_trans (ih (min lo z)) (Int.min_le_left _ _)
theorem CH (zs:List Int):∀ hi,hi<=hiL hi zs:=by
 induction zs with
 | nil=>intro hi;exact Int.le_refl _
 | cons z zs ih=>intro hi;exact Int.le_trans (Int.le_max_left _ _) (ih (max hi z))
theorem MC (zs:List Int):∀ lo hi,(loL lo zs ==lo && hiL hi zs ==hi)=zs.all fun z=>inB z lo hi:=by
 induction zs with
 | nil=>intro lo hi;simp [loL,hiL]
 | cons z zs ih=>
  intro lo hi
  show (loL (min lo z) zs ==lo && hiL (max hi z) zs ==hi)=(inB z lo hi && zs.all fun z=>inB z lo hi)
  cases hz:inB z lo hi
  ·have hn:¬ (lo<=z/\z<=hi):=of_decide_eq_false hz
   have h1:=CI zs (min lo z)
   have h2:=CH zs (max hi z)
   simp only [Bool.false_and,Bool.and_eq_false_iff,beq_eq_false_iff_ne]
   omega
  ·obtain ⟨h1,h2⟩:=ZV hz
   rw [show min lo z=lo by omega,show max hi z=hi by omega,ih];rfl
theorem DY {lo:Int} {zs:List Int} {k:Nat} (hk:k<zs.length):loL lo (zs.take (k+1))=min (loL lo (zs.take k)) (zs.getD k 0):=by
 unfold loL;rw [List.take_succ_eq_append_getElem hk,List.foldl_append];simp [List.getD,List.getElem?_eq_getElem hk]
theorem DL {hi:Int} {zs:List Int} {k:Nat} (hk:k<zs.length):hiL hi (zs.take (k+1))=max (hiL hi (zs.take k)) (zs.getD k 0):=by
 unfold hiL;rw [List.take_succ_eq_append_getElem hk,List.foldl_append];simp [List.getD,List.getElem?_eq_getElem hk]
attribute [local go_sem ↓] Dq
set_option maxHeartbeats 400000 in
theorem Sb (lo hi:Int) (b cap:Nat) (zs:List Int) (w:World) (hl:zs.length<=1000) (hb:b<w.heap.size) (hc:∀ k,k<zs.length->w.cell? ⟨b,k,none⟩=some (.int .i64 (zs.getD k 0))) :
  Calls Tryz.prog 230 #[.agg #[.int .i64 lo,.int .i64 hi],.slice (some ⟨b,0,none⟩) zs.length cap] w fun e w'=>e= .returned (.bool (zs.all fun z=>inB z lo hi))/\Below w.heap.size w w':=by
 have Hc:=Z9 hc
 clear hc
 go_enter Tryz.func230,Tryz.ntmps230
 go_wp2_with fail
 go_loopw [11] (fun i wr=> ∃ k:Nat,k<=zs.length/\i= .int .i64 k/\Blk wr (w.heap.size+1) 233 #[.int .i64 (loL lo (zs.take k)),.int .i64 (hiL hi (zs.take k))]/\Blk wr w.heap.size 233 #[.int .i64 lo,.int .i64 hi]/\Below w.heap.size w wr) (fun i _=>zs.length-(intOf i).toNat)
 case atStart=>
  refine ⟨0,Nat.zero_le _,rfl,?_,(Blk.new w _ _).alloc _,((Below.refl _ _).alloc (Nat.le_refl _) _).alloc (by simp) _⟩
  have:=Blk.new (w.alloc (.cells #[.int .i64 lo,.int .i64 hi] 233)) 233 #[.int .i64 lo,.int .i64 hi]
  simpa [loL,hiL] using this
 case round=>
  obtain ⟨k,hk,rfl,hs,ho,hbl⟩:=hrel
  have Hs:=Z9 hs
  have Ho:=Z9 ho
  have Hb:=Z9 hbl
  by_cases hlt:k<zs.length
  ·have c0:=uh Hc k hlt
   rw [<-hbl.cell (p:=⟨b,k,none⟩) hb] at c0
   have e1:=DY (lo:=lo) hlt
   have e2:=DL (hi:=hi) hlt
   have s0:=hs.cell (i:=0) rfl
   have s1:=hs.cell (i:=1) rfl
   have g0:=hs.free 0
   have g1:=hs.free 1
   generalize zs.getD k 0=z at *
   generalize loL lo (zs.take k)=x at *
   generalize hiL hi (zs.take k)=y at *
   have E1:=Z9 e1
   have E2:=Z9 e2
   clear e1 e2 hs ho hbl
   go_wp2_with fail
   refine (Rd x y z _).mono ?_
   rintro e w1 ⟨rfl,hb1⟩
   have hs1:=(uh Hs).below hb1 (uh Hs).lt
   have Hs1:=Z9 hs1
   have Ho1:Hid (Blk w1 w.heap.size 233 #[.int .i64 lo,.int .i64 hi]):=Z9 ((uh Ho).below hb1 (uh Ho).lt)
   have B1:Hid (Below w.heap.size w w1):=Z9 ((uh Hb).trans (hb1.mono (uh Hb).size))
   have s0:=hs1.cell (i:=0) rfl
   have s1:=hs1.cell (i:=1) rfl
   have g0:=hs1.free 0
   have g1:=hs1.free 1
   clear hs1 hb1
   go_wp2_with fail
   go_roundw
   case rel=>
    refine ⟨k+1,by omega,by go_num,?_,?_,?_⟩
    ·rw [uh E1,uh E2]
     simpa using ((uh Hs1).set 0 (.int .i64 (min x z))).set 1 (.int .i64 (max y z))
    ·exact ((uh Ho1).other (by simp) _).other (by simp) _
    ·exact ((uh B1).setCell (by simp) _).setCell (by simp) _
   case measure=>simp [intOf];omega
  ·obtain rfl:k=zs.length:=by omega
   rw [List.take_length] at hs
   have e3:=MC zs lo hi
   have s0:=hs.cell (i:=0) rfl
   have s1:=hs.cell (i:=1) rfl
   have o0:=ho.cell (i:=0) rfl
   have o1:=ho.cell (i:=1) rfl
   generalize loL lo zs=x at *
   generalize hiL hi zs=y at *
   have E3:=Z9 e3
   clear e3 hs ho hbl Hs
   go_wp2_with fail
   go_ret
   exact ⟨Z7 (uh E3),uh Hb⟩
theorem PZ (b cap:Nat) (zs:List Int) (w:World) (hl:zs.length<=1000) (hb:b<w.heap.size) (hc:∀ k,k<zs.length->w.cell? ⟨b,k,none⟩=some (.int .i64 (zs.getD k 0))) :
  Calls Tryz.prog 228 #[.slice (some ⟨b,0,none⟩) zs.length cap] w fun e w'=>e= .returned (.bool (zs.all fun z=>inB z (-1000000000000) 1000000000000))/\Below w.heap.size w w':=by
 have Hc:=Z9 hc
 clear hc
 go_enter Tryz.func228,Tryz.ntmps228
 go_wp2_with fail
 refine (Sb _ _ b cap zs _ hl hb (uh Hc)).mono ?_
 rintro e w1 ⟨rfl,hb1⟩
 have B1:=Z9 hb1
 clear hb1
 go_wp2_with fail
 go_ret
 exact ⟨rfl,uh B1⟩
theorem Oz (h m:Int) (w:World):Calls Tryz.prog 187 #[.int .i64 h,.int .i64 m] w fun e w'=>e= .returned (.bool (VT h m))/\Below w.heap.size w w':=by
 cases hh:Vl h && Vl m
 ·have hs:VT h m=false:=by unfold VT;rw [hh];rfl
  have Hs:=Z9 hs
  clear hs
  go_enter Tryz.func187,Tryz.ntmps187
  go_wp2_with fail
  refine (PZ _ _ [h,m] _ (by simp) (by simp) ?_).mono ?_
  ·intro k hk
   simp at hk
   match k,hk with
   | 0,_=>simp
   | 1,_=>simp
  rintro e w1 ⟨rfl,hb⟩
  rw [CV,hh]
  have B1:Hid (Below w.heap.size w w1):=Z9 (((Below.refl _ _).alloc (Nat.le_refl _) _).trans (hb.mono (by simp)))
  clear hb
  go_wp2_with fail
  go_ret
  exact ⟨Z7 (uh Hs).symm,uh B1⟩
 ·have hs:VT h m=inB (h-m) (-20000) 63000:=by unfold VT;rw [hh];rfl
  have Hs:=Z9 hs
  have h':=hh
  simp only [Bool.and_eq_true] at h'
  obtain ⟨m0,m1⟩:=Ou h'.2
  clear hs h'
  go_enter Tryz.func187,Tryz.ntmps187
  go_wp2_with fail
  refine (PZ _ _ [h,m] _ (by simp) (by simp) ?_).mono ?_
  ·intro k hk
   simp at hk
   match k,hk with
   | 0,_=>simp
   | 1,_=>simp
  rintro e w1 ⟨rfl,hb⟩
  rw [CV,hh]
  have B1:Hid (Below w.heap.size w w1):=Z9 (((Below.refl _ _).alloc (Nat.le_refl _) _).trans (hb.mono (by simp)))
  clear hb
  go_wp2_with fail
  refine (Il m _ m0 m1).mono ?_
  rintro e w2 ⟨rfl,hb⟩
  have B2:Hid (Below w.heap.size w w2):=Z9 ((uh B1).trans (hb.mono (uh B1).size))
  clear hb B1
  go_wp2_with fail
  refine (Sb _ _ _ _ [h] _ (by simp) (by simp) ?_).mono ?_
  ·intro k hk
   simp at hk
   subst hk
   simp
  rintro e w3 ⟨rfl,hb⟩
  rw [C5]
  have B3:Hid (Below w.heap.size w w3):=Z9 (((uh B2).alloc (uh B2).size _).trans (hb.mono (by have:=(uh B2).size;simp;omega)))
  clear hb B2
  go_wp2_with fail
  go_ret
  exact ⟨Z7 (uh Hs).symm,uh B3⟩
theorem JL (x:Int) (w:World):Calls Tryz.prog 139 #[.int .i64 x] w fun e w'=>e= .returned (.bool (Vl x))/\w'=w:=by
 go_enter Tryz.func139,Tryz.ntmps139
 go_wp2_with (go_at_call 123;refine (Z0 _ _ _ _).mono ?_;rintro e w' ⟨rfl,rfl⟩)
 go_ret
 exact ⟨rfl,rfl⟩
theorem YE {x:Int} {r:Bool} (h:Vl x=r) (w:World):Calls Tryz.prog 139 #[.int .i64 x] w fun e w'=>e= .returned (.bool r)/\w'=w:=by
 rw [<-h];exact JL x w
theorem Pe (h m:Int) (w:World):Calls Tryz.prog 280 #[.int .i64 h,.int .i64 m] w fun e w'=>e= .returned (.int .i64 (YO h m))/\w'=w:=by
 cases h2:Vl m
 ·have hs:YO h m=h:=by unfold YO;rw [h2];rfl
  have Hs:=Z9 hs
  have H2:=Z9 h2
  clear hs h2
  go_enter Tryz.func280,Tryz.ntmps280
  go_wp2_with (go_at_call 139;refine (YE (uh H2) _).mono ?_;rintro e w' ⟨rfl,rfl⟩)
  go_ret
  exact ⟨ZJ (uh Hs).symm,rfl⟩
 have hs:YO h m=max h (m-20000):=by unfold YO;rw [h2];rfl
 obtain ⟨b0,b1⟩:=Ou h2
 have Hs:=Z9 hs
 have H2:=Z9 h2
 clear hs h2
 go_enter Tryz.func280,Tryz.ntmps280
 go_wp2_with (first | (go_at_call 118;refine (Ua _ _ _).mono ?_;rintro e w' ⟨rfl,rfl⟩) | (go_at_call 139;refine (YE (uh H2) _).mono ?_;rintro e w' ⟨rfl,rfl⟩))
 go_ret
 exact ⟨ZJ (uh Hs).symm,rfl⟩
theorem Sg (h f t:Int) (w:World):Calls Tryz.prog 281 #[.int .i64 h,.int .i64 f,.int .i64 t] w fun e w'=>e= .returned (.int .i64 (Zh h f t))/\w'=w:=by
 cases h1:Vl h
 ·have hs:Zh h f t=h:=by unfold Zh;rw [h1];rfl
  have Hs:=Z9 hs
  have H1:=Z9 h1
  clear hs h1
  go_enter Tryz.func281,Tryz.ntmps281
  go_wp2_with (go_at_call 139;refine (YE (uh H1) _).mono ?_;rintro e w' ⟨rfl,rfl⟩)
  go_ret
  exact ⟨ZJ (uh Hs).symm,rfl⟩
 cases h2:Vl f
 ·have hs:Zh h f t=h:=by unfold Zh;rw [h1,h2];rfl
  have Hs:=Z9 hs
  have H1:=Z9 h1
  have H2:=Z9 h2
  clear hs h1 h2
  go_enter Tryz.func281,Tryz.ntmps281
  go_wp2_with (go_at_call 139;first | (refine (YE (uh H1) _).mono ?_;rintro e w' ⟨rfl,rfl⟩) | (refine (YE (uh H2) _).mono ?_;rintro e w' ⟨rfl,rfl⟩))
  go_ret
  exact ⟨ZJ (uh Hs).symm,rfl⟩
 cases h3:Vl t
 ·have hs:Zh h f t=h:=by unfold Zh;rw [h1,h2,h3];rfl
  have Hs:=Z9 hs
  have H1:=Z9 h1
  have H2:=Z9 h2
  have H3:=Z9 h3
  clear hs h1 h2 h3
  go_enter Tryz.func281,Tryz.ntmps281
  go_wp2_with (go_at_call 139;first | (refine (YE (uh H1) _).mono ?_;rintro e w' ⟨rfl,rfl⟩) | (refine (YE (uh H2) _).mono ?_;rintro e w' ⟨rfl,rfl⟩) | (refine (YE (uh H3) _).mono ?_;rintro e w' ⟨rfl,rfl⟩))
  go_ret
  exact ⟨ZJ (uh Hs).symm,rfl⟩
 have hs:Zh h f t=h-f+t:=by unfold Zh;rw [h1,h2,h3];rfl
 obtain ⟨a0,a1⟩:=Ou h1
 obtain ⟨b0,b1⟩:=Ou h2
 obtain ⟨c0,c1⟩:=Ou h3
 have Hs:=Z9 hs
 have H1:=Z9 h1
 have H2:=Z9 h2
 have H3:=Z9 h3
 clear hs h1 h2 h3
 go_enter Tryz.func281,Tryz.ntmps281
 go_wp2_with (go_at_call 139;first | (refine (YE (uh H1) _).mono ?_;rintro e w' ⟨rfl,rfl⟩) | (refine (YE (uh H2) _).mono ?_;rintro e w' ⟨rfl,rfl⟩) | (refine (YE (uh H3) _).mono ?_;rintro e w' ⟨rfl,rfl⟩))
 go_ret
 exact ⟨ZJ (uh Hs).symm,rfl⟩
theorem Pa (m f:Int) (w:World):Calls Tryz.prog 299 #[.int .i64 m,.int .i64 f] w fun e w'=>e= .returned (.int .i64 (YN m f))/\w'=w:=by
 cases h1:Vl m
 ·have hs:YN m f=m:=by unfold YN;rw [h1];rfl
  have Hs:=Z9 hs
  have H1:=Z9 h1
  clear hs h1
  go_enter Tryz.func299,Tryz.ntmps299
  go_wp2_with (go_at_call 139;refine (YE (uh H1) _).mono ?_;rintro e w' ⟨rfl,rfl⟩)
  go_ret
  exact ⟨ZJ (uh Hs).symm,rfl⟩
 cases h2:Vl f
 ·have hs:YN m f=m:=by unfold YN;rw [h1,h2];rfl
  have Hs:=Z9 hs
  have H1:=Z9 h1
  have H2:=Z9 h2
  clear hs h1 h2
  go_enter Tryz.func299,Tryz.ntmps299
  go_wp2_with (go_at_call 139;first | (refine (YE (uh H1) _).mono ?_;rintro e w' ⟨rfl,rfl⟩) | (refine (YE (uh H2) _).mono ?_;rintro e w' ⟨rfl,rfl⟩))
  go_ret
  exact ⟨ZJ (uh Hs).symm,rfl⟩
 have hs:YN m f=min (max m f) 900000000000:=by unfold YN;rw [h1,h2];rfl
 have Hs:=Z9 hs
 have H1:=Z9 h1
 have H2:=Z9 h2
 clear hs h1 h2
 go_enter Tryz.func299,Tryz.ntmps299
 go_wp2_with (first | (go_at_call 118;refine (Ua _ _ _).mono ?_;rintro e w' ⟨rfl,rfl⟩) | (go_at_call 178;refine (M0 _ _ _).mono ?_;rintro e w' ⟨rfl,rfl⟩) | (go_at_call 139;first | (refine (YE (uh H1) _).mono ?_;rintro e w' ⟨rfl,rfl⟩) | (refine (YE (uh H2) _).mono ?_;rintro e w' ⟨rfl,rfl⟩)))
 go_ret
 exact ⟨ZJ (uh Hs).symm,rfl⟩
end Go.Proofs.YtaegckehjlkaaaaGreat
