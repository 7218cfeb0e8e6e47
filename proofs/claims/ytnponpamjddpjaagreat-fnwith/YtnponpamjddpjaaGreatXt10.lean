/- Part 10 of what the proof rests on. No condition but those that a theorem names. -/
import Derived.Test.YtnponpamjddpjaaGreatXt07
import Derived.ChangeKeysEq
import Derived.Laws.StructEq
import Derived.WalkMore
import Derived.Below
namespace Go.Proofs.YtnponpamjddpjaaGreat
open Go.ChangeShapes Go.WideShapes Go.ChangeAt Go.RowKit Go.Sort
set_option linter.unusedVariables false
set_option maxRecDepth 100000
theorem Jz (a b c d:Int) (w:World):(Op.equalIn 10000 222 (.agg #[.int .i64 a,.int .i64 b]) (.agg #[.int .i64 c,.int .i64 d])).run Tryz.prog w= .ok (a ==c && b ==d) w:=by
 have u:=Tryz.underlying2
 have ag:=Tryz.isAgg2
 have z:=Tryz.sizeOf2
 have hc:Tryz.prog.cellsOf 2=1:=by kernel_rfl
 obtain ⟨i,hi⟩:=Option.isSome_iff_exists.1 (show (Tryz.prog.info? 2).isSome=true by kernel_rfl)
 rw [show (10000:Nat)=9999+1 from rfl,run_equalIn_array w 9999 _ _ Tryz.underlying222 hi,hc]
 simp only [show List.range 2=[0,1] from rfl,Op.eqItems]
 go_simp
 by_cases h:a=c
 ·subst h
  by_cases h2:b=d
  ·subst h2;simp
  ·simp [h2]
 ·simp [h]
theorem FA (a b c d:Int) (w:World):(binOp .eql 222 (.agg #[.int .i64 a,.int .i64 b]) (.agg #[.int .i64 c,.int .i64 d])).run Tryz.prog w= .ok (.bool (a ==c && b ==d)) w:=by
 rw [run_eql_struct,Jz];rfl
theorem Sc (lo hi n:Int) (w:World):Calls Tryz.prog 275 #[.agg #[.int .i64 lo,.int .i64 hi],.int .i64 n] w fun e w'=>e= .returned (.agg #[.int .i64 (min lo n),.int .i64 (max hi n)])/\Below w.heap.size w w':=by
 by_cases h1:lo<=n
 all_goals
  by_cases h2:hi<n
  all_goals
   go_enter Tryz.func275,Tryz.ntmps275
   go_wp2_with fail
   exact bodyPost_ret (v:= .agg #[.int .i64 (min lo n),.int .i64 (max hi n)]) (by simp [results,Tryz.results275,go_sem];omega) rfl ⟨rfl,((Below.refl _ _).alloc (Nat.le_refl _) _).alloc (by simp) _⟩
theorem Jy (m:Int) (w:World) (m0 : -1000000000000<=m) (m1:m<=1000000000000):Calls Tryz.prog 240 #[.int .i64 m] w fun e w'=>e= .returned (.agg #[.int .i64 (m-20000),.int .i64 (m+63000)])/\Below w.heap.size w w':=by
 go_enter Tryz.func240,Tryz.ntmps240
 go_wp2_with fail
 exact bodyPost_ret (v:= .agg #[.int .i64 (m-20000),.int .i64 (m+63000)]) (by simp [results,Tryz.results240,go_sem]) rfl ⟨rfl,(Below.refl _ _).alloc (Nat.le_refl _) _⟩
def loL (lo:Int) (zs:List Int):Int:=zs.foldl min lo
def hiL (hi:Int) (zs:List Int):Int:=zs.foldl max hi
theorem EI (zs:List Int):∀ lo,loL lo zs<=lo:=by
 induction zs with
 | nil=>intro lo;exact Int.le_refl _
 | cons z zs ih=>intro lo;exact Int.le_trans (ih (min lo z)) (Int.min_le_left _ _)
theorem EG (zs:List Int):∀ hi,hi<=hiL hi zs:=by
 induction zs with
 | nil=>intro hi;exact Int.le_refl _
 | cons z zs ih=>intro hi;exact Int.le_trans (Int.le_max_left _ _) (ih (max hi z))
theorem NH (zs:List Int):∀ lo hi,(loL lo zs ==lo && hiL hi zs ==hi)=zs.all fun z=>inB z lo hi:=by
 induction zs with
 | nil=>intro lo hi;simp [loL,hiL]
 | cons z zs ih=>
  intro lo hi
  show (loL (min lo z) zs ==lo && hiL (max hi z) zs ==hi)=(inB z lo hi && zs.all fun z=>inB z lo hi)
  cases hz:inB z lo hi
  ·have hn:¬ (lo<=z/\z<=hi):=of_decide_eq_false hz
   have h1:=EI zs (min lo z)
   have h2:=EG zs (max hi z)
   simp only [Bool.false_and,Bool.and_eq_false_iff,beq_eq_false_iff_ne]
   omega
  ·obtain ⟨h1,h2⟩:=ZS hz
   rw [show min lo z=lo by omega,show max hi z=hi by omega,ih];rfl
theorem F4 {lo:Int} {zs:List Int} {k:Nat} (hk:k<zs.length):loL lo (zs.take (k+1))=min (loL lo (zs.take k)) (zs.getD k 0):=by
 unfold loL;rw [List.take_succ_eq_append_getElem hk,List.foldl_append];simp [List.getD,List.getElem?_eq_getElem hk]
theorem FR {hi:Int} {zs:List Int} {k:Nat} (hk:k<zs.length):hiL hi (zs.take (k+1))=max (hiL hi (zs.take k)) (zs.getD k 0):=by
 unfold hiL;rw [List.take_succ_eq_append_getElem hk,List.foldl_append];simp [List.getD,List.getElem?_eq_getElem hk]
attribute [local go_sem ↓] FA
set_option maxHeartbeats 400000 in
theorem SX (lo hi:Int) (b cap:Nat) (zs:List Int) (w:World) (hl:zs.length<=1000) (hb:b<w.heap.size) (hc:∀ k,k<zs.length->w.cell? ⟨b,k,none⟩=some (.int .i64 (zs.getD k 0))) :
  Calls Tryz.prog 241 #[.agg #[.int .i64 lo,.int .i64 hi],.slice (some ⟨b,0,none⟩) zs.length cap] w fun e w'=>e= .returned (.bool (zs.all fun z=>inB z lo hi))/\Below w.heap.size w w':=by
 have Hc:=Z9 hc
 clear hc
 go_enter Tryz.func241,Tryz.ntmps241
 go_wp2_with fail
 go_loopw [11] (fun i wr=> ∃ k:Nat,k<=zs.length/\i= .int .i64 k/\Blk wr (w.heap.size+1) 222 #[.int .i64 (loL lo (zs.take k)),.int .i64 (hiL hi (zs.take k))]/\Blk wr w.heap.size 222 #[.int .i64 lo,.int .i64 hi]/\Below w.heap.size w wr) (fun i _=>zs.length-(intOf i).toNat)
 case atStart=>
  refine ⟨0,Nat.zero_le _,rfl,?_,(Blk.new w _ _).alloc _,((Below.refl _ _).alloc (Nat.le_refl _) _).alloc (by simp) _⟩
  have:=Blk.new (w.alloc (.cells #[.int .i64 lo,.int .i64 hi] 222)) 222 #[.int .i64 lo,.int .i64 hi]
  simpa [loL,hiL] using this
 case round=>
  obtain ⟨k,hk,rfl,hs,ho,hbl⟩:=hrel
  have Hs:=Z9 hs
  have Ho:=Z9 ho
  have Hb:=Z9 hbl
  by_cases hlt:k<zs.length
  ·have c0:=uh Hc k hlt
   rw [<-hbl.cell (p:=⟨b,k,none⟩) hb] at c0
   have e1:=F4 (lo:=lo) hlt
   have e2:=FR (hi:=hi) hlt
   have s0:=hs.cell (i:=0) rfl
   have s1:=hs.cell (i:=1) rfl
   have g0:=hs.free 0
   have g1:=hs.free 1
   generalize zs.getD k 0=z at *
   generalize loL lo (zs.take k)=x at *
   generalize hiL hi (zs.take k)=y at *
   have E1:=Z9 e1
   have E2:=Z9 e2
   clear e1 e2 hs ho hbl
   go_wp2_with fail
   refine (Sc x y z _).mono ?_
   rintro e w1 ⟨rfl,hb1⟩
   have hs1:=(uh Hs).below hb1 (uh Hs).lt
   have Hs1:=Z9 hs1
   have Ho1:Hid (Blk w1 w.heap.size 222 #[.int .i64 lo,.int .i64 hi]):=Z9 ((uh Ho).below hb1 (uh Ho).lt)
   have B1:Hid (Below w.heap.size w w1):=Z9 ((uh Hb).trans (hb1.mono (uh Hb).size))
   have s0:=hs1.cell (i:=0) rfl
   have s1:=hs1.cell (i:=1) rfl
   have g0:=hs1.free 0
   have g1:=hs1.free 1
   clear hs1 hb1
   go_wp2_with fail
   go_roundw
   case rel=>
    refine ⟨k+1,by omega,by go_num,?_,?_,?_⟩
    ·rw [uh E1,uh E2]
     simpa using ((uh Hs1).set 0 (.int .i64 (min x z))).set 1 (.int .i64 (max y z))
    ·exact ((uh Ho1).other (by simp) _).other (by simp) _
    ·exact ((uh B1).setCell (by simp) _).setCell (by simp) _
   case measure=>simp [intOf];omega
  ·obtain rfl:k=zs.length:=by omega
   rw [List.take_length] at hs
   have e3:=NH zs lo hi
   have s0:=hs.cell (i:=0) rfl
   have s1:=hs.cell (i:=1) rfl
   have o0:=ho.cell (i:=0) rfl
   have o1:=ho.cell (i:=1) rfl
   generalize loL lo zs=x at *
   generalize hiL hi zs=y at *
   have E3:=Z9 e3
   clear e3 hs ho hbl Hs
   go_wp2_with fail
   go_ret
   exact ⟨Z5 (uh E3),uh Hb⟩
theorem Vc (b cap:Nat) (zs:List Int) (w:World) (hl:zs.length<=1000) (hb:b<w.heap.size) (hc:∀ k,k<zs.length->w.cell? ⟨b,k,none⟩=some (.int .i64 (zs.getD k 0))) :
  Calls Tryz.prog 209 #[.slice (some ⟨b,0,none⟩) zs.length cap] w fun e w'=>e= .returned (.bool (zs.all fun z=>inB z (-1000000000000) 1000000000000))/\Below w.heap.size w w':=by
 have Hc:=Z9 hc
 clear hc
 go_enter Tryz.func209,Tryz.ntmps209
 go_wp2_with fail
 refine (SX _ _ b cap zs _ hl hb (uh Hc)).mono ?_
 rintro e w1 ⟨rfl,hb1⟩
 have B1:=Z9 hb1
 clear hb1
 go_wp2_with fail
 go_ret
 exact ⟨rfl,uh B1⟩
theorem Pt (h m:Int) (w:World):Calls Tryz.prog 204 #[.int .i64 h,.int .i64 m] w fun e w'=>e= .returned (.bool (Wo h m))/\Below w.heap.size w w':=by
 cases hh:We h && We m
 ·have hs:Wo h m=false:=by unfold Wo;rw [hh];rfl
  have Hs:=Z9 hs
  clear hs
  go_enter Tryz.func204,Tryz.ntmps204
  go_wp2_with fail
  refine (Vc _ _ [h,m] _ (by simp) (by simp) ?_).mono ?_
  ·intro k hk
   simp at hk
   match k,hk with
   | 0,_=>simp
   | 1,_=>simp
  rintro e w1 ⟨rfl,hb⟩
  rw [I5,hh]
  have B1:Hid (Below w.heap.size w w1):=Z9 (((Below.refl _ _).alloc (Nat.le_refl _) _).trans (hb.mono (by simp)))
  clear hb
  go_wp2_with fail
  go_ret
  exact ⟨Z5 (uh Hs).symm,uh B1⟩
 ·have hs:Wo h m=inB (h-m) (-20000) 63000:=by unfold Wo;rw [hh];rfl
  have Hs:=Z9 hs
  have h':=hh
  simp only [Bool.and_eq_true] at h'
  obtain ⟨m0,m1⟩:=Pq h'.2
  clear hs h'
  go_enter Tryz.func204,Tryz.ntmps204
  go_wp2_with fail
  refine (Vc _ _ [h,m] _ (by simp) (by simp) ?_).mono ?_
  ·intro k hk
   simp at hk
   match k,hk with
   | 0,_=>simp
   | 1,_=>simp
  rintro e w1 ⟨rfl,hb⟩
  rw [I5,hh]
  have B1:Hid (Below w.heap.size w w1):=Z9 (((Below.refl _ _).alloc (Nat.le_refl _) _).trans (hb.mono (by simp)))
  clear hb
  go_wp2_with fail
  refine (Jy m _ m0 m1).mono ?_
  rintro e w2 ⟨rfl,hb⟩
  have B2:Hid (Below w.heap.size w w2):=Z9 ((uh B1).trans (hb.mono (uh B1).size))
  clear hb B1
  go_wp2_with fail
  refine (SX _ _ _ _ [h] _ (by simp) (by simp) ?_).mono ?_
  ·intro k hk
   simp at hk
   subst hk
   simp
  rintro e w3 ⟨rfl,hb⟩
  rw [Fb]
  have B3:Hid (Below w.heap.size w w3):=Z9 (((uh B2).alloc (uh B2).size _).trans (hb.mono (by have:=(uh B2).size;simp;omega)))
  clear hb B2
  go_wp2_with fail
  go_ret
  exact ⟨Z5 (uh Hs).symm,uh B3⟩
theorem Pu (m f:Int) (w:World):Calls Tryz.prog 152 #[.int .i64 m,.int .i64 f] w fun e w'=>e= .returned (.int .i64 (ZJ m f))/\Below w.heap.size w w':=by
 cases hh:We m && We f
 ·have hs:ZJ m f=m:=by unfold ZJ;rw [hh];rfl
  have Hs:=Z9 hs
  clear hs
  go_enter Tryz.func152,Tryz.ntmps152
  go_wp2_with fail
  refine (Vc _ _ [m,f] _ (by simp) (by simp) ?_).mono ?_
  ·intro k hk
   simp at hk
   match k,hk with
   | 0,_=>simp
   | 1,_=>simp
  rintro e w1 ⟨rfl,hb⟩
  rw [I5,hh]
  have B1:Hid (Below w.heap.size w w1):=Z9 (((Below.refl _ _).alloc (Nat.le_refl _) _).trans (hb.mono (by simp)))
  clear hb
  go_wp2_with fail
  go_ret
  exact ⟨Zv (uh Hs).symm,uh B1⟩
 ·have hs:ZJ m f=min (max m f) 900000000000:=by unfold ZJ;rw [hh];rfl
  have Hs:=Z9 hs
  clear hs
  go_enter Tryz.func152,Tryz.ntmps152
  go_wp2_with fail
  refine (Vc _ _ [m,f] _ (by simp) (by simp) ?_).mono ?_
  ·intro k hk
   simp at hk
   match k,hk with
   | 0,_=>simp
   | 1,_=>simp
  rintro e w1 ⟨rfl,hb⟩
  rw [I5,hh]
  have B1:Hid (Below w.heap.size w w1):=Z9 (((Below.refl _ _).alloc (Nat.le_refl _) _).trans (hb.mono (by simp)))
  clear hb
  go_wp2_with fail
  refine (Qx m f 900000000000 _).mono ?_
  rintro e w2 ⟨rfl,hw2⟩
  subst w2
  go_wp2_with fail
  go_ret
  exact ⟨Zv (uh Hs).symm,uh B1⟩
theorem K7 (x:Int) (w:World):Calls Tryz.prog 144 #[.int .i64 x] w fun e w'=>e= .returned (.bool (We x))/\w'=w:=by
 go_enter Tryz.func144,Tryz.ntmps144
 go_wp2_with (go_at_call 128;refine (ZZ _ _ _ _).mono ?_;rintro e w' ⟨rfl,rfl⟩)
 go_ret
 exact ⟨rfl,rfl⟩
theorem YN {x:Int} {r:Bool} (h:We x=r) (w:World):Calls Tryz.prog 144 #[.int .i64 x] w fun e w'=>e= .returned (.bool r)/\w'=w:=by
 rw [<-h];exact K7 x w
theorem P8 (h m:Int) (w:World):Calls Tryz.prog 286 #[.int .i64 h,.int .i64 m] w fun e w'=>e= .returned (.int .i64 (YY h m))/\w'=w:=by
 cases h2:We m
 ·have hs:YY h m=h:=by unfold YY;rw [h2];rfl
  have Hs:=Z9 hs
  have H2:=Z9 h2
  clear hs h2
  go_enter Tryz.func286,Tryz.ntmps286
  go_wp2_with (go_at_call 144;refine (YN (uh H2) _).mono ?_;rintro e w' ⟨rfl,rfl⟩)
  go_ret
  exact ⟨Zv (uh Hs).symm,rfl⟩
 have hs:YY h m=max h (m-20000):=by unfold YY;rw [h2];rfl
 obtain ⟨b0,b1⟩:=Pq h2
 have Hs:=Z9 hs
 have H2:=Z9 h2
 clear hs h2
 go_enter Tryz.func286,Tryz.ntmps286
 go_wp2_with (first | (go_at_call 124;refine (Tj _ _ _).mono ?_;rintro e w' ⟨rfl,rfl⟩) | (go_at_call 144;refine (YN (uh H2) _).mono ?_;rintro e w' ⟨rfl,rfl⟩))
 go_ret
 exact ⟨Zv (uh Hs).symm,rfl⟩
theorem S8 (h f t:Int) (w:World):Calls Tryz.prog 287 #[.int .i64 h,.int .i64 f,.int .i64 t] w fun e w'=>e= .returned (.int .i64 (Zt h f t))/\w'=w:=by
 cases h1:We h
 ·have hs:Zt h f t=h:=by unfold Zt;rw [h1];rfl
  have Hs:=Z9 hs
  have H1:=Z9 h1
  clear hs h1
  go_enter Tryz.func287,Tryz.ntmps287
  go_wp2_with (go_at_call 144;refine (YN (uh H1) _).mono ?_;rintro e w' ⟨rfl,rfl⟩)
  go_ret
  exact ⟨Zv (uh Hs).symm,rfl⟩
 cases h2:We f
 ·have hs:Zt h f t=h:=by unfold Zt;rw [h1,h2];rfl
  have Hs:=Z9 hs
  have H1:=Z9 h1
  have H2:=Z9 h2
  clear hs h1 h2
  go_enter Tryz.func287,Tryz.ntmps287
  go_wp2_with (go_at_call 144;first | (refine (YN (uh H1) _).mono ?_;rintro e w' ⟨rfl,rfl⟩) | (refine (YN (uh H2) _).mono ?_;rintro e w' ⟨rfl,rfl⟩))
  go_ret
  exact ⟨Zv (uh Hs).symm,rfl⟩
 cases h3:We t
 ·have hs:Zt h f t=h:=by unfold Zt;rw [h1,h2,h3];rfl
  have Hs:=Z9 hs
  have H1:=Z9 h1
  have H2:=Z9 h2
  have H3:=Z9 h3
  clear hs h1 h2 h3
  go_enter Tryz.func287,Tryz.ntmps287
  go_wp2_with (go_at_call 144;first | (refine (YN (uh H1) _).mono ?_;rintro e w' ⟨rfl,rfl⟩) | (refine (YN (uh H2) _).mono ?_;rintro e w' ⟨rfl,rfl⟩) | (refine (YN (uh H3) _).mono ?_;rintro e w' ⟨rfl,rfl⟩))
  go_ret
  exact ⟨Zv (uh Hs).symm,rfl⟩
 have hs:Zt h f t=h-f+t:=by unfold Zt;rw [h1,h2,h3];rfl
 obtain ⟨a0,a1⟩:=Pq h1
 obtain ⟨b0,b1⟩:=Pq h2
 obtain ⟨c0,c1⟩:=Pq h3
 have Hs:=Z9 hs
 have H1:=Z9 h1
 have H2:=Z9 h2
 have H3:=Z9 h3
 clear hs h1 h2 h3
 go_enter Tryz.func287,Tryz.ntmps287
 go_wp2_with (go_at_call 144;first | (refine (YN (uh H1) _).mono ?_;rintro e w' ⟨rfl,rfl⟩) | (refine (YN (uh H2) _).mono ?_;rintro e w' ⟨rfl,rfl⟩) | (refine (YN (uh H3) _).mono ?_;rintro e w' ⟨rfl,rfl⟩))
 go_ret
 exact ⟨Zv (uh Hs).symm,rfl⟩
theorem P4 (m f:Int) (w:World):Calls Tryz.prog 156 #[.int .i64 m,.int .i64 f] w fun e w'=>e= .returned (.int .i64 (ZJ m f))/\w'=w:=by
 cases h1:We m
 ·have hs:ZJ m f=m:=by unfold ZJ;rw [h1];rfl
  have Hs:=Z9 hs
  have H1:=Z9 h1
  clear hs h1
  go_enter Tryz.func156,Tryz.ntmps156
  go_wp2_with (go_at_call 144;refine (YN (uh H1) _).mono ?_;rintro e w' ⟨rfl,rfl⟩)
  go_ret
  exact ⟨Zv (uh Hs).symm,rfl⟩
 cases h2:We f
 ·have hs:ZJ m f=m:=by unfold ZJ;rw [h1,h2];rfl
  have Hs:=Z9 hs
  have H1:=Z9 h1
  have H2:=Z9 h2
  clear hs h1 h2
  go_enter Tryz.func156,Tryz.ntmps156
  go_wp2_with (go_at_call 144;first | (refine (YN (uh H1) _).mono ?_;rintro e w' ⟨rfl,rfl⟩) | (refine (YN (uh H2) _).mono ?_;rintro e w' ⟨rfl,rfl⟩))
  go_ret
  exact ⟨Zv (uh Hs).symm,rfl⟩
 have hs:ZJ m f=min (max m f) 900000000000:=by unfold ZJ;rw [h1,h2];rfl
 have Hs:=Z9 hs
 have H1:=Z9 h1
 have H2:=Z9 h2
 clear hs h1 h2
 go_enter Tryz.func156,Tryz.ntmps156
 go_wp2_with (first | (go_at_call 124;refine (Tj _ _ _).mono ?_;rintro e w' ⟨rfl,rfl⟩) | (go_at_call 195;refine (N7 _ _ _).mono ?_;rintro e w' ⟨rfl,rfl⟩) | (go_at_call 144;first | (refine (YN (uh H1) _).mono ?_;rintro e w' ⟨rfl,rfl⟩) | (refine (YN (uh H2) _).mono ?_;rintro e w' ⟨rfl,rfl⟩)))
 go_ret
 exact ⟨Zv (uh Hs).symm,rfl⟩
end Go.Proofs.YtnponpamjddpjaaGreat
