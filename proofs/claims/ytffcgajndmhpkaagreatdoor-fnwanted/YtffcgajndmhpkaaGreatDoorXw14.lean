/- Part 14 of what the proof rests on. No condition but those that a theorem names. -/
import Derived.Test.YtffcgajndmhpkaaGreatDoorXw08
import Derived.ChangeKeysEq
namespace Go.Proofs.YtffcgajndmhpkaaGreatDoor
open Go.ChangeShapes Go.WideShapes Go.ChangeAt Go.RowKit Go.Sort
set_option linter.unusedVariables false
structure Two (p q:Option Nat) (w w':World):Prop where
 os:w'.os=w.os
 tape:w'.tape=w.tape
 output:w'.output=w.output
 size:w.heap.size<=w'.heap.size
 block:∀ k,k<w.heap.size->p ≠ some k->q ≠ some k->w'.heap[k]?=w.heap[k]?
section
variable {p q : Option Nat} {w w' w'' : World}
theorem Two.refl (p q:Option Nat) (w:World):Two p q w w:=⟨rfl,rfl,rfl,Nat.le_refl _,fun _ _ _ _=>rfl⟩
theorem Two.trans (h:Two p q w w') (k:Two p q w' w''):Two p q w w'':=
 ⟨k.os.trans h.os,k.tape.trans h.tape,k.output.trans h.output,Nat.le_trans h.size k.size,fun i hi hp hq=>(k.block i (Nat.lt_of_lt_of_le hi h.size) hp hq).trans (h.block i hi hp hq)⟩
theorem Two.of_below (h:Below w.heap.size w w'):Two p q w w':=⟨h.os,h.tape,h.output,h.size,fun i hi _ _=>h.block i hi⟩
theorem Two.of_set (w:World) {g:Nat} (hg:p=some g\/q=some g) (o:Nat) (u:Value):Two p q w (w.setCell ⟨g,o,none⟩ u):=
 ⟨rfl,rfl,rfl,by simp,fun i hi hp hq=>heap_setCell_other w _ i u (fun e=>by
  have e:i=g:=e
  subst e
  rcases hg with h | h
  ·exact hp h
  ·exact hq h)⟩
theorem Two.below {B:Nat} (h:Two p q w w') (hB:B<=w.heap.size) (hp:∀ k,p=some k->B<=k) (hq:∀ k,q=some k->B<=k):Below B w w':=
 ⟨h.os,h.tape,h.output,h.size,fun i hi=>h.block i (Nat.lt_of_lt_of_le hi hB) (fun e=>by have:=hp i e;omega) (fun e=>by have:=hq i e;omega)⟩
theorem Blk.two {R:Nat} {t:TypeId} {cs:Array Value} (h:Blk w R t cs) (ht:Two p q w w') (hp:p ≠ some R) (hq:q ≠ some R):Blk w' R t cs:=h.same (ht.block R h.lt hp hq)
end
theorem OwnHall.same2 {n₀:Nat} {w w':World} {v:Value} {qs:List (Z2 × Value)} (h:OwnHall n₀ w v qs) (hs:∀ k,(v.ownBlock=some k\/ ∃ q ∈ qs,q.2.ownBlock=some k)->w'.heap[k]?=w.heap[k]?):OwnHall n₀ w' v qs:=
 ⟨XS h.row (fun k e=>hs k (.inl e)),fun q hq=>XS (h.paces q hq) (fun k e=>hs k (.inr ⟨q,hq,e⟩)),h.off,h.apart⟩
section
variable {n₀ n cap g : Nat} {w : World} {v0 v1 v2 v3 v4 : Value} {m : Z4} {qs : List (Z2 × Value)}
theorem FullSmy.putS (hf:FullSmy n₀ w v0 v1 (.slice (some ⟨g,0,none⟩) n cap) v3 v4 m qs) (hn:n=m.smiths.length) {j i:Nat} (hj:j<m.smiths.length) (hi:i<11) (u:Value) (x:Z3) (hx:ZV x=(ZV (Z8 m.smiths j)).set i u) :
  FullSmy n₀ (w.setCell ⟨g,j*11+i,none⟩ u) v0 v1 (.slice (some ⟨g,0,none⟩) n cap) v3 v4 { m with smiths:=m.smiths.set j x } qs:=by
 have hb:(Value.slice (some ⟨g,0,none⟩) n cap).ownBlock=some g:=rfl
 have hne:∀ k,k ≠ g->(w.setCell ⟨g,j*11+i,none⟩ u).heap[k]?=w.heap[k]?:=fun k hk=>heap_setCell_other w _ k u hk
 refine ⟨hf.hall.same2 fun k e=>hne k fun e'=> ?_,hf.rooms,RecAt.same hf.guilds fun k e=>hne k fun e'=> ?_,(RecAt.put1 ZT (by omega) hf.smiths hn hj hi u x hx).1,RecAt.same hf.desks fun k e=>hne k fun e'=> ?_,RecAt.same hf.paces fun k e=>hne k fun e'=> ?_,hf.h1,hf.h2,hf.h3,hf.h4,hf.a12,hf.a13,hf.a14,hf.a23,hf.a24,hf.a34⟩
 ·subst e'
  rcases e with e | ⟨q,hq,e⟩
  ·exact hf.h2.1 _ hb e
  ·exact hf.h2.2 q hq _ hb e
 ·subst e';exact hf.a12 _ e hb
 ·subst e';exact hf.a23 _ hb e
 ·subst e';exact hf.a24 _ hb e
theorem FullSmy.putD (hf:FullSmy n₀ w v0 v1 v2 (.slice (some ⟨g,0,none⟩) n cap) v4 m qs) (hn:n=m.desks.length) {j i:Nat} (hj:j<m.desks.length) (hi:i<3) (u:Value) (x:Yq) (hx:Xx x=(Xx (Z8 m.desks j)).set i u) :
  FullSmy n₀ (w.setCell ⟨g,j*3+i,none⟩ u) v0 v1 v2 (.slice (some ⟨g,0,none⟩) n cap) v4 { m with desks:=m.desks.set j x } qs:=by
 have hb:(Value.slice (some ⟨g,0,none⟩) n cap).ownBlock=some g:=rfl
 have hne:∀ k,k ≠ g->(w.setCell ⟨g,j*3+i,none⟩ u).heap[k]?=w.heap[k]?:=fun k hk=>heap_setCell_other w _ k u hk
 refine ⟨hf.hall.same2 fun k e=>hne k fun e'=> ?_,hf.rooms,RecAt.same hf.guilds fun k e=>hne k fun e'=> ?_,RecAt.same hf.smiths fun k e=>hne k fun e'=> ?_,(RecAt.put1 ZG (by omega) hf.desks hn hj hi u x hx).1,RecAt.same hf.paces fun k e=>hne k fun e'=> ?_,hf.h1,hf.h2,hf.h3,hf.h4,hf.a12,hf.a13,hf.a14,hf.a23,hf.a24,hf.a34⟩
 ·subst e'
  rcases e with e | ⟨q,hq,e⟩
  ·exact hf.h3.1 _ hb e
  ·exact hf.h3.2 q hq _ hb e
 ·subst e';exact hf.a13 _ e hb
 ·subst e';exact hf.a23 _ e hb
 ·subst e';exact hf.a34 _ hb e
theorem FullSmy.putP (hf:FullSmy n₀ w v0 v1 v2 v3 (.slice (some ⟨g,0,none⟩) n cap) m qs) (hn:n=m.paces.length) {j:Nat} (hj:j<m.paces.length) (x:Int) :
  FullSmy n₀ (w.setCell ⟨g,j,none⟩ (.int .i64 x)) v0 v1 v2 v3 (.slice (some ⟨g,0,none⟩) n cap) { m with paces:=m.paces.set j x } qs:=by
 have hb:(Value.slice (some ⟨g,0,none⟩) n cap).ownBlock=some g:=rfl
 have hne:∀ k,k ≠ g->(w.setCell ⟨g,j,none⟩ (.int .i64 x)).heap[k]?=w.heap[k]?:=fun k hk=>heap_setCell_other w _ k _ hk
 have hput:=(RecAt.put1 (i:=0) Zb (by omega) hf.paces hn hj (by omega) (.int .i64 x) x (by simp [TE])).1
 simp only [Nat.mul_one,Nat.add_zero] at hput
 refine ⟨hf.hall.same2 fun k e=>hne k fun e'=> ?_,hf.rooms,RecAt.same hf.guilds fun k e=>hne k fun e'=> ?_,RecAt.same hf.smiths fun k e=>hne k fun e'=> ?_,RecAt.same hf.desks fun k e=>hne k fun e'=> ?_,hput,hf.h1,hf.h2,hf.h3,hf.h4,hf.a12,hf.a13,hf.a14,hf.a23,hf.a24,hf.a34⟩
 ·subst e'
  rcases e with e | ⟨q,hq,e⟩
  ·exact hf.h4.1 _ hb e
  ·exact hf.h4.2 q hq _ hb e
 ·subst e';exact hf.a14 _ e hb
 ·subst e';exact hf.a24 _ e hb
 ·subst e';exact hf.a34 _ e hb
end
end Go.Proofs.YtffcgajndmhpkaaGreatDoor
namespace Go.Proofs.YtffcgajndmhpkaaGreatDoor
open Go.ChangeShapes Go.WideShapes Go.ChangeAt Go.RowKit Go.Sort
set_option linter.unusedVariables false
set_option maxRecDepth 100000
theorem Gs (a b c d:Int) (w:World):(Op.equalIn 10000 249 (.agg #[.int .i64 a,.int .i64 b]) (.agg #[.int .i64 c,.int .i64 d])).run Tryz.prog w= .ok (a ==c && b ==d) w:=by
 have u:=Tryz.underlying2
 have ag:=Tryz.isAgg2
 have z:=Tryz.sizeOf2
 have hc:Tryz.prog.cellsOf 2=1:=by kernel_rfl
 obtain ⟨i,hi⟩:=Option.isSome_iff_exists.1 (show (Tryz.prog.info? 2).isSome=true by kernel_rfl)
 rw [show (10000:Nat)=9999+1 from rfl,run_equalIn_array w 9999 _ _ Tryz.underlying249 hi,hc]
 simp only [show List.range 2=[0,1] from rfl,Op.eqItems]
 go_simp
 by_cases h:a=c
 ·subst h
  by_cases h2:b=d
  ·subst h2;simp
  ·simp [h2]
 ·simp [h]
theorem CT (a b c d:Int) (w:World):(binOp .eql 249 (.agg #[.int .i64 a,.int .i64 b]) (.agg #[.int .i64 c,.int .i64 d])).run Tryz.prog w= .ok (.bool (a ==c && b ==d)) w:=by
 rw [run_eql_struct,Gs];rfl
theorem Q7 (lo hi n:Int) (w:World):Calls Tryz.prog 272 #[.agg #[.int .i64 lo,.int .i64 hi],.int .i64 n] w fun e w'=>e= .returned (.agg #[.int .i64 (min lo n),.int .i64 (max hi n)])/\Below w.heap.size w w':=by
 by_cases h1:lo<=n
 all_goals
  by_cases h2:hi<n
  all_goals
   go_enter Tryz.func272,Tryz.ntmps272
   go_wp2_with fail
   exact bodyPost_ret (v:= .agg #[.int .i64 (min lo n),.int .i64 (max hi n)]) (by simp [results,Tryz.results272,go_sem];omega) rfl ⟨rfl,((ba _ _)).alloc (by simp) _⟩
theorem Gr (m:Int) (w:World) (m0 : -1000000000000<=m) (m1:m<=1000000000000):Calls Tryz.prog 223 #[.int .i64 m] w fun e w'=>e= .returned (.agg #[.int .i64 (m-20000),.int .i64 (m+63000)])/\Below w.heap.size w w':=by
 go_enter Tryz.func223,Tryz.ntmps223
 go_wp2_with fail
 exact bodyPost_ret (v:= .agg #[.int .i64 (m-20000),.int .i64 (m+63000)]) (by simp [results,Tryz.results223,go_sem]) rfl ⟨rfl,(ba _ _)⟩
def loL (lo:Int) (zs:List Int):Int:=zs.foldl min lo
def hiL (hi:Int) (zs:List Int):Int:=zs.foldl max hi
theorem BC (zs:List Int):∀ lo,loL lo zs<=lo:=by
 induction zs with
 | nil=>intro lo;exact Int.le_refl _
 | cons z zs ih=>intro lo;exact Int.le_trans (ih (min lo z)) (Int.min_le_left _ _)
theorem Bw (zs:List Int):∀ hi,hi<=hiL hi zs:=by
 induction zs with
 | nil=>intro hi;exact Int.le_refl _
 | cons z zs ih=>intro hi;exact Int.le_trans (Int.le_max_left _ _) (ih (max hi z))
theorem L7 (zs:List Int):∀ lo hi,(loL lo zs ==lo && hiL hi zs ==hi)=zs.all fun z=>inB z lo hi:=by
 induction zs with
 | nil=>intro lo hi;simp [loL,hiL]
 | cons z zs ih=>
  intro lo hi
  show (loL (min lo z) zs ==lo && hiL (max hi z) zs ==hi)=(inB z lo hi && zs.all fun z=>inB z lo hi)
  cases hz:inB z lo hi
  ·have hn:¬ (lo<=z/\z<=hi):=of_decide_eq_false hz
   have h1:=BC zs (min lo z)
   have h2:=Bw zs (max hi z)
   simp only [Bool.false_and,Bool.and_eq_false_iff,beq_eq_false_iff_ne]
   omega
  ·obtain ⟨h1,h2⟩:=ZU hz
   rw [show min lo z=lo by omega,show max hi z=hi by omega,ih];rfl
theorem Dq {lo:Int} {zs:List Int} {k:Nat} (hk:k<zs.length):loL lo (zs.take (k+1))=min (loL lo (zs.take k)) (zs.getD k 0):=by
 unfold loL;rw [List.take_succ_eq_append_getElem hk,List.foldl_append];simp [List.getD,List.getElem?_eq_getElem hk]
theorem Df {hi:Int} {zs:List Int} {k:Nat} (hk:k<zs.length):hiL hi (zs.take (k+1))=max (hiL hi (zs.take k)) (zs.getD k 0):=by
 unfold hiL;rw [List.take_succ_eq_append_getElem hk,List.foldl_append];simp [List.getD,List.getElem?_eq_getElem hk]
attribute [local go_sem ↓] CT
set_option maxHeartbeats 400000 in
theorem R6 (lo hi:Int) (b cap:Nat) (zs:List Int) (w:World) (hl:zs.length<=1000) (hb:b<w.heap.size) (hc:∀ k,k<zs.length->w.cell? ⟨b,k,none⟩=some (.int .i64 (zs.getD k 0))) :
  Calls Tryz.prog 224 #[.agg #[.int .i64 lo,.int .i64 hi],.slice (some ⟨b,0,none⟩) zs.length cap] w fun e w'=>e= .returned (.bool (zs.all fun z=>inB z lo hi))/\Below w.heap.size w w':=by
 have Hc:=Z9 hc
 clear hc
 go_enter Tryz.func224,Tryz.ntmps224
 go_wp2_with fail
 go_loopw [11] (fun i wr=> ∃ k:Nat,k<=zs.length/\i= .int .i64 k/\Blk wr (w.heap.size+1) 249 #[.int .i64 (loL lo (zs.take k)),.int .i64 (hiL hi (zs.take k))]/\Blk wr w.heap.size 249 #[.int .i64 lo,.int .i64 hi]/\Below w.heap.size w wr) (fun i _=>zs.length-(intOf i).toNat)
 case atStart=>
  refine ⟨0,Nat.zero_le _,rfl,?_,(Blk.new w _ _).alloc _,((ba _ _)).alloc (by simp) _⟩
  have:=Blk.new (w.alloc (.cells #[.int .i64 lo,.int .i64 hi] 249)) 249 #[.int .i64 lo,.int .i64 hi]
  simpa [loL,hiL] using this
 case round=>
  obtain ⟨k,hk,rfl,hs,ho,hbl⟩:=hrel
  have Hs:=Z9 hs
  have Ho:=Z9 ho
  have Hb:=Z9 hbl
  by_cases hlt:k<zs.length
  ·have c0:=uh Hc k hlt
   rw [<-hbl.cell (p:=⟨b,k,none⟩) hb] at c0
   have e1:=Dq (lo:=lo) hlt
   have e2:=Df (hi:=hi) hlt
   have s0:=hs.cell (i:=0) rfl
   have s1:=hs.cell (i:=1) rfl
   have g0:=hs.free 0
   have g1:=hs.free 1
   generalize zs.getD k 0=z at *
   generalize loL lo (zs.take k)=x at *
   generalize hiL hi (zs.take k)=y at *
   have E1:=Z9 e1
   have E2:=Z9 e2
   clear e1 e2 hs ho hbl
   go_wp2_with fail
   refine ck (Q7 x y z _) fun w1 hb1=> ?_
   have hs1:=(uh Hs).below hb1 (uh Hs).lt
   have Hs1:=Z9 hs1
   have Ho1:Hid (Blk w1 w.heap.size 249 #[.int .i64 lo,.int .i64 hi]):=Z9 ((uh Ho).below hb1 (uh Ho).lt)
   have B1:Hid (Below w.heap.size w w1):=Z9 ((uh Hb).trans (hb1.mono (uh Hb).size))
   have s0:=hs1.cell (i:=0) rfl
   have s1:=hs1.cell (i:=1) rfl
   have g0:=hs1.free 0
   have g1:=hs1.free 1
   clear hs1 hb1
   go_wp2_with fail
   go_roundw
   case rel=>
    refine ⟨k+1,by omega,by go_num,?_,?_,?_⟩
    ·rw [uh E1,uh E2]
     simpa using ((uh Hs1).set 0 (.int .i64 (min x z))).set 1 (.int .i64 (max y z))
    ·exact ((uh Ho1).other (by simp) _).other (by simp) _
    ·exact ((uh B1).setCell (by simp) _).setCell (by simp) _
   case measure=>exact ms
  ·obtain rfl:k=zs.length:=by omega
   rw [List.take_length] at hs
   have e3:=L7 zs lo hi
   have s0:=hs.cell (i:=0) rfl
   have s1:=hs.cell (i:=1) rfl
   have o0:=ho.cell (i:=0) rfl
   have o1:=ho.cell (i:=1) rfl
   generalize loL lo zs=x at *
   generalize hiL hi zs=y at *
   have E3:=Z9 e3
   clear e3 hs ho hbl Hs
   go_wp2_with fail
   go_ret
   exact ⟨Z5 (uh E3),uh Hb⟩
theorem UQ (b cap:Nat) (zs:List Int) (w:World) (hl:zs.length<=1000) (hb:b<w.heap.size) (hc:∀ k,k<zs.length->w.cell? ⟨b,k,none⟩=some (.int .i64 (zs.getD k 0))) :
  Calls Tryz.prog 222 #[.slice (some ⟨b,0,none⟩) zs.length cap] w fun e w'=>e= .returned (.bool (zs.all fun z=>inB z (-1000000000000) 1000000000000))/\Below w.heap.size w w':=by
 have Hc:=Z9 hc
 clear hc
 go_enter Tryz.func222,Tryz.ntmps222
 go_wp2_with fail
 refine ck (R6 _ _ b cap zs _ hl hb (uh Hc)) fun w1 hb1=> ?_
 have B1:=Z9 hb1
 clear hb1
 go_wp2_with fail
 go_ret
 exact ⟨rfl,uh B1⟩
theorem Ob (h m:Int) (w:World):Calls Tryz.prog 175 #[.int .i64 h,.int .i64 m] w fun e w'=>e= .returned (.bool (Wb h m))/\Below w.heap.size w w':=by
 cases hh:VZ h && VZ m
 ·have hs:Wb h m=false:=by unfold Wb;rw [hh];rfl
  have Hs:=Z9 hs
  clear hs
  go_enter Tryz.func175,Tryz.ntmps175
  go_wp2_with fail
  refine (UQ _ _ [h,m] _ (by simp) (by simp) ?_).mono ?_
  ·intro k hk
   simp at hk
   match k,hk with
   | 0,_=>simp
   | 1,_=>simp
  rintro e w1 ⟨rfl,hb⟩
  rw [FO,hh]
  have B1:Hid (Below w.heap.size w w1):=Z9 (((ba _ _)).trans (hb.mono (by simp)))
  clear hb
  go_wp2_with fail
  go_ret
  exact ⟨Z5 (uh Hs).symm,uh B1⟩
 ·have hs:Wb h m=inB (h-m) (-20000) 63000:=by unfold Wb;rw [hh];rfl
  have Hs:=Z9 hs
  have h':=hh
  simp only [Bool.and_eq_true] at h'
  obtain ⟨m0,m1⟩:=N7 h'.2
  clear hs h'
  go_enter Tryz.func175,Tryz.ntmps175
  go_wp2_with fail
  refine (UQ _ _ [h,m] _ (by simp) (by simp) ?_).mono ?_
  ·intro k hk
   simp at hk
   match k,hk with
   | 0,_=>simp
   | 1,_=>simp
  rintro e w1 ⟨rfl,hb⟩
  rw [FO,hh]
  have B1:Hid (Below w.heap.size w w1):=Z9 (((ba _ _)).trans (hb.mono (by simp)))
  clear hb
  go_wp2_with fail
  refine ck (Gr m _ m0 m1) fun w2 hb=> ?_
  have B2:Hid (Below w.heap.size w w2):=Z9 ((uh B1).trans (hb.mono (uh B1).size))
  clear hb B1
  go_wp2_with fail
  refine (R6 _ _ _ _ [h] _ (by simp) (by simp) ?_).mono ?_
  ·intro k hk
   simp at hk
   subst hk
   simp
  rintro e w3 ⟨rfl,hb⟩
  rw [Cp]
  have B3:Hid (Below w.heap.size w w3):=Z9 (((uh B2).alloc (uh B2).size _).trans (hb.mono (by have:=(uh B2).size;simp;omega)))
  clear hb B2
  go_wp2_with fail
  go_ret
  exact ⟨Z5 (uh Hs).symm,uh B3⟩
theorem Oc (m f:Int) (w:World):Calls Tryz.prog 206 #[.int .i64 m,.int .i64 f] w fun e w'=>e= .returned (.int .i64 (ZL m f))/\Below w.heap.size w w':=by
 cases hh:VZ m && VZ f
 ·have hs:ZL m f=m:=by unfold ZL;rw [hh];rfl
  have Hs:=Z9 hs
  clear hs
  go_enter Tryz.func206,Tryz.ntmps206
  go_wp2_with fail
  refine (UQ _ _ [m,f] _ (by simp) (by simp) ?_).mono ?_
  ·intro k hk
   simp at hk
   match k,hk with
   | 0,_=>simp
   | 1,_=>simp
  rintro e w1 ⟨rfl,hb⟩
  rw [FO,hh]
  have B1:Hid (Below w.heap.size w w1):=Z9 (((ba _ _)).trans (hb.mono (by simp)))
  clear hb
  go_wp2_with fail
  go_ret
  exact ⟨ZI (uh Hs).symm,uh B1⟩
 ·have hs:ZL m f=min (max m f) 900000000000:=by unfold ZL;rw [hh];rfl
  have Hs:=Z9 hs
  clear hs
  go_enter Tryz.func206,Tryz.ntmps206
  go_wp2_with fail
  refine (UQ _ _ [m,f] _ (by simp) (by simp) ?_).mono ?_
  ·intro k hk
   simp at hk
   match k,hk with
   | 0,_=>simp
   | 1,_=>simp
  rintro e w1 ⟨rfl,hb⟩
  rw [FO,hh]
  have B1:Hid (Below w.heap.size w w1):=Z9 (((ba _ _)).trans (hb.mono (by simp)))
  clear hb
  go_wp2_with fail
  refine ck (VR m f 900000000000 _) fun w2 hw2=> ?_
  subst w2
  go_wp2_with fail
  go_ret
  exact ⟨ZI (uh Hs).symm,uh B1⟩
theorem I3 (x:Int) (w:World):Calls Tryz.prog 161 #[.int .i64 x] w fun e w'=>e= .returned (.bool (VZ x))/\w'=w:=by
 go_enter Tryz.func161,Tryz.ntmps161
 go_wp2_with (go_at_call 40;refine (ZZ _ _ _ _).mono ?_;rintro e w' ⟨rfl,rfl⟩)
 go_ret
 exact ⟨rfl,rfl⟩
theorem YR {x:Int} {r:Bool} (h:VZ x=r) (w:World):Calls Tryz.prog 161 #[.int .i64 x] w fun e w'=>e= .returned (.bool r)/\w'=w:=by
 rw [<-h];exact I3 x w
theorem OY (h m:Int) (w:World):Calls Tryz.prog 279 #[.int .i64 h,.int .i64 m] w fun e w'=>e= .returned (.int .i64 (Y8 h m))/\w'=w:=by
 cases h2:VZ m
 ·have hs:Y8 h m=h:=by unfold Y8;rw [h2];rfl
  have Hs:=Z9 hs
  have H2:=Z9 h2
  clear hs h2
  go_enter Tryz.func279,Tryz.ntmps279
  go_wp2_with (go_at_call 161;refine (YR (uh H2) _).mono ?_;rintro e w' ⟨rfl,rfl⟩)
  go_ret
  exact ⟨ZI (uh Hs).symm,rfl⟩
 have hs:Y8 h m=max h (m-20000):=by unfold Y8;rw [h2];rfl
 obtain ⟨b0,b1⟩:=N7 h2
 have Hs:=Z9 hs
 have H2:=Z9 h2
 clear hs h2
 go_enter Tryz.func279,Tryz.ntmps279
 go_wp2_with (first | (go_at_call 124;refine (Ss _ _ _).mono ?_;rintro e w' ⟨rfl,rfl⟩) | (go_at_call 161;refine (YR (uh H2) _).mono ?_;rintro e w' ⟨rfl,rfl⟩))
 go_ret
 exact ⟨ZI (uh Hs).symm,rfl⟩
theorem Sf (h f t:Int) (w:World):Calls Tryz.prog 280 #[.int .i64 h,.int .i64 f,.int .i64 t] w fun e w'=>e= .returned (.int .i64 (Zq h f t))/\w'=w:=by
 cases h1:VZ h
 ·have hs:Zq h f t=h:=by unfold Zq;rw [h1];rfl
  have Hs:=Z9 hs
  have H1:=Z9 h1
  clear hs h1
  go_enter Tryz.func280,Tryz.ntmps280
  go_wp2_with (go_at_call 161;refine (YR (uh H1) _).mono ?_;rintro e w' ⟨rfl,rfl⟩)
  go_ret
  exact ⟨ZI (uh Hs).symm,rfl⟩
 cases h2:VZ f
 ·have hs:Zq h f t=h:=by unfold Zq;rw [h1,h2];rfl
  have Hs:=Z9 hs
  have H1:=Z9 h1
  have H2:=Z9 h2
  clear hs h1 h2
  go_enter Tryz.func280,Tryz.ntmps280
  go_wp2_with (go_at_call 161;first | (refine (YR (uh H1) _).mono ?_;rintro e w' ⟨rfl,rfl⟩) | (refine (YR (uh H2) _).mono ?_;rintro e w' ⟨rfl,rfl⟩))
  go_ret
  exact ⟨ZI (uh Hs).symm,rfl⟩
 cases h3:VZ t
 ·have hs:Zq h f t=h:=by unfold Zq;rw [h1,h2,h3];rfl
  have Hs:=Z9 hs
  have H1:=Z9 h1
  have H2:=Z9 h2
  have H3:=Z9 h3
  clear hs h1 h2 h3
  go_enter Tryz.func280,Tryz.ntmps280
  go_wp2_with (go_at_call 161;first | (refine (YR (uh H1) _).mono ?_;rintro e w' ⟨rfl,rfl⟩) | (refine (YR (uh H2) _).mono ?_;rintro e w' ⟨rfl,rfl⟩) | (refine (YR (uh H3) _).mono ?_;rintro e w' ⟨rfl,rfl⟩))
  go_ret
  exact ⟨ZI (uh Hs).symm,rfl⟩
 have hs:Zq h f t=h-f+t:=by unfold Zq;rw [h1,h2,h3];rfl
 obtain ⟨a0,a1⟩:=N7 h1
 obtain ⟨b0,b1⟩:=N7 h2
 obtain ⟨c0,c1⟩:=N7 h3
 have Hs:=Z9 hs
 have H1:=Z9 h1
 have H2:=Z9 h2
 have H3:=Z9 h3
 clear hs h1 h2 h3
 go_enter Tryz.func280,Tryz.ntmps280
 go_wp2_with (go_at_call 161;first | (refine (YR (uh H1) _).mono ?_;rintro e w' ⟨rfl,rfl⟩) | (refine (YR (uh H2) _).mono ?_;rintro e w' ⟨rfl,rfl⟩) | (refine (YR (uh H3) _).mono ?_;rintro e w' ⟨rfl,rfl⟩))
 go_ret
 exact ⟨ZI (uh Hs).symm,rfl⟩
theorem OT (m f:Int) (w:World):Calls Tryz.prog 122 #[.int .i64 m,.int .i64 f] w fun e w'=>e= .returned (.int .i64 (ZL m f))/\w'=w:=by
 cases h1:VZ m
 ·have hs:ZL m f=m:=by unfold ZL;rw [h1];rfl
  have Hs:=Z9 hs
  have H1:=Z9 h1
  clear hs h1
  go_enter Tryz.func122,Tryz.ntmps122
  go_wp2_with (go_at_call 161;refine (YR (uh H1) _).mono ?_;rintro e w' ⟨rfl,rfl⟩)
  go_ret
  exact ⟨ZI (uh Hs).symm,rfl⟩
 cases h2:VZ f
 ·have hs:ZL m f=m:=by unfold ZL;rw [h1,h2];rfl
  have Hs:=Z9 hs
  have H1:=Z9 h1
  have H2:=Z9 h2
  clear hs h1 h2
  go_enter Tryz.func122,Tryz.ntmps122
  go_wp2_with (go_at_call 161;first | (refine (YR (uh H1) _).mono ?_;rintro e w' ⟨rfl,rfl⟩) | (refine (YR (uh H2) _).mono ?_;rintro e w' ⟨rfl,rfl⟩))
  go_ret
  exact ⟨ZI (uh Hs).symm,rfl⟩
 have hs:ZL m f=min (max m f) 900000000000:=by unfold ZL;rw [h1,h2];rfl
 have Hs:=Z9 hs
 have H1:=Z9 h1
 have H2:=Z9 h2
 clear hs h1 h2
 go_enter Tryz.func122,Tryz.ntmps122
 go_wp2_with (first | (go_at_call 124;refine (Ss _ _ _).mono ?_;rintro e w' ⟨rfl,rfl⟩) | (go_at_call 187;refine (Mq _ _ _).mono ?_;rintro e w' ⟨rfl,rfl⟩) | (go_at_call 161;first | (refine (YR (uh H1) _).mono ?_;rintro e w' ⟨rfl,rfl⟩) | (refine (YR (uh H2) _).mono ?_;rintro e w' ⟨rfl,rfl⟩)))
 go_ret
 exact ⟨ZI (uh Hs).symm,rfl⟩
end Go.Proofs.YtffcgajndmhpkaaGreatDoor
