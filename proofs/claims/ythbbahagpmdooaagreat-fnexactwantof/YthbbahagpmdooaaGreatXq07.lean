/- Part 7 of what the proof rests on. No condition but those that a theorem names. -/
import Derived.Test.YthbbahagpmdooaaGreatXq04
import Derived.ChangeKeysEq
import Derived.Laws.StructEq
import Derived.WalkMore
import Derived.Below
namespace Go.Proofs.YthbbahagpmdooaaGreat
open Go.ChangeShapes Go.WideShapes Go.ChangeAt Go.RowKit Go.Sort
set_option linter.unusedVariables false
set_option maxRecDepth 100000
theorem Jv (a b c d:Int) (w:World):(Op.equalIn 10000 191 (.agg #[.int .i64 a,.int .i64 b]) (.agg #[.int .i64 c,.int .i64 d])).run Tryz.prog w= .ok (a ==c && b ==d) w:=by
 have u:=Tryz.underlying2
 have ag:=Tryz.isAgg2
 have z:=Tryz.sizeOf2
 have hc:Tryz.prog.cellsOf 2=1:=by kernel_rfl
 obtain ⟨i,hi⟩:=Option.isSome_iff_exists.1 (show (Tryz.prog.info? 2).isSome=true by kernel_rfl)
 rw [show (10000:Nat)=9999+1 from rfl,run_equalIn_array w 9999 _ _ Tryz.underlying191 hi,hc]
 simp only [show List.range 2=[0,1] from rfl,Op.eqItems]
 go_simp
 by_cases h:a=c
 ·subst h
  by_cases h2:b=d
  ·subst h2;simp
  ·simp [h2]
 ·simp [h]
theorem Fh (a b c d:Int) (w:World):(binOp .eql 191 (.agg #[.int .i64 a,.int .i64 b]) (.agg #[.int .i64 c,.int .i64 d])).run Tryz.prog w= .ok (.bool (a ==c && b ==d)) w:=by
 rw [run_eql_struct,Jv];rfl
theorem RS (lo hi n:Int) (w:World):Calls Tryz.prog 201 #[.agg #[.int .i64 lo,.int .i64 hi],.int .i64 n] w fun e w'=>e= .returned (.agg #[.int .i64 (min lo n),.int .i64 (max hi n)])/\Below w.heap.size w w':=by
 by_cases h1:lo<=n
 all_goals
  by_cases h2:hi<n
  all_goals
   go_enter Tryz.func201,Tryz.ntmps201
   go_wp2_with fail
   exact bodyPost_ret (v:= .agg #[.int .i64 (min lo n),.int .i64 (max hi n)]) (by simp [results,Tryz.results201,go_sem];omega) rfl ⟨rfl,((Below.refl _ _).alloc (Nat.le_refl _) _).alloc (by simp) _⟩
theorem Ju (m:Int) (w:World) (m0 : -1000000000000<=m) (m1:m<=1000000000000):Calls Tryz.prog 167 #[.int .i64 m] w fun e w'=>e= .returned (.agg #[.int .i64 (m-20000),.int .i64 (m+63000)])/\Below w.heap.size w w':=by
 go_enter Tryz.func167,Tryz.ntmps167
 go_wp2_with fail
 exact bodyPost_ret (v:= .agg #[.int .i64 (m-20000),.int .i64 (m+63000)]) (by simp [results,Tryz.results167,go_sem]) rfl ⟨rfl,(Below.refl _ _).alloc (Nat.le_refl _) _⟩
def loL (lo:Int) (zs:List Int):Int:=zs.foldl min lo
def hiL (hi:Int) (zs:List Int):Int:=zs.foldl max hi
theorem Eo (zs:List Int):∀ lo,loL lo zs<=lo:=by
 induction zs with
 | nil=>intro lo;exact Int.le_refl _
 | cons z zs ih=>intro lo;exact Int.le_trans (ih (min lo z)) (Int.min_le_left _ _)
theorem El (zs:List Int):∀ hi,hi<=hiL hi zs:=by
 induction zs with
 | nil=>intro hi;exact Int.le_refl _
 | cons z zs ih=>intro hi;exact Int.le_trans (Int.le_max_left _ _) (ih (max hi z))
theorem NN (zs:List Int):∀ lo hi,(loL lo zs ==lo && hiL hi zs ==hi)=zs.all fun z=>inB z lo hi:=by
 induction zs with
 | nil=>intro lo hi;simp [loL,hiL]
 | cons z zs ih=>
  intro lo hi
  show (loL (min lo z) zs ==lo && hiL (max hi z) zs ==hi)=(inB z lo hi && zs.all fun z=>inB z lo hi)
  cases hz:inB z lo hi
  ·have hn:¬ (lo<=z/\z<=hi):=of_decide_eq_false hz
   have h1:=Eo zs (min lo z)
   have h2:=El zs (max hi z)
   simp only [Bool.false_and,Bool.and_eq_false_iff,beq_eq_false_iff_ne]
   omega
  ·obtain ⟨h1,h2⟩:=ZU hz
   rw [show min lo z=lo by omega,show max hi z=hi by omega,ih];rfl
theorem FJ {lo:Int} {zs:List Int} {k:Nat} (hk:k<zs.length):loL lo (zs.take (k+1))=min (loL lo (zs.take k)) (zs.getD k 0):=by
 unfold loL;rw [List.take_succ_eq_append_getElem hk,List.foldl_append];simp [List.getD,List.getElem?_eq_getElem hk]
theorem Fz {hi:Int} {zs:List Int} {k:Nat} (hk:k<zs.length):hiL hi (zs.take (k+1))=max (hiL hi (zs.take k)) (zs.getD k 0):=by
 unfold hiL;rw [List.take_succ_eq_append_getElem hk,List.foldl_append];simp [List.getD,List.getElem?_eq_getElem hk]
attribute [local go_sem ↓] Fh
set_option maxHeartbeats 400000 in
theorem SP (lo hi:Int) (b cap:Nat) (zs:List Int) (w:World) (hl:zs.length<=1000) (hb:b<w.heap.size) (hc:∀ k,k<zs.length->w.cell? ⟨b,k,none⟩=some (.int .i64 (zs.getD k 0))) :
  Calls Tryz.prog 168 #[.agg #[.int .i64 lo,.int .i64 hi],.slice (some ⟨b,0,none⟩) zs.length cap] w fun e w'=>e= .returned (.bool (zs.all fun z=>inB z lo hi))/\Below w.heap.size w w':=by
 have Hc:=Z9 hc
 clear hc
 go_enter Tryz.func168,Tryz.ntmps168
 go_wp2_with fail
 go_loopw [11] (fun i wr=> ∃ k:Nat,k<=zs.length/\i= .int .i64 k/\Blk wr (w.heap.size+1) 191 #[.int .i64 (loL lo (zs.take k)),.int .i64 (hiL hi (zs.take k))]/\Blk wr w.heap.size 191 #[.int .i64 lo,.int .i64 hi]/\Below w.heap.size w wr) (fun i _=>zs.length-(intOf i).toNat)
 case atStart=>
  refine ⟨0,Nat.zero_le _,rfl,?_,(Blk.new w _ _).alloc _,((Below.refl _ _).alloc (Nat.le_refl _) _).alloc (by simp) _⟩
  have:=Blk.new (w.alloc (.cells #[.int .i64 lo,.int .i64 hi] 191)) 191 #[.int .i64 lo,.int .i64 hi]
  simpa [loL,hiL] using this
 case round=>
  obtain ⟨k,hk,rfl,hs,ho,hbl⟩:=hrel
  have Hs:=Z9 hs
  have Ho:=Z9 ho
  have Hb:=Z9 hbl
  by_cases hlt:k<zs.length
  ·have c0:=uh Hc k hlt
   rw [<-hbl.cell (p:=⟨b,k,none⟩) hb] at c0
   have e1:=FJ (lo:=lo) hlt
   have e2:=Fz (hi:=hi) hlt
   have s0:=hs.cell (i:=0) rfl
   have s1:=hs.cell (i:=1) rfl
   have g0:=hs.free 0
   have g1:=hs.free 1
   generalize zs.getD k 0=z at *
   generalize loL lo (zs.take k)=x at *
   generalize hiL hi (zs.take k)=y at *
   have E1:=Z9 e1
   have E2:=Z9 e2
   clear e1 e2 hs ho hbl
   go_wp2_with fail
   refine (RS x y z _).mono ?_
   rintro e w1 ⟨rfl,hb1⟩
   have hs1:=(uh Hs).below hb1 (uh Hs).lt
   have Hs1:=Z9 hs1
   have Ho1:Hid (Blk w1 w.heap.size 191 #[.int .i64 lo,.int .i64 hi]):=Z9 ((uh Ho).below hb1 (uh Ho).lt)
   have B1:Hid (Below w.heap.size w w1):=Z9 ((uh Hb).trans (hb1.mono (uh Hb).size))
   have s0:=hs1.cell (i:=0) rfl
   have s1:=hs1.cell (i:=1) rfl
   have g0:=hs1.free 0
   have g1:=hs1.free 1
   clear hs1 hb1
   go_wp2_with fail
   go_roundw
   case rel=>
    refine ⟨k+1,by omega,by go_num,?_,?_,?_⟩
    ·rw [uh E1,uh E2]
     simpa using ((uh Hs1).set 0 (.int .i64 (min x z))).set 1 (.int .i64 (max y z))
    ·exact ((uh Ho1).other (by simp) _).other (by simp) _
    ·exact ((uh B1).setCell (by simp) _).setCell (by simp) _
   case measure=>simp [intOf];omega
  ·obtain rfl:k=zs.length:=by omega
   rw [List.take_length] at hs
   have e3:=NN zs lo hi
   have s0:=hs.cell (i:=0) rfl
   have s1:=hs.cell (i:=1) rfl
   have o0:=ho.cell (i:=0) rfl
   have o1:=ho.cell (i:=1) rfl
   generalize loL lo zs=x at *
   generalize hiL hi zs=y at *
   have E3:=Z9 e3
   clear e3 hs ho hbl Hs
   go_wp2_with fail
   go_ret
   exact ⟨Z6 (uh E3),uh Hb⟩
theorem QS (b cap:Nat) (zs:List Int) (w:World) (hl:zs.length<=1000) (hb:b<w.heap.size) (hc:∀ k,k<zs.length->w.cell? ⟨b,k,none⟩=some (.int .i64 (zs.getD k 0))) :
  Calls Tryz.prog 166 #[.slice (some ⟨b,0,none⟩) zs.length cap] w fun e w'=>e= .returned (.bool (zs.all fun z=>inB z (-1000000000000) 1000000000000))/\Below w.heap.size w w':=by
 have Hc:=Z9 hc
 clear hc
 go_enter Tryz.func166,Tryz.ntmps166
 go_wp2_with fail
 refine (SP _ _ b cap zs _ hl hb (uh Hc)).mono ?_
 rintro e w1 ⟨rfl,hb1⟩
 have B1:=Z9 hb1
 clear hb1
 go_wp2_with fail
 go_ret
 exact ⟨rfl,uh B1⟩
theorem Pp (h m:Int) (w:World):Calls Tryz.prog 134 #[.int .i64 h,.int .i64 m] w fun e w'=>e= .returned (.bool (Wi h m))/\Below w.heap.size w w':=by
 cases hh:VI h && VI m
 ·have hs:Wi h m=false:=by unfold Wi;rw [hh];rfl
  have Hs:=Z9 hs
  clear hs
  go_enter Tryz.func134,Tryz.ntmps134
  go_wp2_with fail
  refine (QS _ _ [h,m] _ (by simp) (by simp) ?_).mono ?_
  ·intro k hk
   simp at hk
   match k,hk with
   | 0,_=>simp
   | 1,_=>simp
  rintro e w1 ⟨rfl,hb⟩
  rw [EH,hh]
  have B1:Hid (Below w.heap.size w w1):=Z9 (((Below.refl _ _).alloc (Nat.le_refl _) _).trans (hb.mono (by simp)))
  clear hb
  go_wp2_with fail
  go_ret
  exact ⟨Z6 (uh Hs).symm,uh B1⟩
 ·have hs:Wi h m=inB (h-m) (-20000) 63000:=by unfold Wi;rw [hh];rfl
  have Hs:=Z9 hs
  have h':=hh
  simp only [Bool.and_eq_true] at h'
  obtain ⟨m0,m1⟩:=Pn h'.2
  clear hs h'
  go_enter Tryz.func134,Tryz.ntmps134
  go_wp2_with fail
  refine (QS _ _ [h,m] _ (by simp) (by simp) ?_).mono ?_
  ·intro k hk
   simp at hk
   match k,hk with
   | 0,_=>simp
   | 1,_=>simp
  rintro e w1 ⟨rfl,hb⟩
  rw [EH,hh]
  have B1:Hid (Below w.heap.size w w1):=Z9 (((Below.refl _ _).alloc (Nat.le_refl _) _).trans (hb.mono (by simp)))
  clear hb
  go_wp2_with fail
  refine (Ju m _ m0 m1).mono ?_
  rintro e w2 ⟨rfl,hb⟩
  have B2:Hid (Below w.heap.size w w2):=Z9 ((uh B1).trans (hb.mono (uh B1).size))
  clear hb B1
  go_wp2_with fail
  refine (SP _ _ _ _ [h] _ (by simp) (by simp) ?_).mono ?_
  ·intro k hk
   simp at hk
   subst hk
   simp
  rintro e w3 ⟨rfl,hb⟩
  rw [ER]
  have B3:Hid (Below w.heap.size w w3):=Z9 (((uh B2).alloc (uh B2).size _).trans (hb.mono (by have:=(uh B2).size;simp;omega)))
  clear hb B2
  go_wp2_with fail
  go_ret
  exact ⟨Z6 (uh Hs).symm,uh B3⟩
theorem La (x:Int) (w:World):Calls Tryz.prog 93 #[.int .i64 x] w fun e w'=>e= .returned (.bool (VI x))/\w'=w:=by
 go_enter Tryz.func93,Tryz.ntmps93
 go_wp2_with (go_at_call 77;refine (Z1 _ _ _ _).mono ?_;rintro e w' ⟨rfl,rfl⟩)
 go_ret
 exact ⟨rfl,rfl⟩
theorem YR {x:Int} {r:Bool} (h:VI x=r) (w:World):Calls Tryz.prog 93 #[.int .i64 x] w fun e w'=>e= .returned (.bool r)/\w'=w:=by
 rw [<-h];exact La x w
theorem P7 (h m:Int) (w:World):Calls Tryz.prog 207 #[.int .i64 h,.int .i64 m] w fun e w'=>e= .returned (.int .i64 (Y2 h m))/\w'=w:=by
 cases h2:VI m
 ·have hs:Y2 h m=h:=by unfold Y2;rw [h2];rfl
  have Hs:=Z9 hs
  have H2:=Z9 h2
  clear hs h2
  go_enter Tryz.func207,Tryz.ntmps207
  go_wp2_with (go_at_call 93;refine (YR (uh H2) _).mono ?_;rintro e w' ⟨rfl,rfl⟩)
  go_ret
  exact ⟨Zx (uh Hs).symm,rfl⟩
 have hs:Y2 h m=max h (m-20000):=by unfold Y2;rw [h2];rfl
 obtain ⟨b0,b1⟩:=Pn h2
 have Hs:=Z9 hs
 have H2:=Z9 h2
 clear hs h2
 go_enter Tryz.func207,Tryz.ntmps207
 go_wp2_with (first | (go_at_call 69;refine (VE _ _ _).mono ?_;rintro e w' ⟨rfl,rfl⟩) | (go_at_call 93;refine (YR (uh H2) _).mono ?_;rintro e w' ⟨rfl,rfl⟩))
 go_ret
 exact ⟨Zx (uh Hs).symm,rfl⟩
theorem SW (h f t:Int) (w:World):Calls Tryz.prog 208 #[.int .i64 h,.int .i64 f,.int .i64 t] w fun e w'=>e= .returned (.int .i64 (Zr h f t))/\w'=w:=by
 cases h1:VI h
 ·have hs:Zr h f t=h:=by unfold Zr;rw [h1];rfl
  have Hs:=Z9 hs
  have H1:=Z9 h1
  clear hs h1
  go_enter Tryz.func208,Tryz.ntmps208
  go_wp2_with (go_at_call 93;refine (YR (uh H1) _).mono ?_;rintro e w' ⟨rfl,rfl⟩)
  go_ret
  exact ⟨Zx (uh Hs).symm,rfl⟩
 cases h2:VI f
 ·have hs:Zr h f t=h:=by unfold Zr;rw [h1,h2];rfl
  have Hs:=Z9 hs
  have H1:=Z9 h1
  have H2:=Z9 h2
  clear hs h1 h2
  go_enter Tryz.func208,Tryz.ntmps208
  go_wp2_with (go_at_call 93;first | (refine (YR (uh H1) _).mono ?_;rintro e w' ⟨rfl,rfl⟩) | (refine (YR (uh H2) _).mono ?_;rintro e w' ⟨rfl,rfl⟩))
  go_ret
  exact ⟨Zx (uh Hs).symm,rfl⟩
 cases h3:VI t
 ·have hs:Zr h f t=h:=by unfold Zr;rw [h1,h2,h3];rfl
  have Hs:=Z9 hs
  have H1:=Z9 h1
  have H2:=Z9 h2
  have H3:=Z9 h3
  clear hs h1 h2 h3
  go_enter Tryz.func208,Tryz.ntmps208
  go_wp2_with (go_at_call 93;first | (refine (YR (uh H1) _).mono ?_;rintro e w' ⟨rfl,rfl⟩) | (refine (YR (uh H2) _).mono ?_;rintro e w' ⟨rfl,rfl⟩) | (refine (YR (uh H3) _).mono ?_;rintro e w' ⟨rfl,rfl⟩))
  go_ret
  exact ⟨Zx (uh Hs).symm,rfl⟩
 have hs:Zr h f t=h-f+t:=by unfold Zr;rw [h1,h2,h3];rfl
 obtain ⟨a0,a1⟩:=Pn h1
 obtain ⟨b0,b1⟩:=Pn h2
 obtain ⟨c0,c1⟩:=Pn h3
 have Hs:=Z9 hs
 have H1:=Z9 h1
 have H2:=Z9 h2
 have H3:=Z9 h3
 clear hs h1 h2 h3
 go_enter Tryz.func208,Tryz.ntmps208
 go_wp2_with (go_at_call 93;first | (refine (YR (uh H1) _).mono ?_;rintro e w' ⟨rfl,rfl⟩) | (refine (YR (uh H2) _).mono ?_;rintro e w' ⟨rfl,rfl⟩) | (refine (YR (uh H3) _).mono ?_;rintro e w' ⟨rfl,rfl⟩))
 go_ret
 exact ⟨Zx (uh Hs).symm,rfl⟩
theorem P2 (m f:Int) (w:World):Calls Tryz.prog 233 #[.int .i64 m,.int .i64 f] w fun e w'=>e= .returned (.int .i64 (Y1 m f))/\w'=w:=by
 cases h1:VI m
 ·have hs:Y1 m f=m:=by unfold Y1;rw [h1];rfl
  have Hs:=Z9 hs
  have H1:=Z9 h1
  clear hs h1
  go_enter Tryz.func233,Tryz.ntmps233
  go_wp2_with (go_at_call 93;refine (YR (uh H1) _).mono ?_;rintro e w' ⟨rfl,rfl⟩)
  go_ret
  exact ⟨Zx (uh Hs).symm,rfl⟩
 cases h2:VI f
 ·have hs:Y1 m f=m:=by unfold Y1;rw [h1,h2];rfl
  have Hs:=Z9 hs
  have H1:=Z9 h1
  have H2:=Z9 h2
  clear hs h1 h2
  go_enter Tryz.func233,Tryz.ntmps233
  go_wp2_with (go_at_call 93;first | (refine (YR (uh H1) _).mono ?_;rintro e w' ⟨rfl,rfl⟩) | (refine (YR (uh H2) _).mono ?_;rintro e w' ⟨rfl,rfl⟩))
  go_ret
  exact ⟨Zx (uh Hs).symm,rfl⟩
 have hs:Y1 m f=min (max m f) 900000000000:=by unfold Y1;rw [h1,h2];rfl
 have Hs:=Z9 hs
 have H1:=Z9 h1
 have H2:=Z9 h2
 clear hs h1 h2
 go_enter Tryz.func233,Tryz.ntmps233
 go_wp2_with (first | (go_at_call 69;refine (VE _ _ _).mono ?_;rintro e w' ⟨rfl,rfl⟩) | (go_at_call 124;refine (N6 _ _ _).mono ?_;rintro e w' ⟨rfl,rfl⟩) | (go_at_call 93;first | (refine (YR (uh H1) _).mono ?_;rintro e w' ⟨rfl,rfl⟩) | (refine (YR (uh H2) _).mono ?_;rintro e w' ⟨rfl,rfl⟩)))
 go_ret
 exact ⟨Zx (uh Hs).symm,rfl⟩
end Go.Proofs.YthbbahagpmdooaaGreat
namespace Go.Proofs.YthbbahagpmdooaaGreat
open Go.ChangeShapes Go.WideShapes Go.ChangeAt Go.RowKit Go.Sort
set_option linter.unusedVariables false
theorem M5 (g o i:Nat):(⟨g,o,none⟩:Addr).add i=⟨g,o+i,none⟩:=by unfold Addr.add;split<;>simp_all
theorem Mq {e k bytes:Nat} {z:Value} (h:(Tryz.prog.info? e).map (fun i=>(i.zero,i.size,i.bytes))=some (some z,k,bytes)):∃ i,Tryz.prog.info? e=some i/\i.zero=some z/\i.size=k/\i.bytes=bytes:=by
 cases hi:Tryz.prog.info? e with
 | none=>rw [hi] at h;cases h
 | some i=>
  rw [hi] at h
  simp only [Option.map_some,Option.some.injEq,Prod.mk.injEq] at h
  exact ⟨i,rfl,h.1,h.2.1,h.2.2⟩
theorem Qx {w:World} {base t ty e size n:Nat} {i:TypeInfo} (ht:Tryz.prog.underlying t=some (.slice e)) (hi:Tryz.prog.info? e=some i) {v:Value} {xs:List Value} (hown:w.ownsRow base e size v n xs) (a:Option Addr) (c:Nat) :
  (Builtin.append_ #[t,t] ty #[v,.slice a 0 c]).run Tryz.prog w= .ok v w:=by
 rcases hown.2 with ⟨rfl,rfl⟩ | ⟨g,cap,cur,rfl,_,_,hnc,_⟩
 ·cases a<;>simp [Builtin.append_,run_underlying ht,sizeOf,typeInfo,hi,Builtin.lenOf,Builtin.firstCells,loadCells,loadCellsFrom]
 ·cases a<;>simp [Builtin.append_,run_underlying ht,sizeOf,typeInfo,hi,Builtin.lenOf,Builtin.firstCells,hnc,storeCells,loadCells,loadCellsFrom]
structure QO {α:Type} (e k:Nat) (z:Value) (enc:α->List Value):Prop where
 info:(Tryz.prog.info? e).map (fun i=>(i.zero,i.size,i.bytes))=some (some z,k,8*k)
 zero:z.cells.size=k
 len:∀ x,(enc x).length=k
 pos:0<k
 few:k<=100
 one:∀ x,∀ u ∈ enc x,u.oneCell'=true
section
variable {α : Type} {e k : Nat} {enc : α → List Value}
theorem Fv (hone:∀ x:α,∀ u ∈ enc x,u.oneCell'=true) (qs:List α):∀ u ∈ Vn enc qs,u.oneCell'=true:=fun u hu=>by
 unfold Vn at hu
 obtain ⟨p,_,hp⟩:=List.mem_flatMap.1 hu
 exact hone p u hp
theorem Ym {B g:Nat} {w:World} (hg:g=w.heap.size) (hB:B<=g):RecAt e k enc B (w.alloc (.cells #[] e)) (.slice (some ⟨g,0,none⟩) 0 0) []:=by
 subst hg
 exact ⟨by simp [Vn],.inr ⟨_,0,#[],rfl,hB,heap_alloc_new w _,Nat.le_refl _,Nat.zero_le _,by simp,by simp [Vn]⟩⟩
end
section
variable {α : Type} [Inhabited α] {e k : Nat} {enc : α → List Value} {z : Value}
theorem Is (hk:∀ x,(enc x).length=k) (h0:0<k) {w:World} {b off:Nat} {qs:List α} (h:∀ j,j<qs.length-> ∀ i u,(enc (Z8 qs j))[i]?=some u->w.cell? ⟨b,off+j*k+i,none⟩=some u) :
  ∀ (j:Nat) (u:Value),(Vn enc qs)[j]?=some u->w.cell? ((⟨b,off,none⟩:Addr).add j)=some u:=fun j u hj=>by
 have hlt:j<qs.length*k:=by
  rcases Nat.lt_or_ge j (qs.length*k) with h | h
  ·exact h
  ·rw [List.getElem?_eq_none (by rw [WC hk];exact h)] at hj;cases hj
 have hd:j / k<qs.length:=(Nat.div_lt_iff_lt_mul h0).2 hlt
 have hr:j%k<k:=Nat.mod_lt _ h0
 have he:j=j / k*k+j%k:=by rw [Nat.mul_comm];exact (Nat.div_add_mod j k).symm
 rw [M5]
 rw [he,WB hk qs (j / k) hd (j%k) hr] at hj
 have:=h (j / k) hd (j%k) u hj
 rw [Nat.add_assoc,<-he] at this
 exact this
theorem Xh (T:QO e k z enc) {w:World} {base t ty:Nat} (ht:Tryz.prog.underlying t=some (.slice e)) {v x:Value} {ps qs:List α} (hown:RecAt e k enc base w v ps) (hx:IsRec k enc w x qs) (hb:ps.length+qs.length<=4000) (hbase:base<=w.heap.size) :
  ∃ v' w',(Builtin.append_ #[t,t] ty #[v,x]).run Tryz.prog w= .ok v' w'/\RecAt e k enc base w' v' (ps++qs)/\w.grownBy w' v.ownBlock/\(v'.ownBlock=v.ownBlock\/v'.ownBlock=some w.heap.size):=by
 obtain ⟨i0,hi,hz0,hz1,hz2⟩:=Mq T.info
 obtain ⟨a,c,rfl,hc,hm,hr⟩:=hx
 by_cases h0:qs=[]
 ·subst h0
  refine ⟨v,w,Qx ht hi hown a c,by simpa using hown,SE _ _,.inl rfl⟩
 ·rcases hr with hr | ⟨b,off,rfl,hlt,hcl⟩
  ·exact absurd hr h0
  ·have hk:=T.few
   have hmul:(ps.length+qs.length)*(8*k)<=4000*800:=Nat.mul_le_mul hb (by omega)
   obtain ⟨v',w',hr,h2,h3,_,h5⟩:=run_append_own_at (P:=Tryz.prog) w base t ty e i0 z k (8*k) ht hi hz0 hz1 hz2 T.zero T.pos v ps.length _ hown ⟨b,off,none⟩ qs.length c (Vn enc qs) (WC T.len qs)
    (Is T.len T.pos hcl) (Fv T.one qs) (by simp only [maxLen];omega) (by omega) hbase
   refine ⟨v',w',hr,?_,h3,h5⟩
   unfold RecAt
   rw [Lu,List.length_append]
   exact h2
theorem ZF (T:QO e k z enc) {w:World} {ops:Array Oper} {rest:List Oper} {o:Oper} {a:Act} {Q:Exit->Act->World->Prop} (hgd:o.guard=none) (s x:Operand) (t:TypeId) (ht:Tryz.prog.underlying t=some (.slice e))
  (ho:o.op= .call { callee:= .builtin .append,args:=#[s,x],argTypes:=#[t,t] }) (base:Nat) (v u:Value) (ps qs:List α) (hs:a.eval s=v) (hx:a.eval x=u) (hown:RecAt e k enc base w v ps) (hr:IsRec k enc w u qs)
  (hb:ps.length+qs.length<=4000) (hbase:base<=w.heap.size)
  (h:∀ v' w',RecAt e k enc base w' v' (ps++qs)->w.grownBy w' v.ownBlock->(v'.ownBlock=v.ownBlock\/v'.ownBlock=some w.heap.size)->wpList Tryz.prog ops Q rest (a.put o.dst v') w') :
  wpList Tryz.prog ops Q (o::rest) a w:=by
 refine wpList_plain hgd fun K hK=> ?_
 obtain ⟨v',w',hrun,h2,h3,h5⟩:=Xh T (ty:=o.type) ht hown hr hb hbase
 unfold Oper.wp execOp
 simp only [ho,resolve,invoke,builtin,Sem.run_bind,Sem.run_pure,Result.andThen_ok,List.map_toArray,List.map_cons,List.map_nil,hs,hx,hrun]
 exact hK _ _ (h v' w' h2 h3 h5)
theorem We {w:World} (x:α) {g c:Nat} (hg:g=w.heap.size) (hc:1<=c) (hc2:c<=4000):IsRec k enc (w.alloc (.cells (enc x).toArray e)) (.slice (some ⟨g,0,none⟩) 1 c) [x]:=by
 subst hg
 refine ⟨_,c,rfl,hc,by omega,.inr ⟨_,0,rfl,by simp,fun j hj i u hu=> ?_⟩⟩
 obtain rfl:j=0:=by simpa using hj
 rw [Nat.zero_mul,Nat.zero_add,World.cell?_alloc_at _ _ _ _ rfl]
 have hr:Z8 [x] 0=x:=rfl
 rw [hr] at hu
 simpa using hu
theorem GK (hk:∀ x,(enc x).length=k) (h0:0<k) (xs:List α) {j i:Nat} (hj:j<xs.length) (hi:i<k) (u:Value) (x:α) (hx:enc x=(enc (Z8 xs j)).set i u):(Vn enc xs).set (j*k+i) u=Vn enc (xs.set j x):=by
 have hl:=WC hk xs
 have hjk:j*k+k<=xs.length*k:=by rw [<-Nat.succ_mul];exact Nat.mul_le_mul_right k hj
 apply List.ext_getElem?
 intro m
 by_cases hm:m<xs.length*k
 ·have hd:m / k<xs.length:=(Nat.div_lt_iff_lt_mul h0).2 hm
  have hr:m%k<k:=Nat.mod_lt _ h0
  have he:m=m / k*k+m%k:=by rw [Nat.mul_comm];exact (Nat.div_add_mod m k).symm
  have hg:=WB hk (xs.set j x) (m / k) (by simpa using hd) (m%k) hr
  have hg0:=WB hk xs (m / k) hd (m%k) hr
  rw [<-he] at hg hg0
  rw [hg,ZC hj]
  by_cases e:m / k=j
  ·rw [if_pos e,hx]
   by_cases ei:m%k=i
   ·have hmi:m=j*k+i:=by rw [<-e,<-ei];exact he
    rw [ei,hmi,List.getElem?_set_self (by rw [hl];omega),List.getElem?_set_self (by rw [hk];exact hi)]
   ·have hmi:j*k+i ≠ m:=by rw [<-e];omega
    rw [List.getElem?_set_ne hmi,List.getElem?_set_ne (Ne.symm ei),hg0,e]
  ·rw [if_neg e,List.getElem?_set_ne,hg0]
   intro h
   apply e
   rw [<-h]
   exact Nat.div_eq_of_lt_le (Nat.le_add_right _ _) (by rw [Nat.succ_mul];omega)
 ·rw [List.getElem?_eq_none (by simp;omega),List.getElem?_eq_none (by rw [WC hk];simp;omega)]
theorem RecAt.put1 (hk:∀ x,(enc x).length=k) (h0:0<k) {t n₀ n cap g:Nat} {w:World} {xs:List α} (h:RecAt t k enc n₀ w (.slice (some ⟨g,0,none⟩) n cap) xs) (hn:n=xs.length) {j i:Nat} (hj:j<xs.length) (hi:i<k) (u:Value) (x:α) (hx:enc x=(enc (Z8 xs j)).set i u) :
  RecAt t k enc n₀ (w.setCell ⟨g,j*k+i,none⟩ u) (.slice (some ⟨g,0,none⟩) n cap) (xs.set j x)/\w.grownBy (w.setCell ⟨g,j*k+i,none⟩ u) (some g):=by
 subst hn
 obtain ⟨h1,h2⟩:=World.ownsRow.stored h (j*k+i) u
 rw [GK hk h0 xs hj hi u x hx] at h1
 refine ⟨?_,h2⟩
 unfold RecAt
 rw [List.length_set]
 exact h1
end
end Go.Proofs.YthbbahagpmdooaaGreat
namespace Go.Proofs.YthbbahagpmdooaaGreat
open Go.ChangeShapes Go.WideShapes Go.ChangeAt Go.RowKit Go.Sort
set_option linter.unusedVariables false
def PacesAt (n₀:Nat) (w:World) (v:Value) (ps:List Z5):Prop:=w.ownsRow n₀ 188 2 v ps.length (YG ps)
theorem PacesAt.lt {n₀:Nat} {w:World} {v:Value} {ps:List Z5} (h:PacesAt n₀ w v ps) {k:Nat} (hk:v.ownBlock=some k):n₀<=k/\k<w.heap.size:=World.ownsRow.lt h k hk
theorem PacesAt.paces {n₀:Nat} {w:World} {v:Value} {ps:List Z5} (h:PacesAt n₀ w v ps):IsPaces w v ps:=by
 have h':=h
 rcases h.2 with ⟨rfl,hz⟩ | ⟨g,cap,cur,rfl,hb,hg,hnc,hcm,r⟩
 ·exact ⟨none,0,by rw [hz],by omega,by omega,.inl (List.eq_nil_of_length_eq_zero hz)⟩
 ·refine ⟨_,cap,rfl,hnc,by unfold maxLen at hcm;omega,.inr ⟨g,0,rfl,(Array.getElem?_eq_some_iff.1 hg).1,fun k hk=> ?_⟩⟩
  have hp:=UN (f:=fun p:Z5=>Value.int .i64 p.1) (g:=fun p:Z5=>Value.int .i64 p.2) ps k hk
  have hat:Z7 ps k=ps[k]:=by unfold Z7;simp [List.getD,hk]
  rw [Nat.zero_add,hat]
  exact ⟨(World.ownsRow.cellAt h' (k*2) (by omega)).trans hp.1,(World.ownsRow.cellAt h' (k*2+1) (by omega)).trans hp.2⟩
structure OwnHall (n₀:Nat) (w:World) (v:Value) (qs:List (Z0 × Value)):Prop where
 row:w.ownsRow n₀ 116 2 v qs.length (PO qs)
 paces:∀ q ∈ qs,PacesAt n₀ w q.2 q.1.2
 off:∀ q ∈ qs,∀ b,q.2.ownBlock=some b->v.ownBlock ≠ some b
 apart:(qs.map (·.2)).Pairwise fun x y=> ∀ b,x.ownBlock=some b->y.ownBlock ≠ some b
theorem OwnHall.nil (n₀:Nat) (w:World):OwnHall n₀ w (.slice none 0 0) []:=
 ⟨World.ownsRow_nil w n₀ _ _,fun _ h=>(by cases h),fun _ h=>(by cases h),List.Pairwise.nil⟩
theorem OwnHall.lt {n₀:Nat} {w:World} {v:Value} {qs:List (Z0 × Value)} (h:OwnHall n₀ w v qs) {k:Nat} (hk:v.ownBlock=some k\/ ∃ q ∈ qs,q.2.ownBlock=some k):n₀<=k/\k<w.heap.size:=by
 rcases hk with hk | ⟨q,hq,hk⟩
 ·exact World.ownsRow.lt h.row k hk
 ·exact (h.paces q hq).lt hk
theorem OwnHall.same {n₀:Nat} {w w':World} {v:Value} {qs:List (Z0 × Value)} (h:OwnHall n₀ w v qs) (hs:∀ k,n₀<=k->k<w.heap.size->w'.heap[k]?=w.heap[k]?):OwnHall n₀ w' v qs:=
 ⟨XX h.row (fun k e=>hs k (h.lt (.inl e)).1 (h.lt (.inl e)).2),fun q hq=>XX (h.paces q hq) (fun k e=>hs k (h.lt (.inr ⟨q,hq,e⟩)).1 (h.lt (.inr ⟨q,hq,e⟩)).2),h.off,h.apart⟩
theorem OwnHall.later {n₀:Nat} {w w':World} {v:Value} {qs:List (Z0 × Value)} (h:OwnHall n₀ w v qs) (hb:Below w.heap.size w w'):OwnHall n₀ w' v qs:=h.same (fun k _ hk=>hb.block k hk)
theorem OwnHall.but {n₀ bc:Nat} {w w':World} {v:Value} {qs:List (Z0 × Value)} (h:OwnHall n₀ w v qs) (hb:But bc w w') (hbc:bc<n₀\/w.heap.size<=bc):OwnHall n₀ w' v qs:=h.same (fun k h0 hk=>hb.block k hk (by omega))
theorem OwnHall.mono {n₀ n₁:Nat} {w:World} {v:Value} {qs:List (Z0 × Value)} (h:OwnHall n₀ w v qs) (hn:n₁<=n₀):OwnHall n₁ w v qs:=
 ⟨UK h.row hn,fun q hq=>UK (h.paces q hq) hn,h.off,h.apart⟩
theorem OwnHall.rooms {n₀:Nat} {w:World} {v:Value} {qs:List (Z0 × Value)} (h:OwnHall n₀ w v qs):IsRooms w v (qs.map (·.1)):=by
 have h':=h.row
 have hlen:(qs.map (·.1)).length=qs.length:=by simp
 rcases h.row.2 with ⟨rfl,hz⟩ | ⟨g,cap,cur,rfl,hb,hg,hnc,hcm,r⟩
 ·exact ⟨none,0,by rw [hlen,hz],by omega,by omega,.inl (by rw [List.eq_nil_of_length_eq_zero hz];rfl)⟩
 ·refine ⟨_,cap,by rw [hlen],by rw [hlen];exact hnc,by unfold maxLen at hcm;omega,.inr ⟨g,0,rfl,(Array.getElem?_eq_some_iff.1 hg).1,fun k hk=> ?_⟩⟩
  rw [hlen] at hk
  have hp:=UN (f:=fun q:Z0 × Value=>Value.int .i64 q.1.1) (g:=fun q:Z0 × Value=>q.2) qs k hk
  have hat:ZS (qs.map (·.1)) k=qs[k].1:=by unfold ZS;simp [List.getD,hk]
  rw [Nat.zero_add,hat]
  exact ⟨(World.ownsRow.cellAt h' (k*2) (by omega)).trans hp.1,qs[k].2,(World.ownsRow.cellAt h' (k*2+1) (by omega)).trans hp.2,(h.paces _ (List.getElem_mem hk)).paces⟩
theorem OwnHall.push {n₀:Nat} {w w1:World} {v v' pv:Value} {qs:List (Z0 × Value)} {rb:Int} {ps:List Z5} {o:Obj} (h:OwnHall n₀ w v qs) (hp:PacesAt n₀ w pv ps)
  (hoff:∀ b,pv.ownBlock=some b->v.ownBlock ≠ some b) (hap:∀ q ∈ qs,∀ b,q.2.ownBlock=some b->pv.ownBlock ≠ some b)
  (hown:w1.ownsRow n₀ 116 2 v' (qs.length+1) (PO qs++[.int .i64 rb,pv])) (hg:(w.alloc o).grownBy w1 v.ownBlock) (hat:v'.ownBlock=v.ownBlock\/v'.ownBlock=some (w.alloc o).heap.size) :
  OwnHall n₀ w1 v' (qs++[((rb,ps),pv)]):=by
 have hk:∀ k,k<w.heap.size->v.ownBlock ≠ some k->w1.heap[k]?=w.heap[k]?:=fun k hk hn=>(hg.block k (by simp;omega) (fun e=>hn e.symm)).trans (Below.heap_alloc w o k hk)
 have hv':∀ k,k<w.heap.size->v'.ownBlock=some k->v.ownBlock=some k:=fun k hk e=>by
  rcases hat with e' | e'
  ·rw [<-e'];exact e
  ·rw [e'] at e;simp at e;omega
 refine ⟨?_,fun q hq=> ?_,fun q hq b e=> ?_,?_⟩
 ·simpa [PO] using hown
 ·rcases List.mem_append.1 hq with hq | hq
  ·exact XX (h.paces q hq) (fun k e=>hk k (h.lt (.inr ⟨q,hq,e⟩)).2 (h.off q hq k e))
  ·obtain rfl:q=((rb,ps),pv):=by simpa using hq
   exact XX hp (fun k e=>hk k (hp.lt e).2 (hoff k e))
 ·rcases List.mem_append.1 hq with hq | hq
  ·exact fun e'=>h.off q hq b e (hv' b (h.lt (.inr ⟨q,hq,e⟩)).2 e')
  ·obtain rfl:q=((rb,ps),pv):=by simpa using hq
   exact fun e'=>hoff b e (hv' b (hp.lt e).2 e')
 ·rw [List.map_append,List.pairwise_append]
  refine ⟨h.apart,by simp,fun x hx y hy b e=> ?_⟩
  obtain ⟨q,hq,rfl⟩:=List.mem_map.1 hx
  obtain rfl:y=pv:=by simpa using hy
  exact hap q hq b e
theorem GY:(Tryz.prog.info? 188).map (fun i=>(i.zero,i.size,i.bytes))=some (some (.agg #[.int .i64 0,.int .i64 0]),2,16):=by kernel_rfl
theorem N1:(Tryz.prog.info? 116).map (fun i=>(i.zero,i.size,i.bytes))=some (some (.agg #[.int .i64 0,.slice none 0 0]),2,32):=by kernel_rfl
theorem OwnHall.shape {n₀:Nat} {w:World} {v:Value} {qs:List (Z0 × Value)} (h:OwnHall n₀ w v qs):∃ a cap,v= .slice a qs.length cap:=by
 rcases h.row.2 with ⟨rfl,hz⟩ | ⟨g,cap,cur,rfl,_⟩
 ·exact ⟨none,0,by rw [hz]⟩
 ·exact ⟨_,cap,rfl⟩
theorem PacesAt.shape {n₀:Nat} {w:World} {v:Value} {ps:List Z5} (h:PacesAt n₀ w v ps):∃ a cap,v= .slice a ps.length cap:=by
 rcases h.2 with ⟨rfl,hz⟩ | ⟨g,cap,cur,rfl,_⟩
 ·exact ⟨none,0,by rw [hz]⟩
 ·exact ⟨_,cap,rfl⟩
theorem PacesAt.mono {n₀ n₁:Nat} {w:World} {v:Value} {ps:List Z5} (h:PacesAt n₀ w v ps) (hn:n₁<=n₀):PacesAt n₁ w v ps:=UK h hn
def OZ (u v:Value):Prop:= ∀ b,u.ownBlock=some b->v.ownBlock ≠ some b
def Qm (u v:Value) (qs:List (Z0 × Value)):Prop:=OZ u v/\ ∀ q ∈ qs,OZ u q.2
structure FullSmy (n₀:Nat) (w:World) (v0 v1 v2 v3 v4:Value) (m:Z4) (qs:List (Z0 × Value)):Prop where
 hall:OwnHall n₀ w v0 qs
 rooms:qs.map (·.1)=m.rooms
 guilds:GuildsAt n₀ w v1 m.guilds
 smiths:SmithsAt n₀ w v2 m.smiths
 desks:DesksAt n₀ w v3 m.desks
 paces:NumsAt n₀ w v4 m.paces
 h1:Qm v1 v0 qs
 h2:Qm v2 v0 qs
 h3:Qm v3 v0 qs
 h4:Qm v4 v0 qs
 a12:OZ v1 v2
 a13:OZ v1 v3
 a14:OZ v1 v4
 a23:OZ v2 v3
 a24:OZ v2 v4
 a34:OZ v3 v4
theorem FullSmy.smy {n₀:Nat} {w:World} {v0 v1 v2 v3 v4:Value} {m:Z4} {qs:List (Z0 × Value)} (h:FullSmy n₀ w v0 v1 v2 v3 v4 m qs):Smy w v0 v1 v2 v3 v4 m:=
 ⟨by rw [<-h.rooms];exact h.hall.rooms,h.guilds.list,h.smiths.list,h.desks.list,h.paces.list⟩
theorem OwnHall.set_old {n₀:Nat} {w:World} {v:Value} {qs:List (Z0 × Value)} (h:OwnHall n₀ w v qs) (g o:Nat) (u:Value) (hg:g<n₀):OwnHall n₀ (w.setCell ⟨g,o,none⟩ u) v qs:=
 h.same fun k h0 hk=>heap_setCell_other w _ k u (by show k ≠ g;omega)
theorem FullSmy.below {n₀:Nat} {w w':World} {v0 v1 v2 v3 v4:Value} {m:Z4} {qs:List (Z0 × Value)} (h:FullSmy n₀ w v0 v1 v2 v3 v4 m qs) (hb:Below w.heap.size w w'):FullSmy n₀ w' v0 v1 v2 v3 v4 m qs:=
 ⟨h.hall.later hb,h.rooms,RecAt.later h.guilds hb,RecAt.later h.smiths hb,RecAt.later h.desks hb,RecAt.later h.paces hb,h.h1,h.h2,h.h3,h.h4,h.a12,h.a13,h.a14,h.a23,h.a24,h.a34⟩
theorem FullSmy.set {n₀:Nat} {w:World} {v0 v1 v2 v3 v4:Value} {m:Z4} {qs:List (Z0 × Value)} (h:FullSmy n₀ w v0 v1 v2 v3 v4 m qs) (g o:Nat) (u:Value) (hg:g<n₀):FullSmy n₀ (w.setCell ⟨g,o,none⟩ u) v0 v1 v2 v3 v4 m qs:=
 ⟨h.hall.set_old g o u hg,h.rooms,RecAt.set_old h.guilds g o u hg,RecAt.set_old h.smiths g o u hg,RecAt.set_old h.desks g o u hg,RecAt.set_old h.paces g o u hg,h.h1,h.h2,h.h3,h.h4,h.a12,h.a13,h.a14,h.a23,h.a24,h.a34⟩
theorem FullSmy.mono {n₀ n₁:Nat} {w:World} {v0 v1 v2 v3 v4:Value} {m:Z4} {qs:List (Z0 × Value)} (h:FullSmy n₀ w v0 v1 v2 v3 v4 m qs) (hn:n₁<=n₀):FullSmy n₁ w v0 v1 v2 v3 v4 m qs:=
 ⟨h.hall.mono hn,h.rooms,RecAt.mono h.guilds hn,RecAt.mono h.smiths hn,RecAt.mono h.desks hn,RecAt.mono h.paces hn,h.h1,h.h2,h.h3,h.h4,h.a12,h.a13,h.a14,h.a23,h.a24,h.a34⟩
end Go.Proofs.YthbbahagpmdooaaGreat
