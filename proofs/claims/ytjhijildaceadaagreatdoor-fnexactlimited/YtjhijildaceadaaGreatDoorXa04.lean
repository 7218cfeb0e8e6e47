/- Part 4 of what the proof rests on. No condition but those that a theorem names. -/
import Derived.Test.YtjhijildaceadaaGreatDoorXa02
import Derived.Test.YtjhijildaceadaaGreatDoorXa03
import Derived.Deep.Fields
import Derived.Deep.Slices
import Derived.Deep.RegionWith
set_option maxHeartbeats 8000000
set_option maxRecDepth 100000
namespace Go.Proofs.YtjhijildaceadaaGreatDoor
open Go.ChangeShapes Go.WideShapes Go.ChangeAt Go.RowKit Go.Deep
set_option linter.unusedVariables false
section
variable {α : Type} {k : Nat} {enc : α → List Value} {H : Type} {en : TypeId × Value → H} {P : Program} {w : World} {base : Nat} {spare : Nat → Bool} {held : Bool}
theorem LB {t:TypeId} {fs:Array Field} {fuel:Nat} {cs:List Value} {x:DataW H × List MemPlace} (hs:P.underlying t=some (.struct fs)) (hone:oneCellFields P fs=true) (hC:P.cellsOf t=k) (hfs:fs.size=k)
  (h:DataW.trod en P w base spare held fuel t cs=some x):cs.length=k/\ ∀ (i:Nat) (f:Field),fs[i]?=some f-> ∃ u n y,cs[i]?=some u/\DataW.trod en P w base spare held n f.type [u]=some y:=by
 obtain ⟨xs,n,_,_,hl,hxl,hf⟩:=DataW.trod_struct hs h
 rw [hC] at hl
 refine ⟨hl,fun i f hi=> ?_⟩
 have hlt:i<fs.size:=(Array.getElem?_eq_some_iff.1 hi).1
 obtain ⟨ho,hc⟩:=hone_of hone i f hi
 have g:=hf i f hi
 rw [ho,hc] at g
 have hd:(cs.drop i).take 1=[cs[i]'(by omega)]:=by rw [List.drop_eq_getElem_cons (by omega)];rfl
 rw [hd,List.getElem?_eq_getElem (by omega)] at g
 exact ⟨cs[i]'(by omega),n,_,List.getElem?_eq_getElem _,g⟩
theorem Qj [Inhabited α] {t e:TypeId} {fs:Array Field} {fuel:Nat} {v:Value} {x:DataW H × List MemPlace}
  (ht:P.underlying t=some (.slice e)) (he:P.underlying e=some (.struct fs)) (ce:P.cellsOf e=k) (hfs:fs.size=k) (hone:oneCellFields P fs=true) (h0:0<k)
  (cl:∀ cs:List Value,cs.length=k->(∀ (i:Nat) (f:Field),fs[i]?=some f-> ∃ u n y,cs[i]?=some u/\DataW.trod en P w base spare held n f.type [u]=some y)-> ∃ x:α,enc x=cs)
  (h:DataW.trod en P w base spare held fuel t [v]=some x):∃ ps:List α,IsRec k enc w v ps:=by
 rcases open_slice ht h with ⟨hv,_⟩ | ⟨a,len,cap,m,n,D,Pl,hv,_,hl,hm,hmm,_,hx⟩
 ·cases hv
  exact ⟨[],none,0,rfl,Nat.le_refl _,by omega,.inl rfl⟩
 ·cases hv
  have hlm:len<=m:=by rw [hmm];split<;>omega
  have each:∀ i,i<len-> ∃ q:α,(enc q).length=k/\ ∀ j,j<k->w.cell? (a.add (i*k+j))=(enc q)[j]?:=by
   intro i hi
   obtain ⟨cs,h1,h2⟩:=hx i (by omega)
   rw [ce] at h1
   obtain ⟨_,hlen,hcell⟩:=World.cells?_some h1
   obtain ⟨h3,h4⟩:=LB he hone ce hfs h2
   obtain ⟨q,hq⟩:=cl cs h3 h4
   refine ⟨q,by rw [hq];exact h3,fun j hj=> ?_⟩
   have:=hcell j hj
   rw [add_add] at this
   rw [hq];exact this
  obtain ⟨F,hF⟩:=choose_lt each
  have hlen:((List.range len).map F).length=len:=by simp
  refine ⟨(List.range len).map F,some a,cap,by rw [hlen],by rw [hlen];exact hl,by unfold maxLen at hm;omega,?_⟩
  by_cases hz:len=0
  ·exact .inl (by simp [hz])
  ·obtain ⟨hk0,hc0⟩:=hF 0 (by omega)
   have h00:=hc0 0 h0
   rw [List.getElem?_eq_getElem (by omega)] at h00
   have sp:=World.cell?_spot h00
   have hlt:=World.block_lt_of_cell? _ _ h00
   obtain ⟨b,off,spot⟩:=a
   have hspot:spot=none:=by simpa [Addr.add] using sp
   subst hspot
   refine .inr ⟨b,off,rfl,by simpa [Addr.add] using hlt,fun j hj i u hu=> ?_⟩
   rw [hlen] at hj
   have hat:Z8 ((List.range len).map F) j=F j:=by unfold Z8;simp [List.getD,hj]
   rw [hat] at hu
   obtain ⟨hk1,hc1⟩:=hF j hj
   have hi:i<k:=by
    rcases Nat.lt_or_ge i k with h | h
    ·exact h
    ·rw [List.getElem?_eq_none (by omega)] at hu;cases hu
   have:=hc1 i hi
   rw [hu,add_plain,<-Nat.add_assoc] at this
   exact this
end
end Go.Proofs.YtjhijildaceadaaGreatDoor
namespace Go.Proofs.YtjhijildaceadaaGreatDoor
open Go.ChangeShapes Go.WideShapes Go.ChangeAt Go.RowKit Go.Sort Go.Deep
set_option linter.unusedVariables false
def Vq (z:Int):List Value:=[.int .i64 z]
theorem X8 (z:Int):(Vq z).length=1:=rfl
abbrev Sy (w:World) (v:Value) (zs:List Int):Prop:=IsRec 1 Vq w v zs
abbrev NumsAt (n₀:Nat) (w:World) (v:Value) (zs:List Int):Prop:=RecAt 2 1 Vq n₀ w v zs
theorem B0:(Tryz.prog.info? 2).map (fun i=>(i.zero,i.size,i.bytes))=some (some (.int .i64 0),1,8):=by kernel_rfl
theorem NumsAt.list {n₀:Nat} {w:World} {v:Value} {zs:List Int} (h:NumsAt n₀ w v zs):Sy w v zs:=RecAt.recs X8 (by omega) h
theorem Q8 {w:World} {b off:Nat} {zs:List Int} (h:∀ j,j<zs.length-> ∀ i u,(Vq (Z8 zs j))[i]?=some u->w.cell? ⟨b,off+j*1+i,none⟩=some u) {j:Nat} (hj:j<zs.length) :
  w.cell? ⟨b,off+j,none⟩=some (.int .i64 (Z8 zs j)):=by
 have:=h j hj 0 _ rfl
 simpa using this
theorem LD (a:Option Addr) (n cap:Nat) (left:Int) (hn:n<=9223372036854775807) (h0:0<=left) (h1:left<=1048576) (w:World) :
  Calls Tryz.prog 114 #[.slice a n cap,.int .i64 left] w fun e w'=>e= .returned (.int .i64 (szV n left))/\w'=w:=by
 by_cases h:left-n<0
 all_goals
  go_enter Tryz.func114,Tryz.ntmps114
  go_wp2
  go_ret
  exact ⟨ZS (by first | exact (TA (by omega)).symm | exact (TB (by omega)).symm),rfl⟩
theorem Rl {w:World} {v:Value} {zs:List Int} (h:Sy w v zs) (hs:zs.length<=1048576) :
  Calls Tryz.prog 119 #[v] w fun e w'=> ∃ v',e= .returned v'/\NumsAt w.heap.size w' v' zs/\Below w.heap.size w w':=by
 obtain ⟨a,cap,rfl,hc,hm,hr⟩:=h
 have Hr:=Z9 hr
 clear hr
 obtain ⟨i0,hi,hz0,hz1,hz2⟩:=info_parts B0
 go_enter Tryz.func119,Tryz.ntmps119
 go_wp2_with (at_make;refine wpList_make_full _ rfl _ _ 30 rfl w.heap.size 2 i0 (.int .i64 0) 1 Tryz.underlying30 hi hz0 hz1 _ _ _ _ zs.length rfl rfl rfl rfl (by rw [hz2];omega) (by unfold maxLen;omega) (Nat.le_refl _) ?_;intro w0 hown hgrow)
 have Hown:Hid (NumsAt w.heap.size w0 (.slice (some ⟨w.heap.size,0,none⟩) zs.length zs.length) (Ws zs 0 0)):=Z9 (by
  rw [Sq X8 (by omega) (0:Int) (Value.int .i64 0).cells rfl zs.length] at hown
  rw [TI]
  show w0.ownsRow _ _ _ _ (List.replicate zs.length _).length _
  rw [List.length_replicate]
  exact hown)
 have Hgr:=Z9 hgrow
 clear hown hgrow
 go_loopw [4] (fun i wr=> ∃ k:Nat,k<=zs.length/\i= .int .i64 k/\NumsAt w.heap.size wr (.slice (some ⟨w.heap.size,0,none⟩) zs.length zs.length) (Ws zs 0 k)/\Below w.heap.size w wr) (fun i _=>zs.length-(intOf i).toNat)
 case atStart=>exact ⟨0,Nat.zero_le _,rfl,uh Hown,(Below.refl _ _).grown (uh Hgr) (Nat.le_refl _) (fun k e=>by cases e)⟩
 case round=>
  obtain ⟨k,hk,rfl,hown,hb⟩:=hrel
  have Hb:=Z9 hb
  by_cases hlt:k<zs.length
  ·rcases uh Hr with h0 | ⟨b,off,rfl,hbw,hcl⟩
   ·rw [h0] at hlt;simp at hlt
   have c0:=Q8 hcl hlt
   rw [<-hb.cell (p:=⟨b,off+k,none⟩) hbw] at c0
   have HS:=Z9 (Sk (z:=(0:Int)) hlt)
   have hfl:=Sj (z:=(0:Int)) hk
   obtain ⟨g,hg,_,_,hcells,hfz⟩:=RecAt.view X8 (by omega) hown hfl.symm (by omega)
   cases hg
   have o0:=hcells k (by omega) 0 _ rfl
   have f0:=hfz (k*1)
   simp only [Nat.mul_one,Nat.add_zero] at o0 f0
   have Hp2:=Z9 (RecAt.put X8 (by omega) hown hfl.symm (j:=k) (by omega) (Z8 zs k))
   generalize Z8 zs k=z at *
   clear hcl hb hown hcells hfz hfl
   go_wp2_with fail
   go_roundw
   case rel=>exact ⟨k+1,by omega,by go_num,by have h9:=(uh Hp2).1;rw [uh HS] at h9;simpa [Re,Vq] using h9,(uh Hb).trans (XJ (by have h9:=(uh Hp2).2;simpa [Re,Vq] using h9) (Nat.le_refl _) (by have:=(uh Hb).size;omega))⟩
   case measure=>simp [intOf];omega
  ·obtain rfl:k=zs.length:=by omega
   rw [Si] at hown
   go_wp2_with fail
   go_ret
   exact ⟨_,rfl,hown,hb⟩
theorem Gb {w:World} {v u:Value} {zs:List Int} (hv:Sy w v zs) (hu:Sy w u zs) :
  Calls Tryz.prog 124 #[v,u] w fun e w'=>e= .returned (.bool true)/\Below w.heap.size w w':=by
 obtain ⟨a,cap,rfl,hc,hm,hr⟩:=hv
 obtain ⟨a',cap',rfl,hc',hm',hr'⟩:=hu
 have Hr:=Z9 hr
 have Hr':=Z9 hr'
 clear hr hr'
 go_enter Tryz.func124,Tryz.ntmps124
 go_wp2_with fail
 go_loopw [5] (fun i wr=> ∃ k:Nat,k<=zs.length/\i= .int .i64 k/\Below w.heap.size w wr) (fun i _=>zs.length-(intOf i).toNat)
 case atStart=>exact ⟨0,Nat.zero_le _,rfl,Below.refl _ _⟩
 case round=>
  obtain ⟨k,hk,rfl,hb⟩:=hrel
  have Hb:=Z9 hb
  by_cases hlt:k<zs.length
  ·rcases uh Hr with h0 | ⟨b,off,rfl,hbw,hcl⟩
   ·rw [h0] at hlt;simp at hlt
   rcases uh Hr' with h0 | ⟨b',off',rfl,hbw',hcl'⟩
   ·rw [h0] at hlt;simp at hlt
   have c0:=Q8 hcl hlt
   have d0:=Q8 hcl' hlt
   rw [<-hb.cell (p:=⟨b,off+k,none⟩) hbw] at c0
   rw [<-hb.cell (p:=⟨b',off'+k,none⟩) hbw'] at d0
   generalize Z8 zs k=z at *
   clear hcl hcl' hb
   go_wp2_with fail
   go_quiet (fail)
   go_wp2_with fail
   go_roundw
   case rel=>exact ⟨k+1,by omega,by go_num,⟨(uh Hb).os,(uh Hb).tape,(uh Hb).output,(uh Hb).size,(uh Hb).block⟩⟩
   case measure=>simp [intOf];omega
  ·go_wp2_with fail
   go_ret
   exact ⟨rfl,hb⟩
def LI (W:World) (a:Addr) (i:Nat) (q:Int):Prop:=W.cell? (a.add i)=some (.int .i64 q)
theorem EB {H:Type} {enc:TypeId × Value->H} {W:World} {spare:Nat->Bool} {held:Bool} {n:Nat} {v:Value} {y:DataW H × List MemPlace}
  (h:DataW.trod enc Tryz.prog W 0 spare held n 30 [v]=some y):∃ zs,Sy W v zs:=by
 rcases open_slice Tryz.underlying30 h with ⟨hv,_⟩ | ⟨a,len,cap,m,n',D,Pl,hv,_,hl,hm,hmm,_,hx⟩
 ·cases hv
  exact ⟨[],none,0,rfl,Nat.le_refl _,by omega,.inl rfl⟩
 ·cases hv
  have hlm:len<=m:=by rw [hmm];split<;>omega
  have ce:Tryz.prog.cellsOf 2=1:=by kernel_rfl
  have each:∀ i,i<len-> ∃ q:Int,LI W a i q:=by
   intro i hi
   obtain ⟨cs,h1,h2⟩:=hx i (by omega)
   rw [ce] at h1
   obtain ⟨_,hlen,hcell⟩:=World.cells?_some h1
   obtain ⟨c,rfl⟩:∃ c,cs=[c]:=by
    match cs,hlen with
    | [c],_=>exact ⟨c,rfl⟩
   obtain ⟨z,hz,_⟩:=DataW.trod_int Tryz.underlying2 h2
   cases hz
   have:=hcell 0 (by omega)
   exact ⟨z,by simpa [LI,Addr.add] using this⟩
  obtain ⟨F,hF⟩:=choose_lt each
  have hlen:((List.range len).map F).length=len:=by simp
  refine ⟨(List.range len).map F,some a,cap,by rw [hlen],by rw [hlen];exact hl,by unfold maxLen at hm;omega,?_⟩
  by_cases hz:len=0
  ·exact .inl (by simp [hz])
  ·have h0:W.cell? (a.add 0)=some (.int .i64 (F 0)):=by simpa [LI] using hF 0 (by omega)
   have sp:=World.cell?_spot h0
   have hlt:=World.block_lt_of_cell? _ _ h0
   obtain ⟨b,off,spot⟩:=a
   have hspot:spot=none:=by simpa [Addr.add] using sp
   subst hspot
   refine .inr ⟨b,off,rfl,by simpa [Addr.add] using hlt,fun j hj i u hu=> ?_⟩
   rw [hlen] at hj
   have hat:Z8 ((List.range len).map F) j=F j:=by unfold Z8;simp [List.getD,hj]
   rw [hat] at hu
   have hi:i=0:=by
    rcases Nat.eq_zero_or_pos i with h | h
    ·exact h
    ·rw [List.getElem?_eq_none (by unfold Vq;simp;omega)] at hu;cases hu
   subst hi
   have hj2:=hF j hj
   unfold LI at hj2
   rw [add_plain] at hj2
   simp only [Vq,List.getElem?_cons_zero,Option.some.injEq] at hu
   subst hu
   simpa using hj2
open Go.ChangeShapes Go.WideShapes Go.ChangeAt Go.RowKit Go.Sort
def Blk (w:World) (R:Nat) (t:TypeId) (cs:Array Value):Prop:=w.heap[R]?=some (.cells cs t (0,0))
section
variable {w w' : World} {R B : Nat} {t : TypeId} {cs : Array Value}
theorem Blk.lt (h:Blk w R t cs):R<w.heap.size:=(Array.getElem?_eq_some_iff.1 h).1
theorem Blk.cell (h:Blk w R t cs) {i:Nat} {v:Value} (hi:cs[i]?=some v):w.cell? ⟨R,i,none⟩=some v:=by simp [World.cell?,show w.heap[R]?=_ from h,hi]
theorem Blk.free (h:Blk w R t cs) (i:Nat):w.frozen? ⟨R,i,none⟩=false:=frozen_of_row w R i cs t h
theorem Blk.new (w:World) (t:TypeId) (cs:Array Value):Blk (w.alloc (.cells cs t)) w.heap.size t cs:=by show (w.heap.push _)[w.heap.size]?=_;simp
theorem Blk.same (h:Blk w R t cs) (hs:w'.heap[R]?=w.heap[R]?):Blk w' R t cs:=hs.trans h
theorem Blk.below (h:Blk w R t cs) (hb:Below B w w') (hR:R<B):Blk w' R t cs:=h.same (hb.block R hR)
theorem Blk.alloc (h:Blk w R t cs) (o:Obj):Blk (w.alloc o) R t cs:=h.below ((Below.refl w.heap.size w).alloc (Nat.le_refl _) o) h.lt
theorem Blk.set (h:Blk w R t cs) (i:Nat) (v:Value):Blk (w.setCell ⟨R,i,none⟩ v) R t (cs.setIfInBounds i v):=heap_setCell_same w R i cs t v h
theorem Blk.other (h:Blk w R t cs) {a:Addr} (ha:R ≠ a.block) (v:Value):Blk (w.setCell a v) R t cs:=h.same (heap_setCell_other w a R v ha)
theorem Blk.drewN (h:Blk w R t cs) (n:Nat):Blk (w.drewN n) R t cs:=h
end
theorem Zy (w:World) {t:TypeId} {cs:Array Value} {i:Nat} {v:Value} (hi:cs[i]?=some v):(w.alloc (.cells cs t)).cell? ⟨w.heap.size,i,none⟩=some v:=(Blk.new w t cs).cell hi
theorem Blk.c2 {w:World} {R:Nat} {t:TypeId} {v0 v1:Value} (h:Blk w R t #[v0,v1]):w.cell? ⟨R,0,none⟩=some v0/\w.cell? ⟨R,1,none⟩=some v1:=⟨h.cell rfl,h.cell rfl⟩
theorem Blk.c3 {w:World} {R:Nat} {t:TypeId} {v0 v1 v2:Value} (h:Blk w R t #[v0,v1,v2]):w.cell? ⟨R,0,none⟩=some v0/\w.cell? ⟨R,1,none⟩=some v1/\w.cell? ⟨R,2,none⟩=some v2:=⟨h.cell rfl,h.cell rfl,h.cell rfl⟩
theorem Blk.c4 {w:World} {R:Nat} {t:TypeId} {v0 v1 v2 v3:Value} (h:Blk w R t #[v0,v1,v2,v3]):w.cell? ⟨R,0,none⟩=some v0/\w.cell? ⟨R,1,none⟩=some v1/\w.cell? ⟨R,2,none⟩=some v2/\w.cell? ⟨R,3,none⟩=some v3:=⟨h.cell rfl,h.cell rfl,h.cell rfl,h.cell rfl⟩
theorem Blk.c6 {w:World} {R:Nat} {t:TypeId} {v0 v1 v2 v3 v4 v5:Value} (h:Blk w R t #[v0,v1,v2,v3,v4,v5]):w.cell? ⟨R,0,none⟩=some v0/\w.cell? ⟨R,1,none⟩=some v1/\w.cell? ⟨R,2,none⟩=some v2/\w.cell? ⟨R,3,none⟩=some v3/\w.cell? ⟨R,4,none⟩=some v4/\w.cell? ⟨R,5,none⟩=some v5:=⟨h.cell rfl,h.cell rfl,h.cell rfl,h.cell rfl,h.cell rfl,h.cell rfl⟩
theorem Blk.c11 {w:World} {R:Nat} {t:TypeId} {v0 v1 v2 v3 v4 v5 v6 v7 v8 v9 v10:Value} (h:Blk w R t #[v0,v1,v2,v3,v4,v5,v6,v7,v8,v9,v10]):w.cell? ⟨R,0,none⟩=some v0/\w.cell? ⟨R,1,none⟩=some v1/\w.cell? ⟨R,2,none⟩=some v2/\w.cell? ⟨R,3,none⟩=some v3/\w.cell? ⟨R,4,none⟩=some v4/\w.cell? ⟨R,5,none⟩=some v5/\w.cell? ⟨R,6,none⟩=some v6/\w.cell? ⟨R,7,none⟩=some v7/\w.cell? ⟨R,8,none⟩=some v8/\w.cell? ⟨R,9,none⟩=some v9/\w.cell? ⟨R,10,none⟩=some v10:=⟨h.cell rfl,h.cell rfl,h.cell rfl,h.cell rfl,h.cell rfl,h.cell rfl,h.cell rfl,h.cell rfl,h.cell rfl,h.cell rfl,h.cell rfl⟩
theorem bl {w w':World} {R:Nat} {t:TypeId} {cs:Array Value} (h:Hid (Blk w R t cs)) (hb:Below w.heap.size w w'):Hid (Blk w' R t cs):=Z9 ((uh h).below hb (uh h).lt)
theorem bt {w a b:World} (h:Hid (Below w.heap.size w a)) (hb:Below a.heap.size a b):Hid (Below w.heap.size w b):=Z9 ((uh h).trans (hb.mono (uh h).size))
theorem Blk.f3 {w:World} {R:Nat} {t:TypeId} {cs:Array Value} (h:Blk w R t cs):w.frozen? ⟨R,0,none⟩=false/\w.frozen? ⟨R,1,none⟩=false/\w.frozen? ⟨R,2,none⟩=false:=⟨h.free 0,h.free 1,h.free 2⟩
theorem Blk.f4 {w:World} {R:Nat} {t:TypeId} {cs:Array Value} (h:Blk w R t cs):w.frozen? ⟨R,0,none⟩=false/\w.frozen? ⟨R,1,none⟩=false/\w.frozen? ⟨R,2,none⟩=false/\w.frozen? ⟨R,3,none⟩=false:=⟨h.free 0,h.free 1,h.free 2,h.free 3⟩
theorem Blk.f6 {w:World} {R:Nat} {t:TypeId} {cs:Array Value} (h:Blk w R t cs):w.frozen? ⟨R,0,none⟩=false/\w.frozen? ⟨R,1,none⟩=false/\w.frozen? ⟨R,2,none⟩=false/\w.frozen? ⟨R,3,none⟩=false/\w.frozen? ⟨R,4,none⟩=false/\w.frozen? ⟨R,5,none⟩=false:=⟨h.free 0,h.free 1,h.free 2,h.free 3,h.free 4,h.free 5⟩
theorem Blk.f11 {w:World} {R:Nat} {t:TypeId} {cs:Array Value} (h:Blk w R t cs):w.frozen? ⟨R,0,none⟩=false/\w.frozen? ⟨R,1,none⟩=false/\w.frozen? ⟨R,2,none⟩=false/\w.frozen? ⟨R,3,none⟩=false/\w.frozen? ⟨R,4,none⟩=false/\w.frozen? ⟨R,5,none⟩=false/\w.frozen? ⟨R,6,none⟩=false/\w.frozen? ⟨R,7,none⟩=false/\w.frozen? ⟨R,8,none⟩=false/\w.frozen? ⟨R,9,none⟩=false/\w.frozen? ⟨R,10,none⟩=false:=⟨h.free 0,h.free 1,h.free 2,h.free 3,h.free 4,h.free 5,h.free 6,h.free 7,h.free 8,h.free 9,h.free 10⟩
theorem Xu (w:World) (t:TypeId) (cs:Array Value) (u:TypeId) (ds:Array Value):∃ W,(w.alloc (.cells cs t)).alloc (.cells ds u)=W/\Hid (Blk W w.heap.size t cs)/\Hid (Blk W (w.heap.size+1) u ds)/\Hid (Below w.heap.size w W):=by
 refine ⟨_,rfl,Z9 ((Blk.new w _ _).alloc _),Z9 ?_,Z9 (((Below.refl _ _).alloc (Nat.le_refl _) _).alloc (by simp) _)⟩
 have k:=Blk.new (w.alloc (.cells cs t)) u ds
 rw [World.size_alloc] at k
 exact k
theorem BR (w:World) (t:TypeId) (cs:Array Value) (u:TypeId) (ds:Array Value) (v:TypeId) (es:Array Value):∃ W,((w.alloc (.cells cs t)).alloc (.cells ds u)).alloc (.cells es v)=W/\Hid (Blk W w.heap.size t cs)/\Hid (Blk W (w.heap.size+1) u ds)/\Hid (Blk W (w.heap.size+1+1) v es)/\Hid (Below w.heap.size w W):=by
 refine ⟨_,rfl,Z9 (((Blk.new w _ _).alloc _).alloc _),Z9 ?_,Z9 ?_,Z9 ((((Below.refl _ _).alloc (Nat.le_refl _) _).alloc (by simp) _).alloc (by simp;omega) _)⟩
 ·have k:=(Blk.new (w.alloc (.cells cs t)) u ds).alloc (.cells es v)
  rw [World.size_alloc] at k
  exact k
 ·have k:=Blk.new ((w.alloc (.cells cs t)).alloc (.cells ds u)) v es
  rw [World.size_alloc,World.size_alloc] at k
  exact k
theorem Jz (w:World) (t:TypeId) (cs:Array Value):∃ W,w.alloc (.cells cs t)=W/\Hid (Below w.heap.size w W)/\Hid (Blk W w.heap.size t cs):=⟨_,rfl,Z9 ((Below.refl _ _).alloc (Nat.le_refl _) _),Z9 (Blk.new _ _ _)⟩
theorem VD (w:World) (t:TypeId) (cs:Array Value):Hid (Below w.heap.size w (w.alloc (.cells cs t)))/\Hid (Blk (w.alloc (.cells cs t)) w.heap.size t cs):=⟨Z9 ((Below.refl _ _).alloc (Nat.le_refl _) _),Z9 (Blk.new _ _ _)⟩
theorem WH (w:World) (t:TypeId) (cs:Array Value):∃ W,w.alloc (.cells cs t)=W/\Below w.heap.size w W/\Hid (Blk W w.heap.size t cs):=⟨_,rfl,(Below.refl _ _).alloc (Nat.le_refl _) _,Z9 (Blk.new _ _ _)⟩
end Go.Proofs.YtjhijildaceadaaGreatDoor
namespace Go.Proofs.YtjhijildaceadaaGreatDoor
open Go.ChangeShapes Go.WideShapes Go.ChangeAt Go.RowKit Go.Sort
set_option linter.unusedVariables false
structure Z4 where
 rooms:List Z3
 guilds:List ZH
 smiths:List Z2
 desks:List YG
 paces:List Int
 now:Int
structure Smy (w:World) (v0 v1 v2 v3 v4:Value) (m:Z4):Prop where
 rooms:IsRooms w v0 m.rooms
 guilds:Y5 w v1 m.guilds
 smiths:Ym w v2 m.smiths
 desks:Xx w v3 m.desks
 paces:Sy w v4 m.paces
theorem Smy.below {w w':World} {v0 v1 v2 v3 v4:Value} {m:Z4} (h:Smy w v0 v1 v2 v3 v4 m) (hb:Below w.heap.size w w'):Smy w' v0 v1 v2 v3 v4 m:=
 ⟨h.rooms.below hb,h.guilds.below hb,h.smiths.below hb,h.desks.below hb,h.paces.below hb⟩
theorem Smy.alloc {w:World} {v0 v1 v2 v3 v4:Value} {m:Z4} (h:Smy w v0 v1 v2 v3 v4 m) (o:Obj):Smy (w.alloc o) v0 v1 v2 v3 v4 m:=h.below ((Below.refl _ _).alloc (Nat.le_refl _) _)
structure YT (m:Z4):Prop where
 rooms:QB m.rooms
 guilds:m.guilds.length<=1048576
 smiths:m.smiths.length<=1048576
 desks:m.desks.length<=1048576
 paces:m.paces.length<=1048576
theorem RoomsFrom.below {n₀:Nat} {w w':World} {v:Value} {rs:List Z3} (h:RoomsFrom n₀ w v rs) (hb:Below w.heap.size w w'):RoomsFrom n₀ w' v rs:=by
 obtain ⟨a,cap,hv,hc,hm,hr⟩:=h
 refine ⟨a,cap,hv,hc,hm,?_⟩
 rcases hr with hr | ⟨b,off,ha,h0,hlt,hcl⟩
 ·exact .inl hr
 ·have hs:=hb.size
  refine .inr ⟨b,off,ha,h0,by omega,fun k hk=> ?_⟩
  obtain ⟨c0,pv,c1,hp,hj⟩:=hcl k hk
  exact ⟨(hb.cell (p:=⟨b,off+k*2,none⟩) hlt).trans c0,pv,(hb.cell (p:=⟨b,off+k*2+1,none⟩) hlt).trans c1,hp.below hb,hj⟩
theorem RoomsFrom.mono {n₀ n₁:Nat} {w:World} {v:Value} {rs:List Z3} (h:RoomsFrom n₀ w v rs) (hn:n₁<=n₀):RoomsFrom n₁ w v rs:=by
 obtain ⟨a,cap,hv,hc,hm,hr⟩:=h
 refine ⟨a,cap,hv,hc,hm,?_⟩
 rcases hr with hr | ⟨b,off,ha,h0,hlt,hcl⟩
 ·exact .inl hr
 ·refine .inr ⟨b,off,ha,by omega,hlt,fun k hk=> ?_⟩
  obtain ⟨c0,pv,c1,hp,hj⟩:=hcl k hk
  exact ⟨c0,pv,c1,hp,fun j e=>by have:=hj j e;omega⟩
theorem RecAt.set_old {α:Type} {t k:Nat} {enc:α->List Value} {n₀:Nat} {w:World} {v:Value} {xs:List α} (h:RecAt t k enc n₀ w v xs) (g o:Nat) (u:Value) (hg:g<n₀):RecAt t k enc n₀ (w.setCell ⟨g,o,none⟩ u) v xs:=
 h.same fun i hi=>heap_setCell_other w _ i u (by have:=(h.lt hi).1;show i ≠ g;omega)
structure OwnSmy (n₀:Nat) (w:World) (v0 v1 v2 v3 v4:Value) (m:Z4):Prop where
 rooms:RoomsFrom n₀ w v0 m.rooms
 guilds:GuildsAt n₀ w v1 m.guilds
 smiths:SmithsAt n₀ w v2 m.smiths
 desks:DesksAt n₀ w v3 m.desks
 paces:NumsAt n₀ w v4 m.paces
theorem OwnSmy.smy {n₀:Nat} {w:World} {v0 v1 v2 v3 v4:Value} {m:Z4} (h:OwnSmy n₀ w v0 v1 v2 v3 v4 m):Smy w v0 v1 v2 v3 v4 m:=⟨h.rooms.rooms,h.guilds.list,h.smiths.list,h.desks.list,h.paces.list⟩
theorem OwnSmy.mono {n₀ n₁:Nat} {w:World} {v0 v1 v2 v3 v4:Value} {m:Z4} (h:OwnSmy n₀ w v0 v1 v2 v3 v4 m) (hn:n₁<=n₀):OwnSmy n₁ w v0 v1 v2 v3 v4 m:=
 ⟨h.rooms.mono hn,RecAt.mono h.guilds hn,RecAt.mono h.smiths hn,RecAt.mono h.desks hn,RecAt.mono h.paces hn⟩
theorem OwnSmy.set {n₀:Nat} {w:World} {v0 v1 v2 v3 v4:Value} {m:Z4} (h:OwnSmy n₀ w v0 v1 v2 v3 v4 m) (g o:Nat) (u:Value) (hg:g<n₀):OwnSmy n₀ (w.setCell ⟨g,o,none⟩ u) v0 v1 v2 v3 v4 m:=
 ⟨h.rooms.set g o u hg,RecAt.set_old h.guilds g o u hg,RecAt.set_old h.smiths g o u hg,RecAt.set_old h.desks g o u hg,RecAt.set_old h.paces g o u hg⟩
abbrev E6:Array Value:=#[.slice none 0 0,.slice none 0 0,.slice none 0 0,.slice none 0 0,.slice none 0 0,.int .i64 0]
abbrev S6 (a0:Option Addr) (p0:Nat) (a1:Option Addr) (p1:Nat) (a2:Option Addr) (p2:Nat) (a3:Option Addr) (p3:Nat) (a4:Option Addr) (p4:Nat) (m:Z4):Array Value:=#[.slice a0 m.rooms.length p0,.slice a1 m.guilds.length p1,.slice a2 m.smiths.length p2,.slice a3 m.desks.length p3,.slice a4 m.paces.length p4,.int .i64 m.now]
theorem Smy.five {w:World} {v0 v1 v2 v3 v4:Value} {m:Z4} (h:Smy w v0 v1 v2 v3 v4 m):∃ a0 p0 a1 p1 a2 p2 a3 p3 a4 p4,v0= .slice a0 m.rooms.length p0/\v1= .slice a1 m.guilds.length p1/\v2= .slice a2 m.smiths.length p2/\v3= .slice a3 m.desks.length p3/\v4= .slice a4 m.paces.length p4/\m.rooms.length<=p0/\p0<=9223372036854775807/\m.guilds.length<=p1/\p1<=9223372036854775807/\m.smiths.length<=p2/\p2<=9223372036854775807/\m.desks.length<=p3/\p3<=9223372036854775807/\m.paces.length<=p4/\p4<=9223372036854775807:=by
 obtain ⟨a0,p0,e0,x0,y0,_⟩:=h.rooms
 obtain ⟨a1,p1,e1,x1,y1,_⟩:=h.guilds
 obtain ⟨a2,p2,e2,x2,y2,_⟩:=h.smiths
 obtain ⟨a3,p3,e3,x3,y3,_⟩:=h.desks
 obtain ⟨a4,p4,e4,x4,y4,_⟩:=h.paces
 exact ⟨a0,p0,a1,p1,a2,p2,a3,p3,a4,p4,e0,e1,e2,e3,e4,x0,y0,x1,y1,x2,y2,x3,y3,x4,y4⟩
end Go.Proofs.YtjhijildaceadaaGreatDoor
