/- Part 10 of what the proof rests on. No condition but those that a theorem names. -/
import Derived.Test.YtgdpaigcmoifbaaGreatXw03
import Derived.Test.YtgdpaigcmoifbaaGreatXw06
import Derived.ChangeKeysEq
import Derived.Laws.StructEq
import Derived.Deep.Fields
import Derived.Deep.Slices
namespace Go.Proofs.YtgdpaigcmoifbaaGreat
open Go.ChangeShapes Go.WideShapes Go.ChangeAt Go.RowKit Go.Sort
set_option linter.unusedVariables false
abbrev E11:Array Value:=#[.int .i64 0,.int .i64 0,.int .i64 0,.int .i64 0,.int .i64 0,.int .i64 0,.int .i64 0,.int .i64 0,.int .i64 0,.int .i64 0,.int .i64 0]
abbrev I11 (a b c d e f g h i j k:Int):Array Value:=#[.int .i64 a,.int .i64 b,.int .i64 c,.int .i64 d,.int .i64 e,.int .i64 f,.int .i64 g,.int .i64 h,.int .i64 i,.int .i64 j,.int .i64 k]
def Blk (w:World) (R:Nat) (t:TypeId) (cs:Array Value):Prop:=w.heap[R]?=some (.cells cs t (0,0))
section
variable {w w' : World} {R B : Nat} {t : TypeId} {cs : Array Value}
theorem Blk.lt (h:Blk w R t cs):R<w.heap.size:=(Array.getElem?_eq_some_iff.1 h).1
theorem Blk.cell (h:Blk w R t cs) {i:Nat} {v:Value} (hi:cs[i]?=some v):w.cell? ⟨R,i,none⟩=some v:=by simp [World.cell?,show w.heap[R]?=_ from h,hi]
theorem Blk.free (h:Blk w R t cs) (i:Nat):w.frozen? ⟨R,i,none⟩=false:=frozen_of_row w R i cs t h
theorem Blk.new (w:World) (t:TypeId) (cs:Array Value):Blk (w.alloc (.cells cs t)) w.heap.size t cs:=by show (w.heap.push _)[w.heap.size]?=_;simp
theorem Blk.same (h:Blk w R t cs) (hs:w'.heap[R]?=w.heap[R]?):Blk w' R t cs:=hs.trans h
theorem Blk.below (h:Blk w R t cs) (hb:Below B w w') (hR:R<B):Blk w' R t cs:=h.same (hb.block R hR)
theorem Blk.alloc (h:Blk w R t cs) (o:Obj):Blk (w.alloc o) R t cs:=h.below ((Z3 w.heap.size w).alloc (Z0 _) o) h.lt
theorem Blk.set (h:Blk w R t cs) (i:Nat) (v:Value):Blk (w.setCell ⟨R,i,none⟩ v) R t (cs.setIfInBounds i v):=heap_setCell_same w R i cs t v h
theorem Blk.other (h:Blk w R t cs) {a:Addr} (ha:R ≠ a.block) (v:Value):Blk (w.setCell a v) R t cs:=h.same (heap_setCell_other w a R v ha)
theorem Blk.drewN (h:Blk w R t cs) (n:Nat):Blk (w.drewN n) R t cs:=h
end
theorem Y4 (w:World) {t:TypeId} {cs:Array Value} {i:Nat} {v:Value} (hi:cs[i]?=some v):(w.alloc (.cells cs t)).cell? ⟨w.heap.size,i,none⟩=some v:=(Blk.new w t cs).cell hi
theorem Blk.c2 {w:World} {R:Nat} {t:TypeId} {v0 v1:Value} (h:Blk w R t #[v0,v1]):w.cell? ⟨R,0,none⟩=some v0/\w.cell? ⟨R,1,none⟩=some v1:=⟨h.cell rfl,h.cell rfl⟩
theorem Blk.c3 {w:World} {R:Nat} {t:TypeId} {v0 v1 v2:Value} (h:Blk w R t #[v0,v1,v2]):w.cell? ⟨R,0,none⟩=some v0/\w.cell? ⟨R,1,none⟩=some v1/\w.cell? ⟨R,2,none⟩=some v2:=⟨h.cell rfl,h.cell rfl,h.cell rfl⟩
theorem Blk.c4 {w:World} {R:Nat} {t:TypeId} {v0 v1 v2 v3:Value} (h:Blk w R t #[v0,v1,v2,v3]):w.cell? ⟨R,0,none⟩=some v0/\w.cell? ⟨R,1,none⟩=some v1/\w.cell? ⟨R,2,none⟩=some v2/\w.cell? ⟨R,3,none⟩=some v3:=⟨h.cell rfl,h.cell rfl,h.cell rfl,h.cell rfl⟩
theorem Blk.c6 {w:World} {R:Nat} {t:TypeId} {v0 v1 v2 v3 v4 v5:Value} (h:Blk w R t #[v0,v1,v2,v3,v4,v5]):w.cell? ⟨R,0,none⟩=some v0/\w.cell? ⟨R,1,none⟩=some v1/\w.cell? ⟨R,2,none⟩=some v2/\w.cell? ⟨R,3,none⟩=some v3/\w.cell? ⟨R,4,none⟩=some v4/\w.cell? ⟨R,5,none⟩=some v5:=⟨h.cell rfl,h.cell rfl,h.cell rfl,h.cell rfl,h.cell rfl,h.cell rfl⟩
theorem Blk.c11 {w:World} {R:Nat} {t:TypeId} {v0 v1 v2 v3 v4 v5 v6 v7 v8 v9 v10:Value} (h:Blk w R t #[v0,v1,v2,v3,v4,v5,v6,v7,v8,v9,v10]):w.cell? ⟨R,0,none⟩=some v0/\w.cell? ⟨R,1,none⟩=some v1/\w.cell? ⟨R,2,none⟩=some v2/\w.cell? ⟨R,3,none⟩=some v3/\w.cell? ⟨R,4,none⟩=some v4/\w.cell? ⟨R,5,none⟩=some v5/\w.cell? ⟨R,6,none⟩=some v6/\w.cell? ⟨R,7,none⟩=some v7/\w.cell? ⟨R,8,none⟩=some v8/\w.cell? ⟨R,9,none⟩=some v9/\w.cell? ⟨R,10,none⟩=some v10:=⟨h.cell rfl,h.cell rfl,h.cell rfl,h.cell rfl,h.cell rfl,h.cell rfl,h.cell rfl,h.cell rfl,h.cell rfl,h.cell rfl,h.cell rfl⟩
theorem bl {w w':World} {R:Nat} {t:TypeId} {cs:Array Value} (h:Hid (Blk w R t cs)) (hb:Below w.heap.size w w'):Hid (Blk w' R t cs):=Z9 ((uh h).below hb (uh h).lt)
theorem bt {w a b:World} (h:Hid (Below w.heap.size w a)) (hb:Below a.heap.size a b):Hid (Below w.heap.size w b):=Z9 ((uh h).trans (hb.mono (uh h).size))
theorem Blk.f3 {w:World} {R:Nat} {t:TypeId} {cs:Array Value} (h:Blk w R t cs):w.frozen? ⟨R,0,none⟩=false/\w.frozen? ⟨R,1,none⟩=false/\w.frozen? ⟨R,2,none⟩=false:=⟨h.free 0,h.free 1,h.free 2⟩
theorem Blk.f4 {w:World} {R:Nat} {t:TypeId} {cs:Array Value} (h:Blk w R t cs):w.frozen? ⟨R,0,none⟩=false/\w.frozen? ⟨R,1,none⟩=false/\w.frozen? ⟨R,2,none⟩=false/\w.frozen? ⟨R,3,none⟩=false:=⟨h.free 0,h.free 1,h.free 2,h.free 3⟩
theorem Blk.f6 {w:World} {R:Nat} {t:TypeId} {cs:Array Value} (h:Blk w R t cs):w.frozen? ⟨R,0,none⟩=false/\w.frozen? ⟨R,1,none⟩=false/\w.frozen? ⟨R,2,none⟩=false/\w.frozen? ⟨R,3,none⟩=false/\w.frozen? ⟨R,4,none⟩=false/\w.frozen? ⟨R,5,none⟩=false:=⟨h.free 0,h.free 1,h.free 2,h.free 3,h.free 4,h.free 5⟩
theorem Blk.f11 {w:World} {R:Nat} {t:TypeId} {cs:Array Value} (h:Blk w R t cs):w.frozen? ⟨R,0,none⟩=false/\w.frozen? ⟨R,1,none⟩=false/\w.frozen? ⟨R,2,none⟩=false/\w.frozen? ⟨R,3,none⟩=false/\w.frozen? ⟨R,4,none⟩=false/\w.frozen? ⟨R,5,none⟩=false/\w.frozen? ⟨R,6,none⟩=false/\w.frozen? ⟨R,7,none⟩=false/\w.frozen? ⟨R,8,none⟩=false/\w.frozen? ⟨R,9,none⟩=false/\w.frozen? ⟨R,10,none⟩=false:=⟨h.free 0,h.free 1,h.free 2,h.free 3,h.free 4,h.free 5,h.free 6,h.free 7,h.free 8,h.free 9,h.free 10⟩
theorem VP (w:World) (t:TypeId) (cs:Array Value) (u:TypeId) (ds:Array Value):∃ W,(w.alloc (.cells cs t)).alloc (.cells ds u)=W/\Hid (Blk W w.heap.size t cs)/\Hid (Blk W (w.heap.size+1) u ds)/\Hid (Below w.heap.size w W):=by
 refine ⟨_,rfl,Z9 ((Blk.new w _ _).alloc _),Z9 ?_,Z9 (((ba _ _)).alloc (by simp) _)⟩;have k:=Blk.new (w.alloc (.cells cs t)) u ds;rw [XG] at k;exact k
theorem yT (w:World) (t:TypeId) (cs:Array Value) (u:TypeId) (ds:Array Value) (v:TypeId) (es:Array Value):∃ W,((w.alloc (.cells cs t)).alloc (.cells ds u)).alloc (.cells es v)=W/\Hid (Blk W w.heap.size t cs)/\Hid (Blk W (w.heap.size+1) u ds)/\Hid (Blk W (w.heap.size+1+1) v es)/\Hid (Below w.heap.size w W):=by
 refine ⟨_,rfl,Z9 (((Blk.new w _ _).alloc _).alloc _),Z9 ?_,Z9 ?_,Z9 ((((ba _ _)).alloc (by simp) _).alloc (by simp;omega) _)⟩
 ·have k:=(Blk.new (w.alloc (.cells cs t)) u ds).alloc (.cells es v)
  rw [XG] at k;exact k
 ·have k:=Blk.new ((w.alloc (.cells cs t)).alloc (.cells ds u)) v es
  rw [XG,XG] at k;exact k
theorem GO (w:World) (t:TypeId) (cs:Array Value):∃ W,w.alloc (.cells cs t)=W/\Hid (Below w.heap.size w W)/\Hid (Blk W w.heap.size t cs):=⟨_,rfl,Z9 ((ba _ _)),Z9 (Blk.new _ _ _)⟩
theorem V5 (w:World) (t:TypeId) (cs:Array Value):Hid (Below w.heap.size w (w.alloc (.cells cs t)))/\Hid (Blk (w.alloc (.cells cs t)) w.heap.size t cs):=⟨Z9 ((ba _ _)),Z9 (Blk.new _ _ _)⟩
theorem Zc (w:World) (t:TypeId) (cs:Array Value):∃ W,w.alloc (.cells cs t)=W/\Below w.heap.size w W/\Hid (Blk W w.heap.size t cs):=⟨_,rfl,(ba _ _),Z9 (Blk.new _ _ _)⟩
end Go.Proofs.YtgdpaigcmoifbaaGreat
namespace Go.Proofs.YtgdpaigcmoifbaaGreat
open Go.ChangeShapes Go.WideShapes Go.ChangeAt Go.RowKit Go.Sort Go.Deep
set_option linter.unusedVariables false
def Tj (z:Int):List Value:=[.int .i64 z]
theorem Ze (z:Int):(Tj z).length=1:=rfl
abbrev OI (w:World) (v:Value) (zs:List Int):Prop:=IsRec 1 Tj w v zs
abbrev NumsAt (n₀:Nat) (w:World) (v:Value) (zs:List Int):Prop:=RecAt 2 1 Tj n₀ w v zs
theorem NumsAt.list {n₀:Nat} {w:World} {v:Value} {zs:List Int} (h:NumsAt n₀ w v zs):OI w v zs:=RecAt.recs Ze (by omega) h
theorem Rs {w:World} {b off:Nat} {zs:List Int} (h:∀ j,j<zs.length-> ∀ i u,(Tj (Z8 zs j))[i]?=some u->w.cell? ⟨b,off+j*1+i,none⟩=some u) {j:Nat} (hj:j<zs.length) :
  w.cell? ⟨b,off+j,none⟩=some (.int .i64 (Z8 zs j)):=by
 have:=h j hj 0 _ rfl;simpa using this
open Go.ChangeShapes Go.WideShapes Go.ChangeAt Go.RowKit Go.Sort Go.Proofs.Tryz
def PacesAt (n₀:Nat) (w:World) (v:Value) (ps:List Z4):Prop:=w.ownsRow n₀ 139 2 v ps.length (YQ ps)
theorem PacesAt.lt {n₀:Nat} {w:World} {v:Value} {ps:List Z4} (h:PacesAt n₀ w v ps) {k:Nat} (hk:v.ownBlock=some k):n₀<=k/\k<w.heap.size:=World.ownsRow.lt h k hk
theorem PacesAt.pc {n₀:Nat} {w:World} {v:Value} {ps:List Z4} (h:PacesAt n₀ w v ps):IsPaces w v ps:=by
 have h':=h
 rcases h.2 with ⟨rfl,hz⟩ | ⟨g,cap,cur,rfl,hb,hg,hnc,hcm,r⟩
 ·exact ⟨none,0,by rw [hz],by omega,by omega,.inl (List.eq_nil_of_length_eq_zero hz)⟩
 ·refine ⟨_,cap,rfl,hnc,by unfold maxLen at hcm;omega,.inr ⟨g,0,rfl,(Array.getElem?_eq_some_iff.1 hg).1,fun k hk=> ?_⟩⟩
  have hp:=Uo (f:=fun p:Z4=>Value.int .i64 p.1) (g:=fun p:Z4=>Value.int .i64 p.2) ps k hk;have hat:Z7 ps k=ps[k]:=by unfold Z7;simp [List.getD,hk]
  rw [Nat.zero_add,hat];exact ⟨(World.ownsRow.cellAt h' (k*2) (by omega)).trans hp.1,(World.ownsRow.cellAt h' (k*2+1) (by omega)).trans hp.2⟩
structure OwnHall (n₀:Nat) (w:World) (v:Value) (qs:List (ZY × Value)):Prop where
 row:w.ownsRow n₀ 130 2 v qs.length (Rw qs)
 pc:∀ q ∈ qs,PacesAt n₀ w q.2 q.1.2
 off:∀ q ∈ qs,∀ b,q.2.ownBlock=some b->v.ownBlock ≠ some b
 apart:(qs.map (·.2)).Pairwise fun x y=> ∀ b,x.ownBlock=some b->y.ownBlock ≠ some b
theorem OwnHall.nil (n₀:Nat) (w:World):OwnHall n₀ w (.slice none 0 0) []:=
 ⟨World.ownsRow_nil w n₀ _ _,fun _ h=>(by cases h),fun _ h=>(by cases h),List.Pairwise.nil⟩
theorem OwnHall.lt {n₀:Nat} {w:World} {v:Value} {qs:List (ZY × Value)} (h:OwnHall n₀ w v qs) {k:Nat} (hk:v.ownBlock=some k\/ ∃ q ∈ qs,q.2.ownBlock=some k):n₀<=k/\k<w.heap.size:=by
 rcases hk with hk | ⟨q,hq,hk⟩
 ·exact World.ownsRow.lt h.row k hk
 ·exact (h.pc q hq).lt hk
theorem OwnHall.same {n₀:Nat} {w w':World} {v:Value} {qs:List (ZY × Value)} (h:OwnHall n₀ w v qs) (hs:∀ k,n₀<=k->k<w.heap.size->w'.heap[k]?=w.heap[k]?):OwnHall n₀ w' v qs:=
 ⟨Xj h.row (fun k e=>hs k (h.lt (.inl e)).1 (h.lt (.inl e)).2),fun q hq=>Xj (h.pc q hq) (fun k e=>hs k (h.lt (.inr ⟨q,hq,e⟩)).1 (h.lt (.inr ⟨q,hq,e⟩)).2),h.off,h.apart⟩
theorem OwnHall.later {n₀:Nat} {w w':World} {v:Value} {qs:List (ZY × Value)} (h:OwnHall n₀ w v qs) (hb:Below w.heap.size w w'):OwnHall n₀ w' v qs:=h.same (fun k _ hk=>hb.block k hk)
theorem OwnHall.but {n₀ bc:Nat} {w w':World} {v:Value} {qs:List (ZY × Value)} (h:OwnHall n₀ w v qs) (hb:But bc w w') (hbc:bc<n₀\/w.heap.size<=bc):OwnHall n₀ w' v qs:=h.same (fun k h0 hk=>hb.block k hk (by omega))
theorem OwnHall.mono {n₀ n₁:Nat} {w:World} {v:Value} {qs:List (ZY × Value)} (h:OwnHall n₀ w v qs) (hn:n₁<=n₀):OwnHall n₁ w v qs:=
 ⟨SZ h.row hn,fun q hq=>SZ (h.pc q hq) hn,h.off,h.apart⟩
theorem OwnHall.rm {n₀:Nat} {w:World} {v:Value} {qs:List (ZY × Value)} (h:OwnHall n₀ w v qs):IsRooms w v (qs.map (·.1)):=by
 have h':=h.row;have hlen:(qs.map (·.1)).length=qs.length:=by simp
 rcases h.row.2 with ⟨rfl,hz⟩ | ⟨g,cap,cur,rfl,hb,hg,hnc,hcm,r⟩
 ·exact ⟨none,0,by rw [hlen,hz],by omega,by omega,.inl (by rw [List.eq_nil_of_length_eq_zero hz];rfl)⟩
 ·refine ⟨_,cap,by rw [hlen],by rw [hlen];exact hnc,by unfold maxLen at hcm;omega,.inr ⟨g,0,rfl,(Array.getElem?_eq_some_iff.1 hg).1,fun k hk=> ?_⟩⟩
  rw [hlen] at hk;have hp:=Uo (f:=fun q:ZY × Value=>Value.int .i64 q.1.1) (g:=fun q:ZY × Value=>q.2) qs k hk;have hat:ZQ (qs.map (·.1)) k=qs[k].1:=by unfold ZQ;simp [List.getD,hk]
  rw [Nat.zero_add,hat];exact ⟨(World.ownsRow.cellAt h' (k*2) (by omega)).trans hp.1,qs[k].2,(World.ownsRow.cellAt h' (k*2+1) (by omega)).trans hp.2,(h.pc _ (List.getElem_mem hk)).pc⟩
theorem OwnHall.push {n₀:Nat} {w w1:World} {v v' pv:Value} {qs:List (ZY × Value)} {rb:Int} {ps:List Z4} {o:Obj} (h:OwnHall n₀ w v qs) (hp:PacesAt n₀ w pv ps)
  (hoff:∀ b,pv.ownBlock=some b->v.ownBlock ≠ some b) (hap:∀ q ∈ qs,∀ b,q.2.ownBlock=some b->pv.ownBlock ≠ some b)
  (hown:w1.ownsRow n₀ 130 2 v' (qs.length+1) (Rw qs++[.int .i64 rb,pv])) (hg:(w.alloc o).grownBy w1 v.ownBlock) (hat:v'.ownBlock=v.ownBlock\/v'.ownBlock=some (w.alloc o).heap.size) :
  OwnHall n₀ w1 v' (qs++[((rb,ps),pv)]):=by
 have hk:∀ k,k<w.heap.size->v.ownBlock ≠ some k->w1.heap[k]?=w.heap[k]?:=fun k hk hn=>(hg.block k (by simp;omega) (fun e=>hn e.symm)).trans (Below.heap_alloc w o k hk)
 have hv':∀ k,k<w.heap.size->v'.ownBlock=some k->v.ownBlock=some k:=fun k hk e=>by
  rcases hat with e' | e'
  ·rw [<-e'];exact e
  ·rw [e'] at e;simp at e;omega
 refine ⟨?_,fun q hq=> ?_,fun q hq b e=> ?_,?_⟩
 ·simpa [Rw] using hown
 ·rcases List.mem_append.1 hq with hq | hq
  ·exact Xj (h.pc q hq) (fun k e=>hk k (h.lt (.inr ⟨q,hq,e⟩)).2 (h.off q hq k e))
  ·obtain rfl:q=((rb,ps),pv):=by simpa using hq
   exact Xj hp (fun k e=>hk k (hp.lt e).2 (hoff k e))
 ·rcases List.mem_append.1 hq with hq | hq
  ·exact fun e'=>h.off q hq b e (hv' b (h.lt (.inr ⟨q,hq,e⟩)).2 e')
  ·obtain rfl:q=((rb,ps),pv):=by simpa using hq
   exact fun e'=>hoff b e (hv' b (hp.lt e).2 e')
 ·rw [List.map_append,List.pairwise_append]
  refine ⟨h.apart,by simp,fun x hx y hy b e=> ?_⟩;obtain ⟨q,hq,rfl⟩:=List.mem_map.1 hx;obtain rfl:y=pv:=by simpa using hy
  exact hap q hq b e
theorem BQ:(prog.info? 139).map (fun i=>(i.zero,i.size,i.bytes))=some (some (.agg #[.int .i64 0,.int .i64 0]),2,16):=by kernel_rfl
theorem JT:(prog.info? 130).map (fun i=>(i.zero,i.size,i.bytes))=some (some (.agg #[.int .i64 0,.slice none 0 0]),2,32):=by kernel_rfl
theorem OwnHall.shape {n₀:Nat} {w:World} {v:Value} {qs:List (ZY × Value)} (h:OwnHall n₀ w v qs):∃ a cap,v= .slice a qs.length cap:=by
 rcases h.row.2 with ⟨rfl,hz⟩ | ⟨g,cap,cur,rfl,_⟩
 ·exact ⟨none,0,by rw [hz]⟩
 ·exact ⟨_,cap,rfl⟩
theorem PacesAt.shape {n₀:Nat} {w:World} {v:Value} {ps:List Z4} (h:PacesAt n₀ w v ps):∃ a cap,v= .slice a ps.length cap:=by
 rcases h.2 with ⟨rfl,hz⟩ | ⟨g,cap,cur,rfl,_⟩
 ·exact ⟨none,0,by rw [hz]⟩
 ·exact ⟨_,cap,rfl⟩
set_option maxRecDepth 100000
theorem DQ (a b c d:Int) (w:World):(Op.equalIn 10000 236 (.agg #[.int .i64 a,.int .i64 b]) (.agg #[.int .i64 c,.int .i64 d])).run prog w= .ok (a ==c && b ==d) w:=by
 have u:=underlying2;have ag:=Tryz.isAgg2;have z:=Tryz.sizeOf2;have hc:prog.cellsOf 2=1:=by kernel_rfl
 obtain ⟨i,hi⟩:=Option.isSome_iff_exists.1 (show (prog.info? 2).isSome=true by kernel_rfl);rw [show (10000:Nat)=9999+1 from rfl,run_equalIn_array w 9999 _ _ underlying236 hi,hc];simp only [show List.range 2=[0,1] from rfl,Op.eqItems];go_simp;by_cases h:a=c
 ·subst h
  by_cases h2:b=d
  ·subst h2;simp
  ·simp [h2]
 ·simp [h]
theorem zK (a b c d:Int) (w:World):(binOp .eql 236 (.agg #[.int .i64 a,.int .i64 b]) (.agg #[.int .i64 c,.int .i64 d])).run prog w= .ok (.bool (a ==c && b ==d)) w:=by
 rw [run_eql_struct,DQ];rfl
theorem Po (lo hi n:Int) (w:World):cB 297 #[.agg #[.int .i64 lo,.int .i64 hi],.int .i64 n] w (.agg #[.int .i64 (min lo n),.int .i64 (max hi n)]):=by
 by_cases h1:lo<=n
 all_goals
  by_cases h2:hi<n
  all_goals
   go_enter func297,ntmps297;go_wp2_with fail;exact Zz (v:= .agg #[.int .i64 (min lo n),.int .i64 (max hi n)]) (by simp [results,results297,go_sem];omega) rfl ⟨rfl,((ba _ _)).alloc (by simp) _⟩
theorem DP (m:Int) (w:World) (m0 : -1000000000000<=m) (m1:m<=1000000000000):cB 255 #[.int .i64 m] w (.agg #[.int .i64 (m-20000),.int .i64 (m+63000)]):=by
 go_enter func255,ntmps255;go_wp2_with fail;exact Zz (v:= .agg #[.int .i64 (m-20000),.int .i64 (m+63000)]) (by simp [results,results255,go_sem]) rfl ⟨rfl,(ba _ _)⟩
def loL (lo:Int) (zs:List Int):Int:=zs.foldl min lo
def hiL (hi:Int) (zs:List Int):Int:=zs.foldl max hi
theorem yA (zs:List Int):∀ lo,loL lo zs<=lo:=by
 induction zs with
 | nil=>intro lo;exact Int.le_refl _
 | cons z zs ih=>intro lo;exact Int.le_trans (ih (min lo z)) (Int.min_le_left _ _)
theorem yw (zs:List Int):∀ hi,hi<=hiL hi zs:=by
 induction zs with
 | nil=>intro hi;exact Int.le_refl _
 | cons z zs ih=>intro hi;exact Int.le_trans (Int.le_max_left _ _) (ih (max hi z))
theorem JC (zs:List Int):∀ lo hi,(loL lo zs ==lo && hiL hi zs ==hi)=zs.all fun z=>inB z lo hi:=by
 induction zs with
 | nil=>intro lo hi;simp [loL,hiL]
 | cons z zs ih=>
  intro lo hi;show (loL (min lo z) zs ==lo && hiL (max hi z) zs ==hi)=(inB z lo hi && zs.all fun z=>inB z lo hi)
  cases hz:inB z lo hi
  ·have hn:¬ (lo<=z/\z<=hi):=of_decide_eq_false hz
   have h1:=yA zs (min lo z);have h2:=yw zs (max hi z);simp only [Bool.false_and,Bool.and_eq_false_iff,beq_eq_false_iff_ne];omega
  ·obtain ⟨h1,h2⟩:=ZN hz
   rw [show min lo z=lo by omega,show max hi z=hi by omega,ih];rfl
theorem Aw {lo:Int} {zs:List Int} {k:Nat} (hk:k<zs.length):loL lo (zs.take (k+1))=min (loL lo (zs.take k)) (zs.getD k 0):=by
 unfold loL;rw [List.take_succ_eq_append_getElem hk,List.foldl_append];simp [List.getD,List.getElem?_eq_getElem hk]
theorem Ah {hi:Int} {zs:List Int} {k:Nat} (hk:k<zs.length):hiL hi (zs.take (k+1))=max (hiL hi (zs.take k)) (zs.getD k 0):=by
 unfold hiL;rw [List.take_succ_eq_append_getElem hk,List.foldl_append];simp [List.getD,List.getElem?_eq_getElem hk]
attribute [local go_sem ↓] zK
set_option maxHeartbeats 400000 in
theorem Qn (lo hi:Int) (b cap:Nat) (zs:List Int) (w:World) (hl:zs.length<=1000) (hb:b<w.heap.size) (hc:∀ k,k<zs.length->w.cell? ⟨b,k,none⟩=some (.int .i64 (zs.getD k 0))) :
  cB 256 #[.agg #[.int .i64 lo,.int .i64 hi],.slice (some ⟨b,0,none⟩) zs.length cap] w (.bool (zs.all fun z=>inB z lo hi)):=by
 have Hc:=Z9 hc;clear hc;go_enter func256,ntmps256;go_wp2_with fail
 go_loopw [11] (fun i wr=> ∃ k:Nat,k<=zs.length/\i= .int .i64 k/\Blk wr (w.heap.size+1) 236 #[.int .i64 (loL lo (zs.take k)),.int .i64 (hiL hi (zs.take k))]/\Blk wr w.heap.size 236 #[.int .i64 lo,.int .i64 hi]/\Below w.heap.size w wr) (fun i _=>zs.length-(intOf i).toNat)
 case atStart=>
  refine ⟨0,ZA _,rfl,?_,(Blk.new w _ _).alloc _,((ba _ _)).alloc (by simp) _⟩;have:=Blk.new (w.alloc (.cells #[.int .i64 lo,.int .i64 hi] 236)) 236 #[.int .i64 lo,.int .i64 hi];simpa [loL,hiL] using this
 case round=>
  obtain ⟨k,hk,rfl,hs,ho,hbl⟩:=hrel;have Hs:=Z9 hs;have Ho:=Z9 ho;have Hb:=Z9 hbl;by_cases hlt:k<zs.length
  ·have c0:=uh Hc k hlt
   rw [<-hbl.cell (p:=⟨b,k,none⟩) hb] at c0;have e1:=Aw (lo:=lo) hlt;have e2:=Ah (hi:=hi) hlt;have s0:=hs.cell (i:=0) rfl;have s1:=hs.cell (i:=1) rfl;have g0:=hs.free 0;have g1:=hs.free 1;generalize zs.getD k 0=z at *;generalize loL lo (zs.take k)=x at *;generalize hiL hi (zs.take k)=y at *;have E1:=Z9 e1;have E2:=Z9 e2;clear e1 e2 hs ho hbl;go_wp2_with fail;refine ck (Po x y z _) fun w1 hb1=> ?_;have hs1:=(uh Hs).below hb1 (uh Hs).lt;have Hs1:=Z9 hs1;have Ho1:Hid (Blk w1 w.heap.size 236 #[.int .i64 lo,.int .i64 hi]):=Z9 ((uh Ho).below hb1 (uh Ho).lt);have B1:Hid (Below w.heap.size w w1):=Z9 ((uh Hb).trans (hb1.mono (uh Hb).size));have s0:=hs1.cell (i:=0) rfl;have s1:=hs1.cell (i:=1) rfl;have g0:=hs1.free 0;have g1:=hs1.free 1;clear hs1 hb1;go_wp2_with fail;go_roundw
   case rel=>
    refine ⟨k+1,by omega,by go_num,?_,?_,?_⟩
    ·rw [uh E1,uh E2]
     simpa using ((uh Hs1).set 0 (.int .i64 (min x z))).set 1 (.int .i64 (max y z))
    ·exact ((uh Ho1).other (by simp) _).other (by simp) _
    ·exact ((uh B1).setCell (by simp) _).setCell (by simp) _
   case measure=>exact ms
  ·obtain rfl:k=zs.length:=by omega
   rw [List.take_length] at hs;have e3:=JC zs lo hi;have s0:=hs.cell (i:=0) rfl;have s1:=hs.cell (i:=1) rfl;have o0:=ho.cell (i:=0) rfl;have o1:=ho.cell (i:=1) rfl;generalize loL lo zs=x at *;generalize hiL hi zs=y at *;have E3:=Z9 e3;clear e3 hs ho hbl Hs;go_wp2_with fail;go_ret;exact ⟨Z5 (uh E3),uh Hb⟩
theorem Tr (b cap:Nat) (zs:List Int) (w:World) (hl:zs.length<=1000) (hb:b<w.heap.size) (hc:∀ k,k<zs.length->w.cell? ⟨b,k,none⟩=some (.int .i64 (zs.getD k 0))) :
  cB 225 #[.slice (some ⟨b,0,none⟩) zs.length cap] w (.bool (zs.all fun z=>inB z (-1000000000000) 1000000000000)):=by
 have Hc:=Z9 hc;clear hc;go_enter func225,ntmps225;go_wp2_with fail;refine ck (Qn _ _ b cap zs _ hl hb (uh Hc)) fun w1 hb1=> ?_;have B1:=Z9 hb1;clear hb1;go_wp2_with fail;go_ret;exact ⟨rfl,uh B1⟩
theorem Mb (h m:Int) (w:World):cB 221 #[.int .i64 h,.int .i64 m] w (.bool (Va h m)):=by
 cases hh:UU h && UU m
 ·have hs:Va h m=false:=by unfold Va;rw [hh];rfl
  have Hs:=Z9 hs;clear hs;go_enter func221,ntmps221;go_wp2_with fail;refine (Tr _ _ [h,m] _ (by simp) (by simp) ?_).mono ?_
  ·intro k hk
   simp at hk
   match k,hk with
   | 0,_=>simp
   | 1,_=>simp
  rintro e w1 ⟨rfl,hb⟩;rw [C9,hh];have B1:Hid (Below w.heap.size w w1):=Z9 (((ba _ _)).trans (hb.mono (by simp)));clear hb;go_wp2_with fail;go_ret;exact ⟨Z5 (uh Hs).symm,uh B1⟩
 ·have hs:Va h m=inB (h-m) (-20000) 63000:=by unfold Va;rw [hh];rfl
  have Hs:=Z9 hs;have h':=hh;simp only [ZO] at h';obtain ⟨m0,m1⟩:=L5 h'.2;clear hs h';go_enter func221,ntmps221;go_wp2_with fail;refine (Tr _ _ [h,m] _ (by simp) (by simp) ?_).mono ?_
  ·intro k hk
   simp at hk
   match k,hk with
   | 0,_=>simp
   | 1,_=>simp
  rintro e w1 ⟨rfl,hb⟩;rw [C9,hh];have B1:Hid (Below w.heap.size w w1):=Z9 (((ba _ _)).trans (hb.mono (by simp)));clear hb;go_wp2_with fail;refine ck (DP m _ m0 m1) fun w2 hb=> ?_;have B2:Hid (Below w.heap.size w w2):=Z9 ((uh B1).trans (hb.mono (uh B1).size));clear hb B1;go_wp2_with fail;refine (Qn _ _ _ _ [h] _ (by simp) (by simp) ?_).mono ?_
  ·intro k hk
   simp at hk;subst hk;simp
  rintro e w3 ⟨rfl,hb⟩;rw [zb];have B3:Hid (Below w.heap.size w w3):=Z9 (((uh B2).alloc (uh B2).size _).trans (hb.mono (by have:=(uh B2).size;simp;omega)));clear hb B2;go_wp2_with fail;go_ret;exact ⟨Z5 (uh Hs).symm,uh B3⟩
theorem Md (m f:Int) (w:World):cB 173 #[.int .i64 m,.int .i64 f] w (.int .i64 (Zw m f)):=by
 cases hh:UU m && UU f
 ·have hs:Zw m f=m:=by unfold Zw;rw [hh];rfl
  have Hs:=Z9 hs;clear hs;go_enter func173,ntmps173;go_wp2_with fail;refine (Tr _ _ [m,f] _ (by simp) (by simp) ?_).mono ?_
  ·intro k hk
   simp at hk
   match k,hk with
   | 0,_=>simp
   | 1,_=>simp
  rintro e w1 ⟨rfl,hb⟩;rw [C9,hh];have B1:Hid (Below w.heap.size w w1):=Z9 (((ba _ _)).trans (hb.mono (by simp)));clear hb;go_wp2_with fail;go_ret;exact ⟨ZB (uh Hs).symm,uh B1⟩
 ·have hs:Zw m f=min (max m f) 900000000000:=by unfold Zw;rw [hh];rfl
  have Hs:=Z9 hs;clear hs;go_enter func173,ntmps173;go_wp2_with fail;refine (Tr _ _ [m,f] _ (by simp) (by simp) ?_).mono ?_
  ·intro k hk
   simp at hk
   match k,hk with
   | 0,_=>simp
   | 1,_=>simp
  rintro e w1 ⟨rfl,hb⟩;rw [C9,hh];have B1:Hid (Below w.heap.size w w1):=Z9 (((ba _ _)).trans (hb.mono (by simp)));clear hb;go_wp2_with fail;refine ck (UJ m f 900000000000 _) fun w2 hw2=> ?_;subst w2;go_wp2_with fail;go_ret;exact ⟨ZB (uh Hs).symm,uh B1⟩
theorem FC (x:Int) (w:World):cE 195 #[.int .i64 x] w (.bool (UU x)):=by
 go_enter func195,ntmps195;go_wp2_with (go_at_call 129;refine (ZV _ _ _ _).mono ?_;rintro e w' ⟨rfl,rfl⟩)
 go_ret;exact ⟨rfl,rfl⟩
theorem Yp {x:Int} {r:Bool} (h:UU x=r) (w:World):cE 195 #[.int .i64 x] w (.bool r):=by
 rw [<-h];exact FC x w
theorem M0 (h m:Int) (w:World):cE 306 #[.int .i64 h,.int .i64 m] w (.int .i64 (YB h m)):=by
 cases h2:UU m
 ·have hs:YB h m=h:=by unfold YB;rw [h2];rfl
  have Hs:=Z9 hs;have H2:=Z9 h2;clear hs h2;go_enter func306,ntmps306;go_wp2_with (go_at_call 195;refine (Yp (uh H2) _).mono ?_;rintro e w' ⟨rfl,rfl⟩)
  go_ret;exact ⟨ZB (uh Hs).symm,rfl⟩
 have hs:YB h m=max h (m-20000):=by unfold YB;rw [h2];rfl
 obtain ⟨b0,b1⟩:=L5 h2;have Hs:=Z9 hs;have H2:=Z9 h2;clear hs h2;go_enter func306,ntmps306;go_wp2_with (first | (go_at_call 120;refine (Un _ _ _).mono ?_;rintro e w' ⟨rfl,rfl⟩) | (go_at_call 195;refine (Yp (uh H2) _).mono ?_;rintro e w' ⟨rfl,rfl⟩))
 go_ret;exact ⟨ZB (uh Hs).symm,rfl⟩
theorem Qu (h f t:Int) (w:World):cE 307 #[.int .i64 h,.int .i64 f,.int .i64 t] w (.int .i64 (YY h f t)):=by
 cases h1:UU h
 ·have hs:YY h f t=h:=by unfold YY;rw [h1];rfl
  have Hs:=Z9 hs;have H1:=Z9 h1;clear hs h1;go_enter func307,ntmps307;go_wp2_with (go_at_call 195;refine (Yp (uh H1) _).mono ?_;rintro e w' ⟨rfl,rfl⟩)
  go_ret;exact ⟨ZB (uh Hs).symm,rfl⟩
 cases h2:UU f
 ·have hs:YY h f t=h:=by unfold YY;rw [h1,h2];rfl
  have Hs:=Z9 hs;have H1:=Z9 h1;have H2:=Z9 h2;clear hs h1 h2;go_enter func307,ntmps307;go_wp2_with (go_at_call 195;first | (refine (Yp (uh H1) _).mono ?_;rintro e w' ⟨rfl,rfl⟩) | (refine (Yp (uh H2) _).mono ?_;rintro e w' ⟨rfl,rfl⟩))
  go_ret;exact ⟨ZB (uh Hs).symm,rfl⟩
 cases h3:UU t
 ·have hs:YY h f t=h:=by unfold YY;rw [h1,h2,h3];rfl
  have Hs:=Z9 hs;have H1:=Z9 h1;have H2:=Z9 h2;have H3:=Z9 h3;clear hs h1 h2 h3;go_enter func307,ntmps307;go_wp2_with (go_at_call 195;first | (refine (Yp (uh H1) _).mono ?_;rintro e w' ⟨rfl,rfl⟩) | (refine (Yp (uh H2) _).mono ?_;rintro e w' ⟨rfl,rfl⟩) | (refine (Yp (uh H3) _).mono ?_;rintro e w' ⟨rfl,rfl⟩))
  go_ret;exact ⟨ZB (uh Hs).symm,rfl⟩
 have hs:YY h f t=h-f+t:=by unfold YY;rw [h1,h2,h3];rfl
 obtain ⟨a0,a1⟩:=L5 h1;obtain ⟨b0,b1⟩:=L5 h2;obtain ⟨c0,c1⟩:=L5 h3;have Hs:=Z9 hs;have H1:=Z9 h1;have H2:=Z9 h2;have H3:=Z9 h3;clear hs h1 h2 h3;go_enter func307,ntmps307;go_wp2_with (go_at_call 195;first | (refine (Yp (uh H1) _).mono ?_;rintro e w' ⟨rfl,rfl⟩) | (refine (Yp (uh H2) _).mono ?_;rintro e w' ⟨rfl,rfl⟩) | (refine (Yp (uh H3) _).mono ?_;rintro e w' ⟨rfl,rfl⟩))
 go_ret;exact ⟨ZB (uh Hs).symm,rfl⟩
theorem MW (m f:Int) (w:World):cE 139 #[.int .i64 m,.int .i64 f] w (.int .i64 (Zw m f)):=by
 cases h1:UU m
 ·have hs:Zw m f=m:=by unfold Zw;rw [h1];rfl
  have Hs:=Z9 hs;have H1:=Z9 h1;clear hs h1;go_enter func139,ntmps139;go_wp2_with (go_at_call 195;refine (Yp (uh H1) _).mono ?_;rintro e w' ⟨rfl,rfl⟩)
  go_ret;exact ⟨ZB (uh Hs).symm,rfl⟩
 cases h2:UU f
 ·have hs:Zw m f=m:=by unfold Zw;rw [h1,h2];rfl
  have Hs:=Z9 hs;have H1:=Z9 h1;have H2:=Z9 h2;clear hs h1 h2;go_enter func139,ntmps139;go_wp2_with (go_at_call 195;first | (refine (Yp (uh H1) _).mono ?_;rintro e w' ⟨rfl,rfl⟩) | (refine (Yp (uh H2) _).mono ?_;rintro e w' ⟨rfl,rfl⟩))
  go_ret;exact ⟨ZB (uh Hs).symm,rfl⟩
 have hs:Zw m f=min (max m f) 900000000000:=by unfold Zw;rw [h1,h2];rfl
 have Hs:=Z9 hs;have H1:=Z9 h1;have H2:=Z9 h2;clear hs h1 h2;go_enter func139,ntmps139;go_wp2_with (first | (go_at_call 120;refine (Un _ _ _).mono ?_;rintro e w' ⟨rfl,rfl⟩) | (go_at_call 198;refine (J1 _ _ _).mono ?_;rintro e w' ⟨rfl,rfl⟩) | (go_at_call 195;first | (refine (Yp (uh H1) _).mono ?_;rintro e w' ⟨rfl,rfl⟩) | (refine (Yp (uh H2) _).mono ?_;rintro e w' ⟨rfl,rfl⟩)))
 go_ret;exact ⟨ZB (uh Hs).symm,rfl⟩
end Go.Proofs.YtgdpaigcmoifbaaGreat
