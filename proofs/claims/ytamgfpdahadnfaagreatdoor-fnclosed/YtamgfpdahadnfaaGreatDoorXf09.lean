/- Part 9 of what the proof rests on. No condition but those that a theorem names. -/
import Derived.Test.YtamgfpdahadnfaaGreatDoorXf03
import Derived.Test.YtamgfpdahadnfaaGreatDoorXf04
import Derived.Test.YtamgfpdahadnfaaGreatDoorXf05
import Derived.ChangeKeysEq
import Derived.Laws.StructEq
import Derived.Deep.Fields
import Derived.Deep.Slices
set_option maxHeartbeats 8000000
set_option maxRecDepth 100000
namespace Go.Proofs.YtamgfpdahadnfaaGreatDoor
open Go.ChangeShapes Go.WideShapes Go.ChangeAt Go.RowKit Go.Sort
set_option linter.unusedVariables false
abbrev Z3:=Int × Int × Int × Int × Int × Int × Int × Int × Int × Int × Int
def ZV (p:Z3):List Value:=[.int .i64 p.1,.int .i64 p.2.1,.int .i64 p.2.2.1,.int .i64 p.2.2.2.1,.int .i64 p.2.2.2.2.1,.int .i64 p.2.2.2.2.2.1,.int .i64 p.2.2.2.2.2.2.1,.int .i64 p.2.2.2.2.2.2.2.1,.int .i64 p.2.2.2.2.2.2.2.2.1,.int .i64 p.2.2.2.2.2.2.2.2.2.1,.int .i64 p.2.2.2.2.2.2.2.2.2.2]
theorem ZT (p:Z3):(ZV p).length=11:=rfl
abbrev Vy (w:World) (v:Value) (ps:List Z3):Prop:=IsRec 11 ZV w v ps
abbrev SmithsAt (n₀:Nat) (w:World) (v:Value) (ps:List Z3):Prop:=RecAt 40 11 ZV n₀ w v ps
theorem SmithsAt.list {n₀:Nat} {w:World} {v:Value} {ps:List Z3} (h:SmithsAt n₀ w v ps):Vy w v ps:=RecAt.recs ZT (by omega) h
theorem Zx {w:World} {b off:Nat} {ps:List Z3} (h:∀ j,j<ps.length-> ∀ i u,(ZV (Z8 ps j))[i]?=some u->w.cell? ⟨b,off+j*11+i,none⟩=some u) {j:Nat} (hj:j<ps.length) :
  w.cell? ⟨b,off+j*11,none⟩=some (.int .i64 (Z8 ps j).1)/\w.cell? ⟨b,off+j*11+1,none⟩=some (.int .i64 (Z8 ps j).2.1)/\w.cell? ⟨b,off+j*11+2,none⟩=some (.int .i64 (Z8 ps j).2.2.1)/\w.cell? ⟨b,off+j*11+3,none⟩=some (.int .i64 (Z8 ps j).2.2.2.1)/\w.cell? ⟨b,off+j*11+4,none⟩=some (.int .i64 (Z8 ps j).2.2.2.2.1)/\w.cell? ⟨b,off+j*11+5,none⟩=some (.int .i64 (Z8 ps j).2.2.2.2.2.1)/\w.cell? ⟨b,off+j*11+6,none⟩=some (.int .i64 (Z8 ps j).2.2.2.2.2.2.1)/\w.cell? ⟨b,off+j*11+7,none⟩=some (.int .i64 (Z8 ps j).2.2.2.2.2.2.2.1)/\w.cell? ⟨b,off+j*11+8,none⟩=some (.int .i64 (Z8 ps j).2.2.2.2.2.2.2.2.1)/\w.cell? ⟨b,off+j*11+9,none⟩=some (.int .i64 (Z8 ps j).2.2.2.2.2.2.2.2.2.1)/\w.cell? ⟨b,off+j*11+10,none⟩=some (.int .i64 (Z8 ps j).2.2.2.2.2.2.2.2.2.2):=
 ⟨h j hj 0 _ rfl,h j hj 1 _ rfl,h j hj 2 _ rfl,h j hj 3 _ rfl,h j hj 4 _ rfl,h j hj 5 _ rfl,h j hj 6 _ rfl,h j hj 7 _ rfl,h j hj 8 _ rfl,h j hj 9 _ rfl,h j hj 10 _ rfl⟩
theorem AS {w:World} {g o:Nat} {x:Z3} (h:∀ i u,(ZV x)[i]?=some u->w.cell? ⟨g,o+i,none⟩=some u):w.cell? ⟨g,o+0,none⟩=some (.int .i64 x.1)/\w.cell? ⟨g,o+1,none⟩=some (.int .i64 x.2.1)/\w.cell? ⟨g,o+2,none⟩=some (.int .i64 x.2.2.1)/\w.cell? ⟨g,o+3,none⟩=some (.int .i64 x.2.2.2.1)/\w.cell? ⟨g,o+4,none⟩=some (.int .i64 x.2.2.2.2.1)/\w.cell? ⟨g,o+5,none⟩=some (.int .i64 x.2.2.2.2.2.1)/\w.cell? ⟨g,o+6,none⟩=some (.int .i64 x.2.2.2.2.2.2.1)/\w.cell? ⟨g,o+7,none⟩=some (.int .i64 x.2.2.2.2.2.2.2.1)/\w.cell? ⟨g,o+8,none⟩=some (.int .i64 x.2.2.2.2.2.2.2.2.1)/\w.cell? ⟨g,o+9,none⟩=some (.int .i64 x.2.2.2.2.2.2.2.2.2.1)/\w.cell? ⟨g,o+10,none⟩=some (.int .i64 x.2.2.2.2.2.2.2.2.2.2):=⟨h 0 _ rfl,h 1 _ rfl,h 2 _ rfl,h 3 _ rfl,h 4 _ rfl,h 5 _ rfl,h 6 _ rfl,h 7 _ rfl,h 8 _ rfl,h 9 _ rfl,h 10 _ rfl⟩
theorem zY {w:World} {g:Nat} (h:∀ o,w.frozen? ⟨g,o,none⟩=false) (o:Nat):w.frozen? ⟨g,o+0,none⟩=false/\w.frozen? ⟨g,o+1,none⟩=false/\w.frozen? ⟨g,o+2,none⟩=false/\w.frozen? ⟨g,o+3,none⟩=false/\w.frozen? ⟨g,o+4,none⟩=false/\w.frozen? ⟨g,o+5,none⟩=false/\w.frozen? ⟨g,o+6,none⟩=false/\w.frozen? ⟨g,o+7,none⟩=false/\w.frozen? ⟨g,o+8,none⟩=false/\w.frozen? ⟨g,o+9,none⟩=false/\w.frozen? ⟨g,o+10,none⟩=false:=⟨h _,h _,h _,h _,h _,h _,h _,h _,h _,h _,h _⟩
theorem xn {w:World} {g:Nat} (h:∀ o,w.frozen? ⟨g,o,none⟩=false) (o:Nat):w.frozen? ⟨g,o,none⟩=false/\w.frozen? ⟨g,o+1,none⟩=false/\w.frozen? ⟨g,o+2,none⟩=false/\w.frozen? ⟨g,o+3,none⟩=false/\w.frozen? ⟨g,o+4,none⟩=false/\w.frozen? ⟨g,o+5,none⟩=false/\w.frozen? ⟨g,o+6,none⟩=false/\w.frozen? ⟨g,o+7,none⟩=false/\w.frozen? ⟨g,o+8,none⟩=false/\w.frozen? ⟨g,o+9,none⟩=false/\w.frozen? ⟨g,o+10,none⟩=false:=zY h o
abbrev E11:Array Value:=#[.int .i64 0,.int .i64 0,.int .i64 0,.int .i64 0,.int .i64 0,.int .i64 0,.int .i64 0,.int .i64 0,.int .i64 0,.int .i64 0,.int .i64 0]
abbrev I11 (a b c d e f g h i j k:Int):Array Value:=#[.int .i64 a,.int .i64 b,.int .i64 c,.int .i64 d,.int .i64 e,.int .i64 f,.int .i64 g,.int .i64 h,.int .i64 i,.int .i64 j,.int .i64 k]
def Blk (w:World) (R:Nat) (t:TypeId) (cs:Array Value):Prop:=w.heap[R]?=some (.cells cs t (0,0))
section
variable {w w' : World} {R B : Nat} {t : TypeId} {cs : Array Value}
theorem Blk.lt (h:Blk w R t cs):R<w.heap.size:=(Array.getElem?_eq_some_iff.1 h).1
theorem Blk.cell (h:Blk w R t cs) {i:Nat} {v:Value} (hi:cs[i]?=some v):w.cell? ⟨R,i,none⟩=some v:=by simp [World.cell?,show w.heap[R]?=_ from h,hi]
theorem Blk.free (h:Blk w R t cs) (i:Nat):w.frozen? ⟨R,i,none⟩=false:=frozen_of_row w R i cs t h
theorem Blk.new (w:World) (t:TypeId) (cs:Array Value):Blk (w.alloc (.cells cs t)) w.heap.size t cs:=by show (w.heap.push _)[w.heap.size]?=_;simp
theorem Blk.same (h:Blk w R t cs) (hs:w'.heap[R]?=w.heap[R]?):Blk w' R t cs:=hs.trans h
theorem Blk.below (h:Blk w R t cs) (hb:Below B w w') (hR:R<B):Blk w' R t cs:=h.same (hb.block R hR)
theorem Blk.alloc (h:Blk w R t cs) (o:Obj):Blk (w.alloc o) R t cs:=h.below ((Z1 w.heap.size w).alloc (Z2 _) o) h.lt
theorem Blk.set (h:Blk w R t cs) (i:Nat) (v:Value):Blk (w.setCell ⟨R,i,none⟩ v) R t (cs.setIfInBounds i v):=heap_setCell_same w R i cs t v h
theorem Blk.other (h:Blk w R t cs) {a:Addr} (ha:R ≠ a.block) (v:Value):Blk (w.setCell a v) R t cs:=h.same (heap_setCell_other w a R v ha)
theorem Blk.drewN (h:Blk w R t cs) (n:Nat):Blk (w.drewN n) R t cs:=h
end
theorem Ze (w:World) {t:TypeId} {cs:Array Value} {i:Nat} {v:Value} (hi:cs[i]?=some v):(w.alloc (.cells cs t)).cell? ⟨w.heap.size,i,none⟩=some v:=(Blk.new w t cs).cell hi
theorem Blk.c2 {w:World} {R:Nat} {t:TypeId} {v0 v1:Value} (h:Blk w R t #[v0,v1]):w.cell? ⟨R,0,none⟩=some v0/\w.cell? ⟨R,1,none⟩=some v1:=⟨h.cell rfl,h.cell rfl⟩
theorem Blk.c3 {w:World} {R:Nat} {t:TypeId} {v0 v1 v2:Value} (h:Blk w R t #[v0,v1,v2]):w.cell? ⟨R,0,none⟩=some v0/\w.cell? ⟨R,1,none⟩=some v1/\w.cell? ⟨R,2,none⟩=some v2:=⟨h.cell rfl,h.cell rfl,h.cell rfl⟩
theorem Blk.c4 {w:World} {R:Nat} {t:TypeId} {v0 v1 v2 v3:Value} (h:Blk w R t #[v0,v1,v2,v3]):w.cell? ⟨R,0,none⟩=some v0/\w.cell? ⟨R,1,none⟩=some v1/\w.cell? ⟨R,2,none⟩=some v2/\w.cell? ⟨R,3,none⟩=some v3:=⟨h.cell rfl,h.cell rfl,h.cell rfl,h.cell rfl⟩
theorem Blk.c6 {w:World} {R:Nat} {t:TypeId} {v0 v1 v2 v3 v4 v5:Value} (h:Blk w R t #[v0,v1,v2,v3,v4,v5]):w.cell? ⟨R,0,none⟩=some v0/\w.cell? ⟨R,1,none⟩=some v1/\w.cell? ⟨R,2,none⟩=some v2/\w.cell? ⟨R,3,none⟩=some v3/\w.cell? ⟨R,4,none⟩=some v4/\w.cell? ⟨R,5,none⟩=some v5:=⟨h.cell rfl,h.cell rfl,h.cell rfl,h.cell rfl,h.cell rfl,h.cell rfl⟩
theorem Blk.c11 {w:World} {R:Nat} {t:TypeId} {v0 v1 v2 v3 v4 v5 v6 v7 v8 v9 v10:Value} (h:Blk w R t #[v0,v1,v2,v3,v4,v5,v6,v7,v8,v9,v10]):w.cell? ⟨R,0,none⟩=some v0/\w.cell? ⟨R,1,none⟩=some v1/\w.cell? ⟨R,2,none⟩=some v2/\w.cell? ⟨R,3,none⟩=some v3/\w.cell? ⟨R,4,none⟩=some v4/\w.cell? ⟨R,5,none⟩=some v5/\w.cell? ⟨R,6,none⟩=some v6/\w.cell? ⟨R,7,none⟩=some v7/\w.cell? ⟨R,8,none⟩=some v8/\w.cell? ⟨R,9,none⟩=some v9/\w.cell? ⟨R,10,none⟩=some v10:=⟨h.cell rfl,h.cell rfl,h.cell rfl,h.cell rfl,h.cell rfl,h.cell rfl,h.cell rfl,h.cell rfl,h.cell rfl,h.cell rfl,h.cell rfl⟩
theorem bl {w w':World} {R:Nat} {t:TypeId} {cs:Array Value} (h:Hid (Blk w R t cs)) (hb:Below w.heap.size w w'):Hid (Blk w' R t cs):=Z9 ((uh h).below hb (uh h).lt)
theorem bt {w a b:World} (h:Hid (Below w.heap.size w a)) (hb:Below a.heap.size a b):Hid (Below w.heap.size w b):=Z9 ((uh h).trans (hb.mono (uh h).size))
theorem Blk.f3 {w:World} {R:Nat} {t:TypeId} {cs:Array Value} (h:Blk w R t cs):w.frozen? ⟨R,0,none⟩=false/\w.frozen? ⟨R,1,none⟩=false/\w.frozen? ⟨R,2,none⟩=false:=⟨h.free 0,h.free 1,h.free 2⟩
theorem Blk.f4 {w:World} {R:Nat} {t:TypeId} {cs:Array Value} (h:Blk w R t cs):w.frozen? ⟨R,0,none⟩=false/\w.frozen? ⟨R,1,none⟩=false/\w.frozen? ⟨R,2,none⟩=false/\w.frozen? ⟨R,3,none⟩=false:=⟨h.free 0,h.free 1,h.free 2,h.free 3⟩
theorem Blk.f6 {w:World} {R:Nat} {t:TypeId} {cs:Array Value} (h:Blk w R t cs):w.frozen? ⟨R,0,none⟩=false/\w.frozen? ⟨R,1,none⟩=false/\w.frozen? ⟨R,2,none⟩=false/\w.frozen? ⟨R,3,none⟩=false/\w.frozen? ⟨R,4,none⟩=false/\w.frozen? ⟨R,5,none⟩=false:=⟨h.free 0,h.free 1,h.free 2,h.free 3,h.free 4,h.free 5⟩
theorem Blk.f11 {w:World} {R:Nat} {t:TypeId} {cs:Array Value} (h:Blk w R t cs):w.frozen? ⟨R,0,none⟩=false/\w.frozen? ⟨R,1,none⟩=false/\w.frozen? ⟨R,2,none⟩=false/\w.frozen? ⟨R,3,none⟩=false/\w.frozen? ⟨R,4,none⟩=false/\w.frozen? ⟨R,5,none⟩=false/\w.frozen? ⟨R,6,none⟩=false/\w.frozen? ⟨R,7,none⟩=false/\w.frozen? ⟨R,8,none⟩=false/\w.frozen? ⟨R,9,none⟩=false/\w.frozen? ⟨R,10,none⟩=false:=⟨h.free 0,h.free 1,h.free 2,h.free 3,h.free 4,h.free 5,h.free 6,h.free 7,h.free 8,h.free 9,h.free 10⟩
theorem YB (w:World) (t:TypeId) (cs:Array Value) (u:TypeId) (ds:Array Value):∃ W,(w.alloc (.cells cs t)).alloc (.cells ds u)=W/\Hid (Blk W w.heap.size t cs)/\Hid (Blk W (w.heap.size+1) u ds)/\Hid (Below w.heap.size w W):=by
 refine ⟨_,rfl,Z9 ((Blk.new w _ _).alloc _),Z9 ?_,Z9 (((ba _ _)).alloc (by simp) _)⟩;have k:=Blk.new (w.alloc (.cells cs t)) u ds;rw [Y8] at k;exact k
theorem yI (w:World) (t:TypeId) (cs:Array Value) (u:TypeId) (ds:Array Value) (v:TypeId) (es:Array Value):∃ W,((w.alloc (.cells cs t)).alloc (.cells ds u)).alloc (.cells es v)=W/\Hid (Blk W w.heap.size t cs)/\Hid (Blk W (w.heap.size+1) u ds)/\Hid (Blk W (w.heap.size+1+1) v es)/\Hid (Below w.heap.size w W):=by
 refine ⟨_,rfl,Z9 (((Blk.new w _ _).alloc _).alloc _),Z9 ?_,Z9 ?_,Z9 ((((ba _ _)).alloc (by simp) _).alloc (by simp;omega) _)⟩
 ·have k:=(Blk.new (w.alloc (.cells cs t)) u ds).alloc (.cells es v)
  rw [Y8] at k;exact k
 ·have k:=Blk.new ((w.alloc (.cells cs t)).alloc (.cells ds u)) v es
  rw [Y8,Y8] at k;exact k
theorem GN (w:World) (t:TypeId) (cs:Array Value):∃ W,w.alloc (.cells cs t)=W/\Hid (Below w.heap.size w W)/\Hid (Blk W w.heap.size t cs):=⟨_,rfl,Z9 ((ba _ _)),Z9 (Blk.new _ _ _)⟩
theorem V9 (w:World) (t:TypeId) (cs:Array Value):Hid (Below w.heap.size w (w.alloc (.cells cs t)))/\Hid (Blk (w.alloc (.cells cs t)) w.heap.size t cs):=⟨Z9 ((ba _ _)),Z9 (Blk.new _ _ _)⟩
theorem Yz (w:World) (t:TypeId) (cs:Array Value):∃ W,w.alloc (.cells cs t)=W/\Below w.heap.size w W/\Hid (Blk W w.heap.size t cs):=⟨_,rfl,(ba _ _),Z9 (Blk.new _ _ _)⟩
end Go.Proofs.YtamgfpdahadnfaaGreatDoor
namespace Go.Proofs.YtamgfpdahadnfaaGreatDoor
open Go.ChangeShapes Go.WideShapes Go.ChangeAt Go.RowKit Go.Sort
set_option linter.unusedVariables false
abbrev XW:=Bool × Int × Int
def Xy (p:XW):List Value:=[.bool p.1,.int .i64 p.2.1,.int .i64 p.2.2]
theorem ZH (p:XW):(Xy p).length=3:=rfl
abbrev UA (w:World) (v:Value) (ps:List XW):Prop:=IsRec 3 Xy w v ps
abbrev DesksAt (n₀:Nat) (w:World) (v:Value) (ps:List XW):Prop:=RecAt 43 3 Xy n₀ w v ps
theorem DesksAt.list {n₀:Nat} {w:World} {v:Value} {ps:List XW} (h:DesksAt n₀ w v ps):UA w v ps:=RecAt.recs ZH (by omega) h
theorem Y2 {w:World} {b off:Nat} {ps:List XW} (h:∀ j,j<ps.length-> ∀ i u,(Xy (Z8 ps j))[i]?=some u->w.cell? ⟨b,off+j*3+i,none⟩=some u) {j:Nat} (hj:j<ps.length) :
  w.cell? ⟨b,off+j*3,none⟩=some (.bool (Z8 ps j).1)/\w.cell? ⟨b,off+j*3+1,none⟩=some (.int .i64 (Z8 ps j).2.1)/\w.cell? ⟨b,off+j*3+2,none⟩=some (.int .i64 (Z8 ps j).2.2):=
 ⟨h j hj 0 _ rfl,h j hj 1 _ rfl,h j hj 2 _ rfl⟩
open Go.ChangeShapes Go.WideShapes Go.ChangeAt Go.RowKit Go.Sort Go.Deep
def Sf (z:Int):List Value:=[.int .i64 z]
theorem YC (z:Int):(Sf z).length=1:=rfl
abbrev Ow (w:World) (v:Value) (zs:List Int):Prop:=IsRec 1 Sf w v zs
abbrev NumsAt (n₀:Nat) (w:World) (v:Value) (zs:List Int):Prop:=RecAt 2 1 Sf n₀ w v zs
theorem NumsAt.list {n₀:Nat} {w:World} {v:Value} {zs:List Int} (h:NumsAt n₀ w v zs):Ow w v zs:=RecAt.recs YC (by omega) h
theorem My {w:World} {b off:Nat} {zs:List Int} (h:∀ j,j<zs.length-> ∀ i u,(Sf (Z8 zs j))[i]?=some u->w.cell? ⟨b,off+j*1+i,none⟩=some u) {j:Nat} (hj:j<zs.length) :
  w.cell? ⟨b,off+j,none⟩=some (.int .i64 (Z8 zs j)):=by
 have:=h j hj 0 _ rfl;simpa using this
theorem IM (g o i:Nat):(⟨g,o,none⟩:Addr).add i=⟨g,o+i,none⟩:=by unfold Addr.add;split<;>simp_all
theorem PE {e k bytes:Nat} {z:Value} (h:(Tryz.prog.info? e).map (fun i=>(i.zero,i.size,i.bytes))=some (some z,k,bytes)):∃ i,Tryz.prog.info? e=some i/\i.zero=some z/\i.size=k/\i.bytes=bytes:=by
 cases hi:Tryz.prog.info? e with
 | none=>rw [hi] at h;cases h
 | some i=>
  rw [hi] at h;simp only [Option.map_some,Option.some.injEq,Prod.mk.injEq] at h;exact ⟨i,rfl,h.1,h.2.1,h.2.2⟩
theorem RZ {w:World} {base t ty e size n:Nat} {i:TypeInfo} (ht:Tryz.prog.underlying t=some (.slice e)) (hi:Tryz.prog.info? e=some i) {v:Value} {xs:List Value} (hown:w.ownsRow base e size v n xs) (a:Option Addr) (c:Nat) :
  (Builtin.append_ #[t,t] ty #[v,.slice a 0 c]).run Tryz.prog w= .ok v w:=by
 rcases hown.2 with ⟨rfl,rfl⟩ | ⟨g,cap,cur,rfl,_,_,hnc,_⟩
 ·cases a<;>simp [Builtin.append_,run_underlying ht,sizeOf,typeInfo,hi,Builtin.lenOf,Builtin.firstCells,loadCells,loadCellsFrom]
 ·cases a<;>simp [Builtin.append_,run_underlying ht,sizeOf,typeInfo,hi,Builtin.lenOf,Builtin.firstCells,hnc,storeCells,loadCells,loadCellsFrom]
structure NW {α:Type} (e k:Nat) (z:Value) (enc:α->List Value):Prop where
 info:(Tryz.prog.info? e).map (fun i=>(i.zero,i.size,i.bytes))=some (some z,k,8*k)
 zero:z.cells.size=k
 len:∀ x,(enc x).length=k
 pos:0<k
 few:k<=100
 one:∀ x,∀ u ∈ enc x,u.oneCell'=true
section
variable {α : Type} {e k : Nat} {enc : α → List Value}
theorem F7 (hone:∀ x:α,∀ u ∈ enc x,u.oneCell'=true) (qs:List α):∀ u ∈ UF enc qs,u.oneCell'=true:=fun u hu=>by
 unfold UF at hu;obtain ⟨p,_,hp⟩:=List.mem_flatMap.1 hu;exact hone p u hp
theorem Y3 {B g:Nat} {w:World} (hg:g=w.heap.size) (hB:B<=g):RecAt e k enc B (w.alloc (.cells #[] e)) (.slice (some ⟨g,0,none⟩) 0 0) []:=by
 subst hg;exact ⟨by simp [UF],.inr ⟨_,0,#[],rfl,hB,heap_alloc_new w _,Z2 _,Zz _,by simp,by simp [UF]⟩⟩
end
section
variable {α : Type} [Inhabited α] {e k : Nat} {enc : α → List Value} {z : Value}
theorem Ki (hk:∀ x,(enc x).length=k) (h0:0<k) {w:World} {b off:Nat} {qs:List α} (h:∀ j,j<qs.length-> ∀ i u,(enc (Z8 qs j))[i]?=some u->w.cell? ⟨b,off+j*k+i,none⟩=some u) :
  ∀ (j:Nat) (u:Value),(UF enc qs)[j]?=some u->w.cell? ((⟨b,off,none⟩:Addr).add j)=some u:=fun j u hj=>by
 have hlt:j<qs.length*k:=by
  rcases Nat.lt_or_ge j (qs.length*k) with h | h
  ·exact h
  ·rw [List.getElem?_eq_none (by rw [V7 hk];exact h)] at hj;cases hj
 have hd:j / k<qs.length:=(Nat.div_lt_iff_lt_mul h0).2 hlt;have hr:j%k<k:=Nat.mod_lt _ h0;have he:j=j / k*k+j%k:=by rw [Nat.mul_comm];exact (Nat.div_add_mod j k).symm
 rw [IM];rw [he,VF hk qs (j / k) hd (j%k) hr] at hj;have:=h (j / k) hd (j%k) u hj;rw [Nat.add_assoc,<-he] at this;exact this
theorem V3 (T:NW e k z enc) {w:World} {base t ty:Nat} (ht:Tryz.prog.underlying t=some (.slice e)) {v x:Value} {ps qs:List α} (hown:RecAt e k enc base w v ps) (hx:IsRec k enc w x qs) (hb:ps.length+qs.length<=4000) (hbase:base<=w.heap.size) :
  ∃ v' w',(Builtin.append_ #[t,t] ty #[v,x]).run Tryz.prog w= .ok v' w'/\RecAt e k enc base w' v' (ps++qs)/\w.grownBy w' v.ownBlock/\(v'.ownBlock=v.ownBlock\/v'.ownBlock=some w.heap.size):=by
 obtain ⟨i0,hi,hz0,hz1,hz2⟩:=PE T.info;obtain ⟨a,c,rfl,hc,hm,hr⟩:=hx;by_cases h0:qs=[]
 ·subst h0
  refine ⟨v,w,RZ ht hi hown a c,by simpa using hown,Sl _ _,.inl rfl⟩
 ·rcases hr with hr | ⟨b,off,rfl,hlt,hcl⟩
  ·exact absurd hr h0
  ·have hk:=T.few
   have hmul:(ps.length+qs.length)*(8*k)<=4000*800:=Nat.mul_le_mul hb (by omega)
   obtain ⟨v',w',hr,h2,h3,_,h5⟩:=run_append_own_at (P:=Tryz.prog) w base t ty e i0 z k (8*k) ht hi hz0 hz1 hz2 T.zero T.pos v ps.length _ hown ⟨b,off,none⟩ qs.length c (UF enc qs) (V7 T.len qs)
    (Ki T.len T.pos hcl) (F7 T.one qs) (by simp only [maxLen];omega) (by omega) hbase
   refine ⟨v',w',hr,?_,h3,h5⟩;unfold RecAt;rw [N7,List.length_append];exact h2
theorem ZE (T:NW e k z enc) {w:World} {ops:Array Oper} {rest:List Oper} {o:Oper} {a:Act} {Q:Exit->Act->World->Prop} (hgd:o.guard=none) (s x:Operand) (t:TypeId) (ht:Tryz.prog.underlying t=some (.slice e))
  (ho:o.op= .call { callee:= .builtin .append,args:=#[s,x],argTypes:=#[t,t] }) (base:Nat) (v u:Value) (ps qs:List α) (hs:a.eval s=v) (hx:a.eval x=u) (hown:RecAt e k enc base w v ps) (hr:IsRec k enc w u qs)
  (hb:ps.length+qs.length<=4000) (hbase:base<=w.heap.size)
  (h:∀ v' w',RecAt e k enc base w' v' (ps++qs)->w.grownBy w' v.ownBlock->(v'.ownBlock=v.ownBlock\/v'.ownBlock=some w.heap.size)->wpList Tryz.prog ops Q rest (a.put o.dst v') w') :
  wpList Tryz.prog ops Q (o::rest) a w:=by
 refine wpList_plain hgd fun K hK=> ?_;obtain ⟨v',w',hrun,h2,h3,h5⟩:=V3 T (ty:=o.type) ht hown hr hb hbase;unfold Oper.wp execOp;simp only [ho,resolve,invoke,builtin,Sem.run_bind,Sem.run_pure,Result.andThen_ok,List.map_toArray,List.map_cons,List.map_nil,hs,hx,hrun];exact hK _ _ (h v' w' h2 h3 h5)
theorem WB {w:World} (x:α) {g c:Nat} (hg:g=w.heap.size) (hc:1<=c) (hc2:c<=4000):IsRec k enc (w.alloc (.cells (enc x).toArray e)) (.slice (some ⟨g,0,none⟩) 1 c) [x]:=by
 subst hg;refine ⟨_,c,rfl,hc,by omega,.inr ⟨_,0,rfl,by simp,fun j hj i u hu=> ?_⟩⟩;obtain rfl:j=0:=by simpa using hj
 rw [Nat.zero_mul,Nat.zero_add,World.cell?_alloc_at _ _ _ _ rfl];have hr:Z8 [x] 0=x:=rfl;rw [hr] at hu;simpa using hu
theorem BO (hk:∀ x,(enc x).length=k) (h0:0<k) (xs:List α) {j i:Nat} (hj:j<xs.length) (hi:i<k) (u:Value) (x:α) (hx:enc x=(enc (Z8 xs j)).set i u):(UF enc xs).set (j*k+i) u=UF enc (xs.set j x):=by
 have hl:=V7 hk xs;have hjk:j*k+k<=xs.length*k:=by rw [<-Nat.succ_mul];exact Nat.mul_le_mul_right k hj
 apply List.ext_getElem?;intro m;by_cases hm:m<xs.length*k
 ·have hd:m / k<xs.length:=(Nat.div_lt_iff_lt_mul h0).2 hm
  have hr:m%k<k:=Nat.mod_lt _ h0;have he:m=m / k*k+m%k:=by rw [Nat.mul_comm];exact (Nat.div_add_mod m k).symm
  have hg:=VF hk (xs.set j x) (m / k) (by simpa using hd) (m%k) hr;have hg0:=VF hk xs (m / k) hd (m%k) hr;rw [<-he] at hg hg0;rw [hg,ZI hj];by_cases e:m / k=j
  ·rw [if_pos e,hx]
   by_cases ei:m%k=i
   ·have hmi:m=j*k+i:=by rw [<-e,<-ei];exact he
    rw [ei,hmi,List.getElem?_set_self (by rw [hl];omega),List.getElem?_set_self (by rw [hk];exact hi)]
   ·have hmi:j*k+i ≠ m:=by rw [<-e];omega
    rw [List.getElem?_set_ne hmi,List.getElem?_set_ne (Ne.symm ei),hg0,e]
  ·rw [if_neg e,List.getElem?_set_ne,hg0]
   intro h;apply e;rw [<-h];exact Nat.div_eq_of_lt_le (Nat.le_add_right _ _) (by rw [Nat.succ_mul];omega)
 ·rw [List.getElem?_eq_none (by simp;omega),List.getElem?_eq_none (by rw [V7 hk];simp;omega)]
theorem RecAt.put1 (hk:∀ x,(enc x).length=k) (h0:0<k) {t n₀ n cap g:Nat} {w:World} {xs:List α} (h:RecAt t k enc n₀ w (.slice (some ⟨g,0,none⟩) n cap) xs) (hn:n=xs.length) {j i:Nat} (hj:j<xs.length) (hi:i<k) (u:Value) (x:α) (hx:enc x=(enc (Z8 xs j)).set i u) :
  RecAt t k enc n₀ (w.setCell ⟨g,j*k+i,none⟩ u) (.slice (some ⟨g,0,none⟩) n cap) (xs.set j x)/\w.grownBy (w.setCell ⟨g,j*k+i,none⟩ u) (some g):=by
 subst hn;obtain ⟨h1,h2⟩:=World.ownsRow.stored h (j*k+i) u;rw [BO hk h0 xs hj hi u x hx] at h1;refine ⟨?_,h2⟩;unfold RecAt;rw [V5];exact h1
end
end Go.Proofs.YtamgfpdahadnfaaGreatDoor
namespace Go.Proofs.YtamgfpdahadnfaaGreatDoor
open Go.ChangeShapes Go.WideShapes Go.ChangeAt Go.RowKit Go.Sort
set_option linter.unusedVariables false
set_option maxRecDepth 100000
theorem DQ (a b c d:Int) (w:World):(Op.equalIn 10000 171 (.agg #[.int .i64 a,.int .i64 b]) (.agg #[.int .i64 c,.int .i64 d])).run Tryz.prog w= .ok (a ==c && b ==d) w:=by
 have u:=Tryz.underlying2;have ag:=Tryz.isAgg2;have z:=Tryz.sizeOf2;have hc:Tryz.prog.cellsOf 2=1:=by kernel_rfl
 obtain ⟨i,hi⟩:=Option.isSome_iff_exists.1 (show (Tryz.prog.info? 2).isSome=true by kernel_rfl);rw [show (10000:Nat)=9999+1 from rfl,run_equalIn_array w 9999 _ _ Tryz.underlying171 hi,hc];simp only [show List.range 2=[0,1] from rfl,Op.eqItems];go_simp;by_cases h:a=c
 ·subst h
  by_cases h2:b=d
  ·subst h2;simp
  ·simp [h2]
 ·simp [h]
theorem zD (a b c d:Int) (w:World):(binOp .eql 171 (.agg #[.int .i64 a,.int .i64 b]) (.agg #[.int .i64 c,.int .i64 d])).run Tryz.prog w= .ok (.bool (a ==c && b ==d)) w:=by
 rw [run_eql_struct,DQ];rfl
theorem Pk (lo hi n:Int) (w:World):Calls Tryz.prog 235 #[.agg #[.int .i64 lo,.int .i64 hi],.int .i64 n] w fun e w'=>e= .returned (.agg #[.int .i64 (min lo n),.int .i64 (max hi n)])/\Below w.heap.size w w':=by
 by_cases h1:lo<=n
 all_goals
  by_cases h2:hi<n
  all_goals
   go_enter Tryz.func235,Tryz.ntmps235;go_wp2_with fail;exact ZQ (v:= .agg #[.int .i64 (min lo n),.int .i64 (max hi n)]) (by simp [results,Tryz.results235,go_sem];omega) rfl ⟨rfl,((ba _ _)).alloc (by simp) _⟩
theorem DP (m:Int) (w:World) (m0 : -1000000000000<=m) (m1:m<=1000000000000):Calls Tryz.prog 187 #[.int .i64 m] w fun e w'=>e= .returned (.agg #[.int .i64 (m-20000),.int .i64 (m+63000)])/\Below w.heap.size w w':=by
 go_enter Tryz.func187,Tryz.ntmps187;go_wp2_with fail;exact ZQ (v:= .agg #[.int .i64 (m-20000),.int .i64 (m+63000)]) (by simp [results,Tryz.results187,go_sem]) rfl ⟨rfl,(ba _ _)⟩
def loL (lo:Int) (zs:List Int):Int:=zs.foldl min lo
def hiL (hi:Int) (zs:List Int):Int:=zs.foldl max hi
theorem xX (zs:List Int):∀ lo,loL lo zs<=lo:=by
 induction zs with
 | nil=>intro lo;exact Int.le_refl _
 | cons z zs ih=>intro lo;exact Int.le_trans (ih (min lo z)) (Int.min_le_left _ _)
theorem xS (zs:List Int):∀ hi,hi<=hiL hi zs:=by
 induction zs with
 | nil=>intro hi;exact Int.le_refl _
 | cons z zs ih=>intro hi;exact Int.le_trans (Int.le_max_left _ _) (ih (max hi z))
theorem JD (zs:List Int):∀ lo hi,(loL lo zs ==lo && hiL hi zs ==hi)=zs.all fun z=>inB z lo hi:=by
 induction zs with
 | nil=>intro lo hi;simp [loL,hiL]
 | cons z zs ih=>
  intro lo hi;show (loL (min lo z) zs ==lo && hiL (max hi z) zs ==hi)=(inB z lo hi && zs.all fun z=>inB z lo hi)
  cases hz:inB z lo hi
  ·have hn:¬ (lo<=z/\z<=hi):=of_decide_eq_false hz
   have h1:=xX zs (min lo z);have h2:=xS zs (max hi z);simp only [Bool.false_and,Bool.and_eq_false_iff,beq_eq_false_iff_ne];omega
  ·obtain ⟨h1,h2⟩:=ZJ hz
   rw [show min lo z=lo by omega,show max hi z=hi by omega,ih];rfl
theorem An {lo:Int} {zs:List Int} {k:Nat} (hk:k<zs.length):loL lo (zs.take (k+1))=min (loL lo (zs.take k)) (zs.getD k 0):=by
 unfold loL;rw [List.take_succ_eq_append_getElem hk,List.foldl_append];simp [List.getD,List.getElem?_eq_getElem hk]
theorem Ab {hi:Int} {zs:List Int} {k:Nat} (hk:k<zs.length):hiL hi (zs.take (k+1))=max (hiL hi (zs.take k)) (zs.getD k 0):=by
 unfold hiL;rw [List.take_succ_eq_append_getElem hk,List.foldl_append];simp [List.getD,List.getElem?_eq_getElem hk]
attribute [local go_sem ↓] zD
theorem Qp (lo hi:Int) (b cap:Nat) (zs:List Int) (w:World) (hl:zs.length<=1000) (hb:b<w.heap.size) (hc:∀ k,k<zs.length->w.cell? ⟨b,k,none⟩=some (.int .i64 (zs.getD k 0))) :
  Calls Tryz.prog 189 #[.agg #[.int .i64 lo,.int .i64 hi],.slice (some ⟨b,0,none⟩) zs.length cap] w fun e w'=>e= .returned (.bool (zs.all fun z=>inB z lo hi))/\Below w.heap.size w w':=by
 have Hc:=Z9 hc;clear hc;go_enter Tryz.func189,Tryz.ntmps189;go_wp2_with fail
 go_loopw [11] (fun i wr=> ∃ k:Nat,k<=zs.length/\i= .int .i64 k/\Blk wr (w.heap.size+1) 171 #[.int .i64 (loL lo (zs.take k)),.int .i64 (hiL hi (zs.take k))]/\Blk wr w.heap.size 171 #[.int .i64 lo,.int .i64 hi]/\Below w.heap.size w wr) (fun i _=>zs.length-(intOf i).toNat)
 case atStart=>
  refine ⟨0,Zz _,rfl,?_,(Blk.new w _ _).alloc _,((ba _ _)).alloc (by simp) _⟩;have:=Blk.new (w.alloc (.cells #[.int .i64 lo,.int .i64 hi] 171)) 171 #[.int .i64 lo,.int .i64 hi];simpa [loL,hiL] using this
 case round=>
  obtain ⟨k,hk,rfl,hs,ho,hbl⟩:=hrel;have Hs:=Z9 hs;have Ho:=Z9 ho;have Hb:=Z9 hbl;by_cases hlt:k<zs.length
  ·have c0:=uh Hc k hlt
   rw [<-hbl.cell (p:=⟨b,k,none⟩) hb] at c0;have e1:=An (lo:=lo) hlt;have e2:=Ab (hi:=hi) hlt;have s0:=hs.cell (i:=0) rfl;have s1:=hs.cell (i:=1) rfl;have g0:=hs.free 0;have g1:=hs.free 1;generalize zs.getD k 0=z at *;generalize loL lo (zs.take k)=x at *;generalize hiL hi (zs.take k)=y at *;have E1:=Z9 e1;have E2:=Z9 e2;clear e1 e2 hs ho hbl;go_wp2_with fail;refine ck (Pk x y z _) fun w1 hb1=> ?_;have hs1:=(uh Hs).below hb1 (uh Hs).lt;have Hs1:=Z9 hs1;have Ho1:Hid (Blk w1 w.heap.size 171 #[.int .i64 lo,.int .i64 hi]):=Z9 ((uh Ho).below hb1 (uh Ho).lt);have B1:Hid (Below w.heap.size w w1):=Z9 ((uh Hb).trans (hb1.mono (uh Hb).size));have s0:=hs1.cell (i:=0) rfl;have s1:=hs1.cell (i:=1) rfl;have g0:=hs1.free 0;have g1:=hs1.free 1;clear hs1 hb1;go_wp2_with fail;go_roundw
   case rel=>
    refine ⟨k+1,by omega,by go_num,?_,?_,?_⟩
    ·rw [uh E1,uh E2]
     simpa using ((uh Hs1).set 0 (.int .i64 (min x z))).set 1 (.int .i64 (max y z))
    ·exact ((uh Ho1).other (by simp) _).other (by simp) _
    ·exact ((uh B1).setCell (by simp) _).setCell (by simp) _
   case measure=>exact ms
  ·obtain rfl:k=zs.length:=by omega
   rw [List.take_length] at hs;have e3:=JD zs lo hi;have s0:=hs.cell (i:=0) rfl;have s1:=hs.cell (i:=1) rfl;have o0:=ho.cell (i:=0) rfl;have o1:=ho.cell (i:=1) rfl;generalize loL lo zs=x at *;generalize hiL hi zs=y at *;have E3:=Z9 e3;clear e3 hs ho hbl Hs;go_wp2_with fail;go_ret;exact ⟨Z5 (uh E3),uh Hb⟩
theorem VO (b cap:Nat) (zs:List Int) (w:World) (hl:zs.length<=1000) (hb:b<w.heap.size) (hc:∀ k,k<zs.length->w.cell? ⟨b,k,none⟩=some (.int .i64 (zs.getD k 0))) :
  Calls Tryz.prog 186 #[.slice (some ⟨b,0,none⟩) zs.length cap] w fun e w'=>e= .returned (.bool (zs.all fun z=>inB z (-1000000000000) 1000000000000))/\Below w.heap.size w w':=by
 have Hc:=Z9 hc;clear hc;go_enter Tryz.func186,Tryz.ntmps186;go_wp2_with fail;refine ck (Qp _ _ b cap zs _ hl hb (uh Hc)) fun w1 hb1=> ?_;have B1:=Z9 hb1;clear hb1;go_wp2_with fail;go_ret;exact ⟨rfl,uh B1⟩
theorem Mf (h m:Int) (w:World):Calls Tryz.prog 129 #[.int .i64 h,.int .i64 m] w fun e w'=>e= .returned (.bool (Vg h m))/\Below w.heap.size w w':=by
 cases hh:Wi h && Wi m
 ·have hs:Vg h m=false:=by unfold Vg;rw [hh];rfl
  have Hs:=Z9 hs;clear hs;go_enter Tryz.func129,Tryz.ntmps129;go_wp2_with fail;refine (VO _ _ [h,m] _ (by simp) (by simp) ?_).mono ?_
  ·intro k hk
   simp at hk
   match k,hk with
   | 0,_=>simp
   | 1,_=>simp
  rintro e w1 ⟨rfl,hb⟩;rw [Dc,hh];have B1:Hid (Below w.heap.size w w1):=Z9 (((ba _ _)).trans (hb.mono (by simp)));clear hb;go_wp2_with fail;go_ret;exact ⟨Z5 (uh Hs).symm,uh B1⟩
 ·have hs:Vg h m=inB (h-m) (-20000) 63000:=by unfold Vg;rw [hh];rfl
  have Hs:=Z9 hs;have h':=hh;simp only [ZL] at h';obtain ⟨m0,m1⟩:=Rn h'.2;clear hs h';go_enter Tryz.func129,Tryz.ntmps129;go_wp2_with fail;refine (VO _ _ [h,m] _ (by simp) (by simp) ?_).mono ?_
  ·intro k hk
   simp at hk
   match k,hk with
   | 0,_=>simp
   | 1,_=>simp
  rintro e w1 ⟨rfl,hb⟩;rw [Dc,hh];have B1:Hid (Below w.heap.size w w1):=Z9 (((ba _ _)).trans (hb.mono (by simp)));clear hb;go_wp2_with fail;refine ck (DP m _ m0 m1) fun w2 hb=> ?_;have B2:Hid (Below w.heap.size w w2):=Z9 ((uh B1).trans (hb.mono (uh B1).size));clear hb B1;go_wp2_with fail;refine (Qp _ _ _ _ [h] _ (by simp) (by simp) ?_).mono ?_
  ·intro k hk
   simp at hk;subst hk;simp
  rintro e w3 ⟨rfl,hb⟩;rw [yS];have B3:Hid (Below w.heap.size w w3):=Z9 (((uh B2).alloc (uh B2).size _).trans (hb.mono (by have:=(uh B2).size;simp;omega)));clear hb B2;go_wp2_with fail;go_ret;exact ⟨Z5 (uh Hs).symm,uh B3⟩
theorem KU (h f t:Int) (w:World):Calls Tryz.prog 128 #[.int .i64 h,.int .i64 f,.int .i64 t] w fun e w'=>e= .returned (.int .i64 (Zr h f t))/\Below w.heap.size w w':=by
 cases hh:Wi h && (Wi f && Wi t)
 ·have hs:Zr h f t=h:=by unfold Zr;rw [hh];rfl
  have Hs:=Z9 hs;clear hs;go_enter Tryz.func128,Tryz.ntmps128;go_wp2_with fail;refine (VO _ _ [h,f,t] _ (by simp) (by simp) ?_).mono ?_
  ·intro k hk
   simp at hk
   match k,hk with
   | 0,_=>simp
   | 1,_=>simp
   | 2,_=>simp
  rintro e w1 ⟨rfl,hb⟩;rw [yw,hh];have B1:Hid (Below w.heap.size w w1):=Z9 (((ba _ _)).trans (hb.mono (by simp)));clear hb;go_wp2_with fail;go_ret;exact ⟨ZA (uh Hs).symm,uh B1⟩
 ·have hs:Zr h f t=h-f+t:=by unfold Zr;rw [hh];rfl
  have Hs:=Z9 hs;have h':=hh;simp only [ZL] at h';obtain ⟨h0,h1⟩:=Rn h'.1;obtain ⟨f0,f1⟩:=Rn h'.2.1;obtain ⟨t0,t1⟩:=Rn h'.2.2;clear hs h';go_enter Tryz.func128,Tryz.ntmps128;go_wp2_with fail;refine (VO _ _ [h,f,t] _ (by simp) (by simp) ?_).mono ?_
  ·intro k hk
   simp at hk
   match k,hk with
   | 0,_=>simp
   | 1,_=>simp
   | 2,_=>simp
  rintro e w1 ⟨rfl,hb⟩;rw [yw,hh];have B1:Hid (Below w.heap.size w w1):=Z9 (((ba _ _)).trans (hb.mono (by simp)));clear hb;go_wp2_with fail;go_ret;exact ⟨ZA (uh Hs).symm,uh B1⟩
theorem Mg (m f:Int) (w:World):Calls Tryz.prog 215 #[.int .i64 m,.int .i64 f] w fun e w'=>e= .returned (.int .i64 (Zv m f))/\Below w.heap.size w w':=by
 cases hh:Wi m && Wi f
 ·have hs:Zv m f=m:=by unfold Zv;rw [hh];rfl
  have Hs:=Z9 hs;clear hs;go_enter Tryz.func215,Tryz.ntmps215;go_wp2_with fail;refine (VO _ _ [m,f] _ (by simp) (by simp) ?_).mono ?_
  ·intro k hk
   simp at hk
   match k,hk with
   | 0,_=>simp
   | 1,_=>simp
  rintro e w1 ⟨rfl,hb⟩;rw [Dc,hh];have B1:Hid (Below w.heap.size w w1):=Z9 (((ba _ _)).trans (hb.mono (by simp)));clear hb;go_wp2_with fail;go_ret;exact ⟨ZA (uh Hs).symm,uh B1⟩
 ·have hs:Zv m f=min (max m f) 900000000000:=by unfold Zv;rw [hh];rfl
  have Hs:=Z9 hs;clear hs;go_enter Tryz.func215,Tryz.ntmps215;go_wp2_with fail;refine (VO _ _ [m,f] _ (by simp) (by simp) ?_).mono ?_
  ·intro k hk
   simp at hk
   match k,hk with
   | 0,_=>simp
   | 1,_=>simp
  rintro e w1 ⟨rfl,hb⟩;rw [Dc,hh];have B1:Hid (Below w.heap.size w w1):=Z9 (((ba _ _)).trans (hb.mono (by simp)));clear hb;go_wp2_with fail;refine ck (UT m f 900000000000 _) fun w2 hw2=> ?_;subst w2;go_wp2_with fail;go_ret;exact ⟨ZA (uh Hs).symm,uh B1⟩
theorem FH (x:Int) (w:World):Calls Tryz.prog 103 #[.int .i64 x] w fun e w'=>e= .returned (.bool (Wi x))/\w'=w:=by
 go_enter Tryz.func103,Tryz.ntmps103;go_wp2_with (go_at_call 59;refine (ZU _ _ _ _).mono ?_;rintro e w' ⟨rfl,rfl⟩)
 go_ret;exact ⟨rfl,rfl⟩
theorem Yp {x:Int} {r:Bool} (h:Wi x=r) (w:World):Calls Tryz.prog 103 #[.int .i64 x] w fun e w'=>e= .returned (.bool r)/\w'=w:=by
 rw [<-h];exact FH x w
theorem M5 (h m:Int) (w:World):Calls Tryz.prog 65 #[.int .i64 h,.int .i64 m] w fun e w'=>e= .returned (.int .i64 (YH h m))/\w'=w:=by
 cases h2:Wi m
 ·have hs:YH h m=h:=by unfold YH;rw [h2];rfl
  have Hs:=Z9 hs;have H2:=Z9 h2;clear hs h2;go_enter Tryz.func65,Tryz.ntmps65;go_wp2_with (go_at_call 103;refine (Yp (uh H2) _).mono ?_;rintro e w' ⟨rfl,rfl⟩)
  go_ret;exact ⟨ZA (uh Hs).symm,rfl⟩
 have hs:YH h m=max h (m-20000):=by unfold YH;rw [h2];rfl
 obtain ⟨b0,b1⟩:=Rn h2;have Hs:=Z9 hs;have H2:=Z9 h2;clear hs h2;go_enter Tryz.func65,Tryz.ntmps65;go_wp2_with (first | (go_at_call 124;refine (Tf _ _ _).mono ?_;rintro e w' ⟨rfl,rfl⟩) | (go_at_call 103;refine (Yp (uh H2) _).mono ?_;rintro e w' ⟨rfl,rfl⟩))
 go_ret;exact ⟨ZA (uh Hs).symm,rfl⟩
theorem Qy (h f t:Int) (w:World):Calls Tryz.prog 66 #[.int .i64 h,.int .i64 f,.int .i64 t] w fun e w'=>e= .returned (.int .i64 (Zr h f t))/\w'=w:=by
 cases h1:Wi h
 ·have hs:Zr h f t=h:=by unfold Zr;rw [h1];rfl
  have Hs:=Z9 hs;have H1:=Z9 h1;clear hs h1;go_enter Tryz.func66,Tryz.ntmps66;go_wp2_with (go_at_call 103;refine (Yp (uh H1) _).mono ?_;rintro e w' ⟨rfl,rfl⟩)
  go_ret;exact ⟨ZA (uh Hs).symm,rfl⟩
 cases h2:Wi f
 ·have hs:Zr h f t=h:=by unfold Zr;rw [h1,h2];rfl
  have Hs:=Z9 hs;have H1:=Z9 h1;have H2:=Z9 h2;clear hs h1 h2;go_enter Tryz.func66,Tryz.ntmps66;go_wp2_with (go_at_call 103;first | (refine (Yp (uh H1) _).mono ?_;rintro e w' ⟨rfl,rfl⟩) | (refine (Yp (uh H2) _).mono ?_;rintro e w' ⟨rfl,rfl⟩))
  go_ret;exact ⟨ZA (uh Hs).symm,rfl⟩
 cases h3:Wi t
 ·have hs:Zr h f t=h:=by unfold Zr;rw [h1,h2,h3];rfl
  have Hs:=Z9 hs;have H1:=Z9 h1;have H2:=Z9 h2;have H3:=Z9 h3;clear hs h1 h2 h3;go_enter Tryz.func66,Tryz.ntmps66;go_wp2_with (go_at_call 103;first | (refine (Yp (uh H1) _).mono ?_;rintro e w' ⟨rfl,rfl⟩) | (refine (Yp (uh H2) _).mono ?_;rintro e w' ⟨rfl,rfl⟩) | (refine (Yp (uh H3) _).mono ?_;rintro e w' ⟨rfl,rfl⟩))
  go_ret;exact ⟨ZA (uh Hs).symm,rfl⟩
 have hs:Zr h f t=h-f+t:=by unfold Zr;rw [h1,h2,h3];rfl
 obtain ⟨a0,a1⟩:=Rn h1;obtain ⟨b0,b1⟩:=Rn h2;obtain ⟨c0,c1⟩:=Rn h3;have Hs:=Z9 hs;have H1:=Z9 h1;have H2:=Z9 h2;have H3:=Z9 h3;clear hs h1 h2 h3;go_enter Tryz.func66,Tryz.ntmps66;go_wp2_with (go_at_call 103;first | (refine (Yp (uh H1) _).mono ?_;rintro e w' ⟨rfl,rfl⟩) | (refine (Yp (uh H2) _).mono ?_;rintro e w' ⟨rfl,rfl⟩) | (refine (Yp (uh H3) _).mono ?_;rintro e w' ⟨rfl,rfl⟩))
 go_ret;exact ⟨ZA (uh Hs).symm,rfl⟩
theorem MY (m f:Int) (w:World):Calls Tryz.prog 173 #[.int .i64 m,.int .i64 f] w fun e w'=>e= .returned (.int .i64 (Zv m f))/\w'=w:=by
 cases h1:Wi m
 ·have hs:Zv m f=m:=by unfold Zv;rw [h1];rfl
  have Hs:=Z9 hs;have H1:=Z9 h1;clear hs h1;go_enter Tryz.func173,Tryz.ntmps173;go_wp2_with (go_at_call 103;refine (Yp (uh H1) _).mono ?_;rintro e w' ⟨rfl,rfl⟩)
  go_ret;exact ⟨ZA (uh Hs).symm,rfl⟩
 cases h2:Wi f
 ·have hs:Zv m f=m:=by unfold Zv;rw [h1,h2];rfl
  have Hs:=Z9 hs;have H1:=Z9 h1;have H2:=Z9 h2;clear hs h1 h2;go_enter Tryz.func173,Tryz.ntmps173;go_wp2_with (go_at_call 103;first | (refine (Yp (uh H1) _).mono ?_;rintro e w' ⟨rfl,rfl⟩) | (refine (Yp (uh H2) _).mono ?_;rintro e w' ⟨rfl,rfl⟩))
  go_ret;exact ⟨ZA (uh Hs).symm,rfl⟩
 have hs:Zv m f=min (max m f) 900000000000:=by unfold Zv;rw [h1,h2];rfl
 have Hs:=Z9 hs;have H1:=Z9 h1;have H2:=Z9 h2;clear hs h1 h2;go_enter Tryz.func173,Tryz.ntmps173;go_wp2_with (first | (go_at_call 124;refine (Tf _ _ _).mono ?_;rintro e w' ⟨rfl,rfl⟩) | (go_at_call 222;refine (J3 _ _ _).mono ?_;rintro e w' ⟨rfl,rfl⟩) | (go_at_call 103;first | (refine (Yp (uh H1) _).mono ?_;rintro e w' ⟨rfl,rfl⟩) | (refine (Yp (uh H2) _).mono ?_;rintro e w' ⟨rfl,rfl⟩)))
 go_ret;exact ⟨ZA (uh Hs).symm,rfl⟩
end Go.Proofs.YtamgfpdahadnfaaGreatDoor
namespace Go.Proofs.YtamgfpdahadnfaaGreatDoor
open Go.ChangeShapes Go.WideShapes Go.ChangeAt Go.RowKit Go.Sort
open Draw (St Off Row Cur)
set_option linter.unusedVariables false
theorem Xi {a:Option Addr} {len cap bc:Nat} {w w':World} (h:St a len cap bc w) (hb:Below (bc+1) w w'):St a len cap bc w':=by
 obtain ⟨⟨hlt,i,x,h0,h1,c0,c1,c2,f1,f2⟩,hr⟩:=h;have hc:∀ o,w'.cell? ⟨bc,o,none⟩=w.cell? ⟨bc,o,none⟩:=fun o=>hb.cell (p:=⟨bc,o,none⟩) (Nat.lt_succ_self bc);have hf:∀ o,w'.frozen? ⟨bc,o,none⟩=w.frozen? ⟨bc,o,none⟩:=fun o=>hb.frozen (p:=⟨bc,o,none⟩) (Nat.lt_succ_self bc);refine ⟨⟨Zd hlt hb.size,i,x,h0,h1,(hc 0).trans c0,(hc 1).trans c1,(hc 2).trans c2,(hf 1).trans f1,(hf 2).trans f2⟩,Draw.row_below hr (hb.mono (Nat.le_succ bc))⟩
theorem Wa {a:Option Addr} {len cap bc:Nat} {w:World} (h:St a len cap bc w):bc<w.heap.size:=h.cur.1
theorem Th {bc:Nat} {a b c:World} (h:Off bc a b) (k:Below a.heap.size b c):Off bc a c:=
 ⟨k.os.trans h.os,k.tape.trans h.tape,k.output.trans h.output,XA h.size k.size,fun i hi hn=>(k.block i hi).trans (h.block i hi hn)⟩
theorem Ti {bc:Nat} {w w':World} (h:Off bc w.drew w'):Off bc w w':=⟨h.os,h.tape,h.output,h.size,h.block⟩
theorem SP {a:Option Addr} {len cap bc:Nat} {w:World} (h:St a len cap bc w):St a len cap bc w.drew:=⟨h.cur,h.row⟩
theorem Kf {bc:Nat} {w w':World} {cs:Array Value} {t:TypeId} {j:Int} (p:Off bc (w.alloc (.cells cs t)) w') (hb:bc<w.heap.size) (h0:0<=j) (h1:j<cs.size) (hz:cs.toList.all Draw.isI64=true):∃ v,w'.cell? ⟨w.heap.size,j.toNat,none⟩=some (.int .i64 v):=by
 obtain ⟨v,hv⟩:=Draw.pick_any cs j.toNat (by omega) hz;exact ⟨v,by rw [p.cell (p:=⟨w.heap.size,j.toNat,none⟩) (by simp) (by simp;omega),World.cell?_alloc_at _ _ _ _ rfl];exact hv⟩
theorem DI:NW 75 3 (.agg #[.int .i64 0,.int .i64 0,.int .i64 0]) Wu:=
 ⟨BT,rfl,Xp,by omega,by omega,fun x u hu=>by
  unfold Wu at hu;simp only [List.mem_cons,List.not_mem_nil,or_false] at hu
  rcases hu with rfl | rfl | rfl<;>rfl⟩
theorem L7 {w:World} (x0 x1 x2:Int) {g c:Nat} (hg:g=w.heap.size) (hc:1<=c) (hc2:c<=4000):Xz (w.alloc (.cells #[.int .i64 x0,.int .i64 x1,.int .i64 x2] 75)) (.slice (some ⟨g,0,none⟩) 1 c) [(x0,x1,x2)]:=
 WB (e:=75) (enc:=Wu) (x0,x1,x2) hg hc hc2
theorem RecAt.away {α:Type} {t k:Nat} {enc:α->List Value} {n₀ bc:Nat} {w w':World} {v:Value} {xs:List α} (h:RecAt t k enc n₀ w v xs) (ho:Off bc w w') (hb:bc<n₀):RecAt t k enc n₀ w' v xs:=
 h.same fun i hi=>ho.block i (h.lt hi).2 (by have:=(h.lt hi).1;omega)
structure Gbox (a:Option Addr) (len cap bc:Nat) (w0 w:World) (v:Value) (ps:List Zt):Prop where
 st:St a len cap bc w
 off:Off bc w0 w
 gt:bc<w0.heap.size
 row:GuildsAt w0.heap.size w v ps
section
variable {a : Option Addr} {len cap bc : Nat} {w0 w w' : World} {v : Value} {ps : List Zt}
theorem Gbox.step (h:Gbox a len cap bc w0 w v ps) (hs:St a len cap bc w') (ho:Off bc w w'):Gbox a len cap bc w0 w' v ps:=⟨hs,h.off.trans ho,h.gt,RecAt.away h.row ho h.gt⟩
theorem Gbox.alloc (h:Gbox a len cap bc w0 w v ps) (o:Obj):Gbox a len cap bc w0 (w.alloc o) v ps:=h.step (h.st.alloc _) ((Off.refl _ _).alloc _)
theorem Gbox.grown (h:Gbox a len cap bc w0 w v ps) {v':Value} {qs:List Zt} (hg:w.grownBy w' v.ownBlock) (hr:GuildsAt w0.heap.size w' v' qs):Gbox a len cap bc w0 w' v' qs:=by
 have hk:∀ k,v.ownBlock=some k->w0.heap.size<=k:=fun k e=>(RecAt.lt h.row e).1;have h1:=h.gt;have h2:=h.off.size;have hb:Below w0.heap.size w w':=(Z1 _ _).grown hg h2 hk;exact ⟨Xi h.st (hb.mono (by omega)),Th h.off hb,h.gt,hr⟩
end
theorem Ew (a:Option Addr) (len cap bc:Nat) (w:World) (hs:St a len cap bc w) :
  Calls Tryz.prog 149 #[.pointer (some ⟨bc,0,none⟩)] w fun e w'=> ∃ v ps,e= .returned v/\ps.length<=4/\Gbox a len cap bc w w' v ps:=by
 have Hs:=Z9 hs;have hbc:=Wa hs;clear hs;go_enter Tryz.func149,Tryz.ntmps149;go_wp2_with fail;have HE:Hid (GuildsAt w.heap.size (w.alloc (.cells #[] 75)) (.slice (some ⟨w.heap.size,0,none⟩) 0 0) []):=Z9 (Y3 rfl (Z2 _));refine (Draw.below_any a len cap bc 5 (by omega) (by omega) _ ((uh Hs).alloc _)).mono ?_;rintro e w1 ⟨n,rfl,n0,n1,s1,o1⟩;have HG1:Hid (Gbox a len cap bc w w1 (.slice (some ⟨w.heap.size,0,none⟩) 0 0) []):=Z9 (Gbox.step ⟨(uh Hs).alloc _,(Off.refl _ _).alloc _,hbc,uh HE⟩ s1 o1);clear s1 o1 HE;go_wp2_with fail
 go_loopw [3,4] (fun s i wr=> ∃ (k:Nat) (ps:List Zt),ps.length+k<=4/\i= .int .i64 k/\Gbox a len cap bc w wr s ps) (fun _ i _=>(intOf i).toNat)
 case atStart=>exact ⟨n.toNat,[],by simp;omega,by rw [show ((n.toNat:Nat):Int)=n by omega],uh HG1⟩
 case round=>
  obtain ⟨k,ps,hk,rfl,hG⟩:=hrel;obtain ⟨ra,rcap,rfl⟩:=RecAt.shape hG.row;have HG:=Z9 hG;clear hG;by_cases hk0:0<k
  ·go_wp2_with fail
   refine (Draw.below_any a len cap bc 600 (by omega) (by omega) _ (uh HG).st).mono ?_;rintro e w2 ⟨low,rfl,l0,l1,s2,o2⟩;have HG2:=Z9 ((uh HG).step s2 o2);clear s2 o2 HG;go_wp2_with fail;refine (Draw.below_any a len cap bc _ (by omega) (by omega) _ (uh HG2).st).mono ?_;rintro e w3 ⟨ab,rfl,a0,a1,s3,o3⟩;have HG3:=Z9 ((uh HG2).step s3 o3);clear s3 o3 HG2;go_wp2_with fail;refine (Draw.from_any a len cap bc low 1024 (by omega) (by omega) (by omega) _ (uh HG3).st).mono ?_;rintro e w4 ⟨hi,rfl,h0,h1,s4,o4⟩;have HG4:=Z9 ((uh HG3).step s4 o4);have hsz:=(uh HG4).off.size;clear s4 o4 HG3;go_wp2_with (at_builtin;refine ZE DI rfl (.tmp 15) (.tmp 27) 27 Tryz.underlying27 rfl w.heap.size _ _ ps [(ab-1,low,hi)] rfl rfl ((uh HG4).alloc _).row (L7 _ _ _ rfl (Z2 _) (by omega)) (by simp;omega) (by simp;omega) ?_;intro v' w5 hown hgrow hat)
   have HG5:=Z9 (((uh HG4).alloc _).grown hgrow hown);clear hown hgrow hat;go_wp2_with fail;go_roundw
   case rel=>exact ⟨k-1,ps++[(ab-1,low,hi)],by simp;omega,by rw [show ((k:Int)-1)=((k-1:Nat):Int) by omega],uh HG5⟩
   case measure=>exact ms
  ·obtain rfl:k=0:=by omega
   go_wp2_with fail;go_ret;exact ⟨_,ps,rfl,by omega,uh HG⟩
end Go.Proofs.YtamgfpdahadnfaaGreatDoor
namespace Go.Proofs.YtamgfpdahadnfaaGreatDoor
open Go.ChangeShapes Go.WideShapes Go.ChangeAt Go.RowKit Go.Sort
open Draw (St Off Row Cur)
set_option linter.unusedVariables false
theorem Gbox.put {a:Option Addr} {len cap bc:Nat} {w0 w:World} {g n rcap:Nat} {ps:List Zt} (h:Gbox a len cap bc w0 w (.slice (some ⟨g,0,none⟩) n rcap) ps) (hn:n=ps.length) {j i:Nat} (hj:j<ps.length) (hi:i<3) (y:Int) :
  ∃ qs:List Zt,qs.length=ps.length/\Gbox a len cap bc w0 (w.setCell ⟨g,j*3+i,none⟩ (.int .i64 y)) (.slice (some ⟨g,0,none⟩) n rcap) qs:=by
 have key:∃ x:Zt,Wu x=(Wu (Z8 ps j)).set i (.int .i64 y):=by
  generalize Z8 ps j=p;obtain ⟨p0,p1,p2⟩:=p
  rcases (show i=0\/i=1\/i=2 by omega) with rfl | rfl | rfl
  ·exact ⟨(y,p1,p2),rfl⟩
  ·exact ⟨(p0,y,p2),rfl⟩
  ·exact ⟨(p0,p1,y),rfl⟩
 obtain ⟨x,hx⟩:=key;obtain ⟨h1,h2⟩:=RecAt.put1 Xp (by omega) h.row hn hj hi (.int .i64 y) x hx;exact ⟨ps.set j x,by simp,h.grown h2 h1⟩
theorem K7 (a:Option Addr) (len cap bc:Nat) (w:World) (hs:St a len cap bc w) :
  Calls Tryz.prog 90 #[.pointer (some ⟨bc,0,none⟩)] w fun e w'=> ∃ v ps,e= .returned v/\ps.length<=4/\Gbox a len cap bc w w' v ps:=by
 have Hs:=Z9 hs;clear hs;go_enter Tryz.func90,Tryz.ntmps90;go_wp2_with fail;refine (Ew a len cap bc _ (uh Hs)).mono ?_;rintro e w1 ⟨v,ps,rfl,hl,hG⟩;obtain ⟨ra,rcap,rfl⟩:=RecAt.shape hG.row;have HG:=Z9 hG;clear hG Hs;by_cases hz:0<ps.length
 ·go_wp2_with fail
  refine (Draw.once_any a len cap bc 6 (by omega) (by omega) _ (uh HG).st).mono ?_;rintro e w2 ⟨b,rfl,s2,o2⟩;have HG2:=Z9 ((uh HG).step s2 o2);clear s2 o2 HG;cases b
  ·go_wp2_with fail
   go_ret;exact ⟨_,ps,rfl,hl,uh HG2⟩
  ·go_wp2_with fail
   refine (Draw.below_any a len cap bc _ (by omega) (by omega) _ (uh HG2).st).mono ?_;rintro e w3 ⟨x,rfl,x0,x1,s3,o3⟩;have HG3:=Z9 ((uh HG2).step s3 o3);clear s3 o3 HG2;obtain ⟨j,rfl⟩:∃ j:Nat,x=j:=⟨x.toNat,by omega⟩
   have hj:j<ps.length:=by omega
   obtain ⟨g,rfl,_⟩:=RecAt.view Xp (by omega) (uh HG3).row rfl hz;go_wp2_with fail;refine (Draw.below_any a len cap bc 3 (by omega) (by omega) _ (uh HG3).st).mono ?_;rintro e w4 ⟨y,rfl,y0,y1,s4,o4⟩;have HG4:=Z9 ((uh HG3).step s4 o4);clear s4 o4 HG3
   rcases (show y=0\/y=1\/y=2 by omega) with rfl | rfl | rfl
   ·go_wp2_with fail
    refine (Draw.from_any a len cap bc (-2) ps.length (by omega) (by omega) (by omega) _ (uh HG4).st).mono ?_;rintro e w5 ⟨z,rfl,z0,z1,s5,o5⟩;have HG5:=Z9 ((uh HG4).step s5 o5);clear s5 o5 HG4;obtain ⟨g',hg',_,_,hcells,hfz⟩:=RecAt.view Xp (by omega) (uh HG5).row rfl hz;cases hg';have c0:=hcells j hj 0 _ rfl;have f0:=hfz (j*3);simp only [Nat.add_zero] at c0;obtain ⟨qs,hq,hG6⟩:=(uh HG5).put rfl hj (i:=0) (by omega) z;have HG6:=Z9 hG6;clear hcells hfz hG6;go_wp2_with fail;go_ret;exact ⟨_,qs,rfl,by omega,uh HG6⟩
   ·go_wp2_with fail
    refine (Draw.drawForce_any a len cap bc _ (uh HG4).st).mono ?_;rintro e w5 ⟨z,rfl,s5,o5⟩;have HG5:=Z9 ((uh HG4).step s5 o5);clear s5 o5 HG4;obtain ⟨g',hg',_,_,hcells,hfz⟩:=RecAt.view Xp (by omega) (uh HG5).row rfl hz;cases hg';have c0:=hcells j hj 1 _ rfl;have f0:=hfz (j*3+1);obtain ⟨qs,hq,hG6⟩:=(uh HG5).put rfl hj (i:=1) (by omega) z;have HG6:=Z9 hG6;clear hcells hfz hG6;go_wp2_with fail;go_ret;exact ⟨_,qs,rfl,by omega,uh HG6⟩
   ·go_wp2_with fail
    refine (Draw.drawForce_any a len cap bc _ (uh HG4).st).mono ?_;rintro e w5 ⟨z,rfl,s5,o5⟩;have HG5:=Z9 ((uh HG4).step s5 o5);clear s5 o5 HG4;obtain ⟨g',hg',_,_,hcells,hfz⟩:=RecAt.view Xp (by omega) (uh HG5).row rfl hz;cases hg';have c0:=hcells j hj 2 _ rfl;have f0:=hfz (j*3+2);obtain ⟨qs,hq,hG6⟩:=(uh HG5).put rfl hj (i:=2) (by omega) z;have HG6:=Z9 hG6;clear hcells hfz hG6;go_wp2_with fail;go_ret;exact ⟨_,qs,rfl,by omega,uh HG6⟩
 ·obtain rfl:ps=[]:=List.eq_nil_of_length_eq_zero (by omega)
  go_wp2_with fail;go_ret;exact ⟨_,[],rfl,by simp,uh HG⟩
end Go.Proofs.YtamgfpdahadnfaaGreatDoor
