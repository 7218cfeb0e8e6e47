/- Part 11 of what the proof rests on. No condition but those that a theorem names. -/
import Derived.Test.YtgdpaigcmoifbaaGreatDoorXr03
import Derived.Test.YtgdpaigcmoifbaaGreatDoorXr04
import Derived.Test.YtgdpaigcmoifbaaGreatDoorXr05
import Derived.Test.YtgdpaigcmoifbaaGreatDoorXr06
import Derived.RangeFuncNested
import Derived.RangeFuncBound
import Derived.RangeFuncCalls
import Derived.RangeFuncLeaves
import Derived.RangeFuncBox
import Derived.Shelf.Abstract
import Derived.Shelf.RegionOpen
import Derived.OwnWalkIn
import Derived.TacticsInMore
import Derived.LoopNIn
import Derived.LoopIn
import Derived.ChangeKeysEq
import Derived.Laws.StructEq
set_option maxHeartbeats 8000000
set_option maxRecDepth 100000
namespace Go.Proofs.YtgdpaigcmoifbaaGreatDoor
open Go.ChangeShapes Go.WideShapes Go.ChangeAt Go.RowKit Go.Sort
set_option linter.unusedVariables false
abbrev E11:Array Value:=#[.int .i64 0,.int .i64 0,.int .i64 0,.int .i64 0,.int .i64 0,.int .i64 0,.int .i64 0,.int .i64 0,.int .i64 0,.int .i64 0,.int .i64 0]
abbrev I11 (a b c d e f g h i j k:Int):Array Value:=#[.int .i64 a,.int .i64 b,.int .i64 c,.int .i64 d,.int .i64 e,.int .i64 f,.int .i64 g,.int .i64 h,.int .i64 i,.int .i64 j,.int .i64 k]
def Blk (w:World) (R:Nat) (t:TypeId) (cs:Array Value):Prop:=w.heap[R]?=some (.cells cs t (0,0))
section
variable {w w' : World} {R B : Nat} {t : TypeId} {cs : Array Value}
theorem Blk.lt (h:Blk w R t cs):R<w.heap.size:=(Array.getElem?_eq_some_iff.1 h).1
theorem Blk.cell (h:Blk w R t cs) {i:Nat} {v:Value} (hi:cs[i]?=some v):w.cell? ⟨R,i,none⟩=some v:=by simp [World.cell?,show w.heap[R]?=_ from h,hi]
theorem Blk.free (h:Blk w R t cs) (i:Nat):w.frozen? ⟨R,i,none⟩=false:=frozen_of_row w R i cs t h
theorem Blk.new (w:World) (t:TypeId) (cs:Array Value):Blk (w.alloc (.cells cs t)) w.heap.size t cs:=by show (w.heap.push _)[w.heap.size]?=_;simp
theorem Blk.same (h:Blk w R t cs) (hs:w'.heap[R]?=w.heap[R]?):Blk w' R t cs:=hs.trans h
theorem Blk.below (h:Blk w R t cs) (hb:Below B w w') (hR:R<B):Blk w' R t cs:=h.same (hb.block R hR)
theorem Blk.alloc (h:Blk w R t cs) (o:Obj):Blk (w.alloc o) R t cs:=h.below ((Z0 w.heap.size w).alloc (ZY _) o) h.lt
theorem Blk.set (h:Blk w R t cs) (i:Nat) (v:Value):Blk (w.setCell ⟨R,i,none⟩ v) R t (cs.setIfInBounds i v):=heap_setCell_same w R i cs t v h
theorem Blk.other (h:Blk w R t cs) {a:Addr} (ha:R ≠ a.block) (v:Value):Blk (w.setCell a v) R t cs:=h.same (heap_setCell_other w a R v ha)
theorem Blk.drewN (h:Blk w R t cs) (n:Nat):Blk (w.drewN n) R t cs:=h
end
theorem Zv (w:World) {t:TypeId} {cs:Array Value} {i:Nat} {v:Value} (hi:cs[i]?=some v):(w.alloc (.cells cs t)).cell? ⟨w.heap.size,i,none⟩=some v:=(Blk.new w t cs).cell hi
theorem Blk.c2 {w:World} {R:Nat} {t:TypeId} {v0 v1:Value} (h:Blk w R t #[v0,v1]):w.cell? ⟨R,0,none⟩=some v0/\w.cell? ⟨R,1,none⟩=some v1:=⟨h.cell rfl,h.cell rfl⟩
theorem Blk.c3 {w:World} {R:Nat} {t:TypeId} {v0 v1 v2:Value} (h:Blk w R t #[v0,v1,v2]):w.cell? ⟨R,0,none⟩=some v0/\w.cell? ⟨R,1,none⟩=some v1/\w.cell? ⟨R,2,none⟩=some v2:=⟨h.cell rfl,h.cell rfl,h.cell rfl⟩
theorem Blk.c4 {w:World} {R:Nat} {t:TypeId} {v0 v1 v2 v3:Value} (h:Blk w R t #[v0,v1,v2,v3]):w.cell? ⟨R,0,none⟩=some v0/\w.cell? ⟨R,1,none⟩=some v1/\w.cell? ⟨R,2,none⟩=some v2/\w.cell? ⟨R,3,none⟩=some v3:=⟨h.cell rfl,h.cell rfl,h.cell rfl,h.cell rfl⟩
theorem Blk.c6 {w:World} {R:Nat} {t:TypeId} {v0 v1 v2 v3 v4 v5:Value} (h:Blk w R t #[v0,v1,v2,v3,v4,v5]):w.cell? ⟨R,0,none⟩=some v0/\w.cell? ⟨R,1,none⟩=some v1/\w.cell? ⟨R,2,none⟩=some v2/\w.cell? ⟨R,3,none⟩=some v3/\w.cell? ⟨R,4,none⟩=some v4/\w.cell? ⟨R,5,none⟩=some v5:=⟨h.cell rfl,h.cell rfl,h.cell rfl,h.cell rfl,h.cell rfl,h.cell rfl⟩
theorem Blk.c11 {w:World} {R:Nat} {t:TypeId} {v0 v1 v2 v3 v4 v5 v6 v7 v8 v9 v10:Value} (h:Blk w R t #[v0,v1,v2,v3,v4,v5,v6,v7,v8,v9,v10]):w.cell? ⟨R,0,none⟩=some v0/\w.cell? ⟨R,1,none⟩=some v1/\w.cell? ⟨R,2,none⟩=some v2/\w.cell? ⟨R,3,none⟩=some v3/\w.cell? ⟨R,4,none⟩=some v4/\w.cell? ⟨R,5,none⟩=some v5/\w.cell? ⟨R,6,none⟩=some v6/\w.cell? ⟨R,7,none⟩=some v7/\w.cell? ⟨R,8,none⟩=some v8/\w.cell? ⟨R,9,none⟩=some v9/\w.cell? ⟨R,10,none⟩=some v10:=⟨h.cell rfl,h.cell rfl,h.cell rfl,h.cell rfl,h.cell rfl,h.cell rfl,h.cell rfl,h.cell rfl,h.cell rfl,h.cell rfl,h.cell rfl⟩
theorem bl {w w':World} {R:Nat} {t:TypeId} {cs:Array Value} (h:Hid (Blk w R t cs)) (hb:Below w.heap.size w w'):Hid (Blk w' R t cs):=Z9 ((uh h).below hb (uh h).lt)
theorem bt {w a b:World} (h:Hid (Below w.heap.size w a)) (hb:Below a.heap.size a b):Hid (Below w.heap.size w b):=Z9 ((uh h).trans (hb.mono (uh h).size))
theorem Blk.f3 {w:World} {R:Nat} {t:TypeId} {cs:Array Value} (h:Blk w R t cs):w.frozen? ⟨R,0,none⟩=false/\w.frozen? ⟨R,1,none⟩=false/\w.frozen? ⟨R,2,none⟩=false:=⟨h.free 0,h.free 1,h.free 2⟩
theorem Blk.f4 {w:World} {R:Nat} {t:TypeId} {cs:Array Value} (h:Blk w R t cs):w.frozen? ⟨R,0,none⟩=false/\w.frozen? ⟨R,1,none⟩=false/\w.frozen? ⟨R,2,none⟩=false/\w.frozen? ⟨R,3,none⟩=false:=⟨h.free 0,h.free 1,h.free 2,h.free 3⟩
theorem Blk.f6 {w:World} {R:Nat} {t:TypeId} {cs:Array Value} (h:Blk w R t cs):w.frozen? ⟨R,0,none⟩=false/\w.frozen? ⟨R,1,none⟩=false/\w.frozen? ⟨R,2,none⟩=false/\w.frozen? ⟨R,3,none⟩=false/\w.frozen? ⟨R,4,none⟩=false/\w.frozen? ⟨R,5,none⟩=false:=⟨h.free 0,h.free 1,h.free 2,h.free 3,h.free 4,h.free 5⟩
theorem Blk.f11 {w:World} {R:Nat} {t:TypeId} {cs:Array Value} (h:Blk w R t cs):w.frozen? ⟨R,0,none⟩=false/\w.frozen? ⟨R,1,none⟩=false/\w.frozen? ⟨R,2,none⟩=false/\w.frozen? ⟨R,3,none⟩=false/\w.frozen? ⟨R,4,none⟩=false/\w.frozen? ⟨R,5,none⟩=false/\w.frozen? ⟨R,6,none⟩=false/\w.frozen? ⟨R,7,none⟩=false/\w.frozen? ⟨R,8,none⟩=false/\w.frozen? ⟨R,9,none⟩=false/\w.frozen? ⟨R,10,none⟩=false:=⟨h.free 0,h.free 1,h.free 2,h.free 3,h.free 4,h.free 5,h.free 6,h.free 7,h.free 8,h.free 9,h.free 10⟩
theorem Vx (w:World) (t:TypeId) (cs:Array Value) (u:TypeId) (ds:Array Value):∃ W,(w.alloc (.cells cs t)).alloc (.cells ds u)=W/\Hid (Blk W w.heap.size t cs)/\Hid (Blk W (w.heap.size+1) u ds)/\Hid (Below w.heap.size w W):=by
 refine ⟨_,rfl,Z9 ((Blk.new w _ _).alloc _),Z9 ?_,Z9 (((ba _ _)).alloc (by simp) _)⟩;have k:=Blk.new (w.alloc (.cells cs t)) u ds;rw [YW] at k;exact k
theorem Dd (w:World) (t:TypeId) (cs:Array Value) (u:TypeId) (ds:Array Value) (v:TypeId) (es:Array Value):∃ W,((w.alloc (.cells cs t)).alloc (.cells ds u)).alloc (.cells es v)=W/\Hid (Blk W w.heap.size t cs)/\Hid (Blk W (w.heap.size+1) u ds)/\Hid (Blk W (w.heap.size+1+1) v es)/\Hid (Below w.heap.size w W):=by
 refine ⟨_,rfl,Z9 (((Blk.new w _ _).alloc _).alloc _),Z9 ?_,Z9 ?_,Z9 ((((ba _ _)).alloc (by simp) _).alloc (by simp;omega) _)⟩
 ·have k:=(Blk.new (w.alloc (.cells cs t)) u ds).alloc (.cells es v)
  rw [YW] at k;exact k
 ·have k:=Blk.new ((w.alloc (.cells cs t)).alloc (.cells ds u)) v es
  rw [YW,YW] at k;exact k
theorem Kj (w:World) (t:TypeId) (cs:Array Value):∃ W,w.alloc (.cells cs t)=W/\Hid (Below w.heap.size w W)/\Hid (Blk W w.heap.size t cs):=⟨_,rfl,Z9 ((ba _ _)),Z9 (Blk.new _ _ _)⟩
theorem V5 (w:World) (t:TypeId) (cs:Array Value):Hid (Below w.heap.size w (w.alloc (.cells cs t)))/\Hid (Blk (w.alloc (.cells cs t)) w.heap.size t cs):=⟨Z9 ((ba _ _)),Z9 (Blk.new _ _ _)⟩
theorem U7 (w:World) (t:TypeId) (cs:Array Value):∃ W,w.alloc (.cells cs t)=W/\Below w.heap.size w W/\Hid (Blk W w.heap.size t cs):=⟨_,rfl,(ba _ _),Z9 (Blk.new _ _ _)⟩
end Go.Proofs.YtgdpaigcmoifbaaGreatDoor
namespace Go.Proofs.YtgdpaigcmoifbaaGreatDoor
open Go.ChangeShapes Go.WideShapes Go.ChangeAt Go.RowKit Go.Sort Go.Proofs.Tryz
set_option linter.unusedVariables false
abbrev Yt:=Bool × Int × Int
def XG (p:Yt):List Value:=[.bool p.1,.int .i64 p.2.1,.int .i64 p.2.2]
theorem ZF (p:Yt):(XG p).length=3:=rfl
abbrev XE (w:World) (v:Value) (ps:List Yt):Prop:=IsRec 3 XG w v ps
abbrev DesksAt (n₀:Nat) (w:World) (v:Value) (ps:List Yt):Prop:=RecAt 87 3 XG n₀ w v ps
theorem Ed:(prog.info? 87).map (fun i=>(i.zero,i.size,i.bytes))=some (some (.agg #[.bool false,.int .i64 0,.int .i64 0]),3,24):=by kernel_rfl
theorem DesksAt.list {n₀:Nat} {w:World} {v:Value} {ps:List Yt} (h:DesksAt n₀ w v ps):XE w v ps:=RecAt.recs ZF (by omega) h
theorem Zg {w:World} {b off:Nat} {ps:List Yt} (h:∀ j,j<ps.length-> ∀ i u,(XG (Z8 ps j))[i]?=some u->w.cell? ⟨b,off+j*3+i,none⟩=some u) {j:Nat} (hj:j<ps.length) :
  w.cell? ⟨b,off+j*3,none⟩=some (.bool (Z8 ps j).1)/\w.cell? ⟨b,off+j*3+1,none⟩=some (.int .i64 (Z8 ps j).2.1)/\w.cell? ⟨b,off+j*3+2,none⟩=some (.int .i64 (Z8 ps j).2.2):=
 ⟨h j hj 0 _ rfl,h j hj 1 _ rfl,h j hj 2 _ rfl⟩
theorem KR (a:Option Addr) (n cap:Nat) (left:Int) (hn:n<=9223372036854775807) (h0:0<=left) (h1:left<=1048576) (w:World) :
  cE 23 #[.slice a n cap,.int .i64 left] w (.int .i64 (szV n left)):=by
 by_cases h:left-n<0
 all_goals
  go_enter func23,ntmps23
  go_wp2
  go_ret;exact ⟨ZQ (by first | exact (TP (by omega)).symm | exact (TQ (by omega)).symm),rfl⟩
theorem Hj (x0:Bool) (x1:Int) (x2:Int) (w:World) :
  cB 86 #[.agg #[.bool x0,.int .i64 x1,.int .i64 x2],.agg #[.bool x0,.int .i64 x1,.int .i64 x2]] w (.bool true):=by
 go_enter func86,ntmps86;go_wp2_with fail;go_ret;exact ⟨rfl,((ba _ _)).alloc (by simp) _⟩
theorem JH {w:World} {v u:Value} {ps:List Yt} (hv:XE w v ps) (hu:XE w u ps) :
  cB 43 #[v,u] w (.bool true):=by
 obtain ⟨a,cap,rfl,hc,hm,hr⟩:=hv;obtain ⟨a',cap',rfl,hc',hm',hr'⟩:=hu;have Hr:=Z9 hr;have Hr':=Z9 hr';clear hr hr';go_enter func43,ntmps43;go_wp2_with fail
 go_loopw [5] (fun i wr=> ∃ k:Nat,k<=ps.length/\i= .int .i64 k/\Below w.heap.size w wr) (fun i _=>ps.length-(intOf i).toNat)
 case atStart=>exact ⟨0,ZR _,rfl,Z0 _ _⟩
 case round=>
  obtain ⟨k,hk,rfl,hb⟩:=hrel;have Hb:=Z9 hb;by_cases hlt:k<ps.length
  ·rcases uh Hr with h0 | ⟨b,off,rfl,hbw,hcl⟩
   ·rw [h0] at hlt;simp at hlt
   rcases uh Hr' with h0 | ⟨b',off',rfl,hbw',hcl'⟩
   ·rw [h0] at hlt;simp at hlt
   obtain ⟨c0,c1,c2⟩:=Zg hcl hlt;obtain ⟨d0,d1,d2⟩:=Zg hcl' hlt;generalize Z8 ps k=p at *;obtain ⟨x0,x1,x2⟩:=p;simp only at c0 c1 c2 d0 d1 d2;have k0:=Z1 ((hb.cell (p:=⟨b,off+k*3,none⟩) hbw).trans c0);have m0:=Z1 ((hb.cell (p:=⟨b',off'+k*3,none⟩) hbw').trans d0);have k1:=Z1 ((hb.cell (p:=⟨b,off+k*3+1,none⟩) hbw).trans c1);have m1:=Z1 ((hb.cell (p:=⟨b',off'+k*3+1,none⟩) hbw').trans d1);have k2:=Z1 ((hb.cell (p:=⟨b,off+k*3+2,none⟩) hbw).trans c2);have m2:=Z1 ((hb.cell (p:=⟨b',off'+k*3+2,none⟩) hbw').trans d2);clear hcl hcl' hb c0 c1 c2 d0 d1 d2;go_wp2_with fail;refine wq ?_
   repeat (go_big_quiet_step (exact ZX (Hj _ _ _ _)))
   refine wpQuiet_nil ?_;intro _ hw';obtain ⟨⟨dq,osq⟩,hw''⟩:=hw';subst hw'';go_wp2_with fail;go_roundw
   case rel=>exact ⟨k+1,by omega,by go_num,(uh Hb).trans ((Z2 _ _ _).mono (uh Hb).size)⟩
   case measure=>exact ms
  ·go_wp2_with fail
   go_ret;exact ⟨rfl,hb⟩
theorem IX (x0:Bool) (x1:Int) (x2:Int) (w:World) :
  cB 75 #[.agg #[.bool x0,.int .i64 x1,.int .i64 x2]] w (.agg #[.bool x0,.int .i64 x1,.int .i64 x2]):=by
 go_enter func75,ntmps75;go_wp2_with fail;exact Y7 (v:= .agg #[.bool x0,.int .i64 x1,.int .i64 x2]) (by simp [results,results75,go_sem]) rfl ⟨rfl,(((ba _ _)).alloc (by simp) _).alloc (by simp;omega) _⟩
theorem Qs {w:World} {v:Value} {ps:List Yt} (h:XE w v ps) (hs:ps.length<=1048576) :
  Calls prog 34 #[v] w fun e w'=> ∃ v',e= .returned v'/\DesksAt w.heap.size w' v' ps/\Below w.heap.size w w':=by
 obtain ⟨a,cap,rfl,hc,hm,hr⟩:=h;have Hr:=Z9 hr;clear hr;obtain ⟨i0,hi,hz0,hz1,hz2⟩:=info_parts Ed;go_enter func34,ntmps34;go_wp2_with (at_make;refine wpList_make_full _ rfl _ _ 37 rfl w.heap.size 87 i0 (.agg #[.bool false,.int .i64 0,.int .i64 0]) 3 underlying37 hi hz0 hz1 _ _ _ _ ps.length rfl rfl rfl rfl (by rw [hz2];omega) (by unfold maxLen;omega) (ZY _) ?_;intro w0 hown hgrow)
 have Hown:Hid (DesksAt w.heap.size w0 (.slice (some ⟨w.heap.size,0,none⟩) ps.length ps.length) (WI ps (false,0,0) 0)):=Z9 (by
  rw [SF ZF (by omega) (false,0,0) (Value.agg #[.bool false,.int .i64 0,.int .i64 0]).cells rfl ps.length] at hown;rw [T0];show w0.ownsRow _ _ _ _ (List.replicate ps.length _).length _;rw [List.length_replicate]
  exact hown)
 have Hgr:=Z9 hgrow;clear hown hgrow
 go_loopw [4] (fun i wr=> ∃ k:Nat,k<=ps.length/\i= .int .i64 k/\DesksAt w.heap.size wr (.slice (some ⟨w.heap.size,0,none⟩) ps.length ps.length) (WI ps (false,0,0) k)/\Below w.heap.size w wr) (fun i _=>ps.length-(intOf i).toNat)
 case atStart=>exact ⟨0,ZR _,rfl,uh Hown,(Z0 _ _).grown (uh Hgr) (ZY _) (fun k e=>by cases e)⟩
 case round=>
  obtain ⟨k,hk,rfl,hown,hb⟩:=hrel;have Hb:=Z9 hb;by_cases hlt:k<ps.length
  ·rcases uh Hr with h0 | ⟨b,off,rfl,hbw,hcl⟩
   ·rw [h0] at hlt;simp at hlt
   obtain ⟨c0,c1,c2⟩:=Zg hcl hlt;rw [<-hb.cell (p:=⟨b,off+k*3,none⟩) hbw] at c0;rw [<-hb.cell (p:=⟨b,off+k*3+1,none⟩) hbw] at c1;rw [<-hb.cell (p:=⟨b,off+k*3+2,none⟩) hbw] at c2;have Ho:=Z9 hown;have HS:=Z9 (Sx (z:=((false,0,0):Yt)) hlt);generalize hp:Z8 ps k=p at *;obtain ⟨x0,x1,x2⟩:=p;simp only at c0 c1 c2;clear hcl hb hown hp;go_wp2_with fail;refine ck (IX _ _ _ _) fun w1 hb1=> ?_;have ho1:=RecAt.later (uh Ho) hb1;have hfl:=Sw (z:=((false,0,0):Yt)) hk;obtain ⟨g,hg,_,_,hcells,hfz⟩:=RecAt.view ZF (by omega) ho1 hfl.symm (by omega);cases hg;have hq:=fun i u hu=>hcells k (by omega) i u hu;generalize Z8 (WI ps (false,0,0) k) k=old at hq;have o0:=hq 0 _ rfl;have f0:=hfz (k*3);have o1:=hq 1 _ rfl;have f1:=hfz (k*3+1);have o2:=hq 2 _ rfl;have f2:=hfz (k*3+2);simp only [Nat.add_zero] at o0;have Hp2:=Z9 (RecAt.put ZF (by omega) ho1 hfl.symm (j:=k) (by omega) (x0,x1,x2));have Hb1:=Z9 hb1;have hsz:=hb1.size;have hsz0:=(uh Hb).size;clear ho1 hb1 hcells hq hfz hfl;go_wp2_with fail;go_roundw
   case rel=>exact ⟨k+1,by omega,by go_num,by have h9:=(uh Hp2).1;rw [uh HS] at h9;exact h9,((uh Hb).trans ((uh Hb1).mono hsz0)).trans (XR (uh Hp2).2 (ZY _) (by omega))⟩
   case measure=>exact ms
  ·obtain rfl:k=ps.length:=by omega
   rw [Sv] at hown;go_wp2_with fail;go_ret;exact ⟨_,rfl,hown,hb⟩
open Go.ChangeShapes Go.WideShapes Go.ChangeAt Go.RowKit
def VJ (s:Int):Nat->List Int
 | 0=>[]
 | k+1=>if VW s k=true then VJ s k++[(k:Int)] else VJ s k
def Uf (s:Int):List Int:=VJ s 8
def Wv (s:Int):Int:=(Uf s).headD (-1)
theorem TC {s:Int} {k:Nat} (h:VW s k=true):VJ s (k+1)=VJ s k++[(k:Int)]:=by simp [VJ,h]
theorem Vy {s:Int} {k:Nat} (h:VW s k=false):VJ s (k+1)=VJ s k:=by simp [VJ,h]
theorem Lh (s:Int):∀ k,(VJ s k).length<=k
 | 0=>by simp [VJ]
 | k+1=>by
  have:=Lh s k;cases h:VW s k
  ·rw [Vy h];omega
  ·rw [TC h];simp;omega
theorem Nn {s:Int} (h:inB s 0 255=false):∀ k,VJ s k=[]
 | 0=>rfl
 | k+1=>by rw [Vy (Ix (.inl h))];exact Nn h k
theorem E7 (s:Int):∀ k,k<=8->VJ s k <+: Uf s:=by
 have step:∀ k,VJ s k <+: VJ s (k+1):=fun k=>by
  cases h:VW s k
  ·rw [Vy h];exact List.prefix_refl _
  ·rw [TC h];exact List.prefix_append _ _
 have go:∀ d k,VJ s k <+: VJ s (k+d):=by
  intro d
  induction d with
  | zero=>intro k;exact List.prefix_refl _
  | succ d ih=>intro k;exact (ih k).trans (step (k+d))
 intro k hk;have:=go (8-k) k
 rwa [show k+(8-k)=8 by omega] at this
open Go.ChangeShapes Go.WideShapes Go.ChangeAt Go.RowKit Go.Shelf Go.Proofs.Tryz
attribute [local go_sem] Oper.semAt_some
def KeepsBox (Bn:Nat) (t:TypeId) (W W':World):Prop:= ∀ v,Boxed W Bn t v->Boxed W' Bn t v
theorem KeepsBox.trans {Bn:Nat} {t:TypeId} {A B C:World} (h:KeepsBox Bn t A B) (k:KeepsBox Bn t B C):KeepsBox Bn t A C:=fun v hv=>k v (h v hv)
theorem KeepsBox.putObj {Bn:Nat} {t:TypeId} {n:Nat} (h:Bn<n) (W:World) (l:Nat) (o o':Obj) (hl:n<=l) (_:W.heap[l]?=some o) (_:o.isCells=false) (_:o.isWalk=false):KeepsBox Bn t W (W.putObj l o'):=
 fun v hv=>hv.kept (grownBy_putObj' W l o') (fun e=>by cases e;omega)
theorem Kh (n:Nat) (hn:1<=n) (l Bn:Nat) (s:Int) (J Jx:List Int->World->Prop)
  (hY:∀ pre x W,J pre W->pre.length<8->YieldAt Fence.wide (n-1) prog l #[.int .i64 x] W fun e W'=>
   (e= .returned (.bool true)/\J (pre++[x]) W'/\KeepsBox Bn 2 W W')\/(e= .returned (.bool false)/\Jx (pre++[x]) W'))
  (W:World) (hBn:Boxed W Bn 2 (.int .i64 s)) (h0:J [] W) :
  CallsIn Fence.wide n prog 273 #[.func (.yield l) #[] #[],.pointer (some ⟨Bn,0,none⟩)] W fun e W'=>(∃ v,e= .returned v)/\
   ((∃ ys,ys=Uf s/\J ys W')\/(∃ pre,pre <+: Uf s/\Jx pre W')):=by
 refine callsIn_of_wp func273 rfl trivial ?_ rfl;simp only [ntmps273,List.size_toArray,XY,Xo,Nat.reduceAdd,Nat.reduceSub,Array.replicate_succ,Array.replicate_zero,List.push_toArray,List.append_toArray,List.nil_append,List.cons_append]
 gi_wp2
 gi_loopw [4] (fun i wr=> ∃ k:Nat,k<=8/\i= .int .i64 k/\Boxed wr Bn 2 (.int .i64 s)/\J (VJ s k) wr)
  (fun i wr=>8-(intOf i).toNat)
 case atStart=>exact ⟨0,by omega,rfl,hBn,h0⟩
 case round=>
  obtain ⟨k,hk,rfl,hbx,hJ⟩:=hrel;have hul:=Lh s k;have hc:=hbx.cell;have Hb:=Z9 hbx;clear hbx;by_cases hlt:(k:Int)<8
  ·cases hm:VW s k
   ·gi_wp2_with (refine ⟨trivial,?_⟩;gi_at_call 195;refine (callsIn_wide.2 (Wf _ _ _)).mono ?_;rintro e w' ⟨rfl,rfl⟩)
    refine ⟨fun _ h=>(by cases h),?_⟩
    gi_wp2
    go_roundw
    case rel=>exact ⟨k+1,by omega,by go_num,uh Hb,by rw [Vy hm];exact hJ⟩
    case measure=>exact ms
   ·obtain ⟨fn,tmps,assign,body,hy,hR⟩:=hY (VJ s k) k wr hJ (by omega)
    gi_wp2_with (refine ⟨trivial,?_⟩;gi_at_call 195;refine (callsIn_wide.2 (Wf _ _ _)).mono ?_;rintro e w' ⟨rfl,rfl⟩)
    refine hR.mono ?_;rintro e W3 (⟨rfl,hJ3,hk3⟩ | ⟨rfl,hJx3⟩)
    ·gi_wp2
     go_roundw
     case rel=>exact ⟨k+1,by omega,by go_num,hk3 _ (uh Hb),by rw [TC hm];exact hJ3⟩
     case measure=>exact ms
    ·gi_wp2
     refine Y7 (results_none rfl _ _ _) rfl ?_;exact ⟨⟨_,rfl⟩,.inr ⟨VJ s k++[(k:Int)],by rw [<-TC hm];exact E7 s (k+1) (by omega),hJx3⟩⟩
  ·obtain rfl:k=8:=by omega
   gi_wp2
   go_end0
   exact ⟨⟨_,rfl⟩,.inl hJ⟩
theorem Ue (n:Nat) (s:Int) (w:World) :
  CallsIn Fence.wide n prog 262 #[.int .i64 s] w fun e w'=>e= .returned (.func (.func 273) #[] #[.pointer (some ⟨w.heap.size,0,none⟩)])/\w'=w.alloc (.cells #[.int .i64 s] 2):=by
 refine callsIn_of_wp func262 rfl trivial ?_ rfl;simp only [ntmps262,List.size_toArray,XY,Xo,Nat.reduceAdd,Nat.reduceSub,Array.replicate_succ,Array.replicate_zero,List.push_toArray,List.append_toArray,List.nil_append,List.cons_append]
 gi_wp2
 go_ret;exact ⟨rfl,rfl⟩
theorem UU (n:Nat) (hn:1<=n) (Bn:Nat) (s:Int) (w:World) (hBn:Boxed w Bn 2 (.int .i64 s)) :
  SeqStopsK Fence.wide n prog 273 #[.pointer (some ⟨Bn,0,none⟩)] (fun x:Int=>#[Value.int .i64 x]) (KeepsBox Bn 2) (fun ys=>ys=Uf s) (fun pre=>pre <+: Uf s) 8 w:=fun l J Jx W hW _ _ hY h0=>
 Kh n hn l Bn s J Jx hY W ((hW.block Bn hBn.lt).trans hBn) h0
theorem Ox (n:Nat) (hn:3<=n) (s:Int) (w:World) :
  CallsIn Fence.wide n prog 244 #[.int .i64 s] w fun e w'=>e= .returned (.int .i64 (Wv s))/\Below w.heap.size w w':=by
 have h1:1<=n:=by omega
 refine callsIn_of_wp_marks func244 rfl trivial ?_ rfl;simp only [ntmps244,List.size_toArray,XY,Xo,Nat.reduceAdd,Nat.reduceSub,Array.replicate_succ,Array.replicate_zero,List.push_toArray,List.append_toArray,List.nil_append,List.cons_append]
 gi_wp2_with (refine ⟨trivial,?_⟩;gi_at_call 262;refine (Ue (n-1) _ _).mono ?_;rintro e w' ⟨rfl,rfl⟩)
 have bR:=Boxed.new w 2 (.int .i64 0);have bN:=Boxed.new (w.alloc (.cells #[.int .i64 0] 2)) 2 (.int .i64 s);simp only [YW] at bN;have hB0:Below w.heap.size w ((w.alloc (.cells #[.int .i64 0] 2)).alloc (.cells #[.int .i64 s] 2)):=((Z0 _ w).alloc (ZY _) _).alloc (by simp) _
 refine wpIn_rangeFunc_ownG rfl h1 (gf:=273) (lb:=#[.pointer (some ⟨w.heap.size+1,0,none⟩)]) rfl trivial (enters_of func273 (by kernel_rfl) rfl)
  (UU (n-1) (by omega) (w.heap.size+1) s _ bN) (fun h k=>h.trans k) (KeepsBox.putObj (by simp)) (Z0 _ _) (fun _=>rfl)
  (fun pre W=>(pre=[]/\Boxed W w.heap.size 2 (.int .i64 0))/\Below w.heap.size w W)
  (fun c pre W=>(c= .ret/\ ∃ x,pre=[x]/\Boxed W w.heap.size 2 (.int .i64 x))/\Below w.heap.size w W)
  (OwnFrom.and (Own.from (fun s A B row hs hg hr=>⟨hs.1,hs.2.kept hg (fun e=>by obtain ⟨o,ho,hc⟩:=hr _ e.symm;rw [show A.heap[w.heap.size]?=_ from hs.2] at ho;cases ho;cases hc)⟩) _) (ownFrom_below (ZY _) (by simp;omega)))
  (fun c=>OwnFrom.and (Own.from (fun s A B row hs hg hr=>by obtain ⟨e1,x,e2,hb⟩:=hs;exact ⟨e1,x,e2,hb.kept hg (fun e=>by obtain ⟨o,ho,hc⟩:=hr _ e.symm;rw [show A.heap[w.heap.size]?=_ from hb] at ho;cases ho;cases hc)⟩) _) (ownFrom_below (ZY _) (by simp;omega)))
  ⟨⟨rfl,bR.alloc _⟩,hB0⟩
  (fun x=>{ tmps:=#[.int .i64 s,undef,.pointer (some ⟨w.heap.size,0,none⟩),.int .i64 x,.int .i64 s,.func (.func 273) #[] #[.pointer (some ⟨w.heap.size+1,0,none⟩)],.int .i64 x,undef],defers:=[] }) ?assign ?body ?done ?stop
 case assign=>
  intro l x W K hK
  gi_wp2
  exact hK
 case body=>
  rintro l pre x W ⟨⟨rfl,hb⟩,hB⟩ _;have hc:=hb.cell;have hf:=hb.frozen
  gi_wp2
  exact ⟨(KeepsOthers.setCell _ _ _).from _,⟨rfl,x,rfl,hb.set _⟩,hB.setCell (p:=⟨w.heap.size,0,none⟩) (ZY _) _⟩
 case done=>
  rintro D ys W hD hys ⟨⟨hp,hb⟩,hB⟩ hK;have hc:=hb.cell;have hf:=hb.frozen
  gi_wp2
  have hK':=(KeepsOthers.setCell W ⟨w.heap.size,0,none⟩ (.int .i64 (-1))).same D _ hK rfl;refine ⟨by simp,.inl ⟨_,_,rfl,run_takeDeferred hK',?_⟩⟩;have hc5:=cell_kept (hb.set (.int .i64 (-1))).cell (grownBy_putObj' _ D (.deferred none)) (fun r e=>by cases e;exact ⟨_,hK',rfl⟩);have hm:Uf s=[]:=hys.symm.trans hp;refine ⟨.int .i64 (-1),?_,ZQ (by unfold Wv;rw [hm];rfl),(hB.setCell (p:=⟨w.heap.size,0,none⟩) (ZY _) _).trans (belowK_b (w:=w) (ZY _) _ D _ _ (by simp at hD;omega) hK' rfl rfl)⟩;simp [results,Tryz.f244,go_sem,hc5]
 case stop=>
  rintro D c pre W hD hpre ⟨⟨rfl,x,rfl,hb⟩,hB⟩ hK
  gi_wp2
  refine ⟨by simp,.inl ⟨_,_,rfl,run_takeDeferred hK,?_⟩⟩;have hc5:=cell_kept hb.cell (grownBy_putObj' _ D (.deferred none)) (fun r e=>by cases e;exact ⟨_,hK,rfl⟩);have hx:Wv s=x:=by obtain ⟨r,hr⟩:=hpre;unfold Wv;rw [<-hr];rfl
  refine ⟨.int .i64 x,?_,ZQ hx.symm,hB.trans (belowK_b (w:=w) (ZY _) W D _ _ (by simp at hD;omega) hK rfl rfl)⟩;simp [results,Tryz.f244,go_sem,hc5]
theorem PQ (s:Int) (w:World):cB 244 #[.int .i64 s] w (.int .i64 (Wv s)):=
 callsIn_wide.1 (Ox 3 (ZY _) s w)
end Go.Proofs.YtgdpaigcmoifbaaGreatDoor
namespace Go.Proofs.YtgdpaigcmoifbaaGreatDoor
open Go.ChangeShapes Go.WideShapes Go.ChangeAt Go.RowKit Go.Sort Go.Proofs.Tryz
set_option linter.unusedVariables false
set_option maxRecDepth 100000
theorem GS (a b c d:Int) (w:World):(Op.equalIn 10000 173 (.agg #[.int .i64 a,.int .i64 b]) (.agg #[.int .i64 c,.int .i64 d])).run prog w= .ok (a ==c && b ==d) w:=by
 have u:=underlying2;have ag:=Tryz.isAgg2;have z:=Tryz.sizeOf2;have hc:prog.cellsOf 2=1:=by kernel_rfl
 obtain ⟨i,hi⟩:=Option.isSome_iff_exists.1 (show (prog.info? 2).isSome=true by kernel_rfl);rw [show (10000:Nat)=9999+1 from rfl,run_equalIn_array w 9999 _ _ underlying173 hi,hc];simp only [show List.range 2=[0,1] from rfl,Op.eqItems];go_simp;by_cases h:a=c
 ·subst h
  by_cases h2:b=d
  ·subst h2;simp
  ·simp [h2]
 ·simp [h]
theorem DR (a b c d:Int) (w:World):(binOp .eql 173 (.agg #[.int .i64 a,.int .i64 b]) (.agg #[.int .i64 c,.int .i64 d])).run prog w= .ok (.bool (a ==c && b ==d)) w:=by
 rw [run_eql_struct,GS];rfl
theorem Ra (lo hi n:Int) (w:World):cB 181 #[.agg #[.int .i64 lo,.int .i64 hi],.int .i64 n] w (.agg #[.int .i64 (min lo n),.int .i64 (max hi n)]):=by
 by_cases h1:lo<=n
 all_goals
  by_cases h2:hi<n
  all_goals
   go_enter func181,ntmps181;go_wp2_with fail;exact Y7 (v:= .agg #[.int .i64 (min lo n),.int .i64 (max hi n)]) (by simp [results,results181,go_sem];omega) rfl ⟨rfl,((ba _ _)).alloc (by simp) _⟩
theorem Oc (m:Int) (w:World) (m0 : -1000000000000<=m) (m1:m<=1000000000000):cB 148 #[.int .i64 m] w (.agg #[.int .i64 (m-20000),.int .i64 (m+63000)]):=by
 go_enter func148,ntmps148;go_wp2_with fail;exact Y7 (v:= .agg #[.int .i64 (m-20000),.int .i64 (m+63000)]) (by simp [results,results148,go_sem]) rfl ⟨rfl,(ba _ _)⟩
theorem Nw (lo hi:Int) (w:World):cB 149 #[.agg #[.int .i64 lo,.int .i64 hi]] w (.int .i64 lo):=by
 go_enter func149,ntmps149;go_wp2_with fail;go_ret;exact ⟨rfl,(ba _ _)⟩
def loL (lo:Int) (zs:List Int):Int:=zs.foldl min lo
def hiL (hi:Int) (zs:List Int):Int:=zs.foldl max hi
theorem CA (zs:List Int):∀ lo,loL lo zs<=lo:=by
 induction zs with
 | nil=>intro lo;exact Int.le_refl _
 | cons z zs ih=>intro lo;exact Int.le_trans (ih (min lo z)) (Int.min_le_left _ _)
theorem Cy (zs:List Int):∀ hi,hi<=hiL hi zs:=by
 induction zs with
 | nil=>intro hi;exact Int.le_refl _
 | cons z zs ih=>intro hi;exact Int.le_trans (Int.le_max_left _ _) (ih (max hi z))
theorem Mw (zs:List Int):∀ lo hi,(loL lo zs ==lo && hiL hi zs ==hi)=zs.all fun z=>inB z lo hi:=by
 induction zs with
 | nil=>intro lo hi;simp [loL,hiL]
 | cons z zs ih=>
  intro lo hi;show (loL (min lo z) zs ==lo && hiL (max hi z) zs ==hi)=(inB z lo hi && zs.all fun z=>inB z lo hi)
  cases hz:inB z lo hi
  ·have hn:¬ (lo<=z/\z<=hi):=of_decide_eq_false hz
   have h1:=CA zs (min lo z);have h2:=Cy zs (max hi z);simp only [Bool.false_and,Bool.and_eq_false_iff,beq_eq_false_iff_ne];omega
  ·obtain ⟨h1,h2⟩:=ZO hz
   rw [show min lo z=lo by omega,show max hi z=hi by omega,ih];rfl
theorem Ek {lo:Int} {zs:List Int} {k:Nat} (hk:k<zs.length):loL lo (zs.take (k+1))=min (loL lo (zs.take k)) (zs.getD k 0):=by
 unfold loL;rw [List.take_succ_eq_append_getElem hk,List.foldl_append];simp [List.getD,List.getElem?_eq_getElem hk]
theorem Ea {hi:Int} {zs:List Int} {k:Nat} (hk:k<zs.length):hiL hi (zs.take (k+1))=max (hiL hi (zs.take k)) (zs.getD k 0):=by
 unfold hiL;rw [List.take_succ_eq_append_getElem hk,List.foldl_append];simp [List.getD,List.getElem?_eq_getElem hk]
attribute [local go_sem ↓] DR
theorem Sg (lo hi:Int) (b cap:Nat) (zs:List Int) (w:World) (hl:zs.length<=1000) (hb:b<w.heap.size) (hc:∀ k,k<zs.length->w.cell? ⟨b,k,none⟩=some (.int .i64 (zs.getD k 0))) :
  cB 150 #[.agg #[.int .i64 lo,.int .i64 hi],.slice (some ⟨b,0,none⟩) zs.length cap] w (.bool (zs.all fun z=>inB z lo hi)):=by
 have Hc:=Z9 hc;clear hc;go_enter func150,ntmps150;go_wp2_with fail
 go_loopw [11] (fun i wr=> ∃ k:Nat,k<=zs.length/\i= .int .i64 k/\Blk wr (w.heap.size+1) 173 #[.int .i64 (loL lo (zs.take k)),.int .i64 (hiL hi (zs.take k))]/\Blk wr w.heap.size 173 #[.int .i64 lo,.int .i64 hi]/\Below w.heap.size w wr) (fun i _=>zs.length-(intOf i).toNat)
 case atStart=>
  refine ⟨0,ZR _,rfl,?_,(Blk.new w _ _).alloc _,((ba _ _)).alloc (by simp) _⟩;have:=Blk.new (w.alloc (.cells #[.int .i64 lo,.int .i64 hi] 173)) 173 #[.int .i64 lo,.int .i64 hi];simpa [loL,hiL] using this
 case round=>
  obtain ⟨k,hk,rfl,hs,ho,hbl⟩:=hrel;have Hs:=Z9 hs;have Ho:=Z9 ho;have Hb:=Z9 hbl;by_cases hlt:k<zs.length
  ·have c0:=uh Hc k hlt
   rw [<-hbl.cell (p:=⟨b,k,none⟩) hb] at c0;have e1:=Ek (lo:=lo) hlt;have e2:=Ea (hi:=hi) hlt;have s0:=hs.cell (i:=0) rfl;have s1:=hs.cell (i:=1) rfl;have g0:=hs.free 0;have g1:=hs.free 1;generalize zs.getD k 0=z at *;generalize loL lo (zs.take k)=x at *;generalize hiL hi (zs.take k)=y at *;have E1:=Z9 e1;have E2:=Z9 e2;clear e1 e2 hs ho hbl;go_wp2_with fail;refine ck (Ra x y z _) fun w1 hb1=> ?_;have hs1:=(uh Hs).below hb1 (uh Hs).lt;have Hs1:=Z9 hs1;have Ho1:Hid (Blk w1 w.heap.size 173 #[.int .i64 lo,.int .i64 hi]):=Z9 ((uh Ho).below hb1 (uh Ho).lt);have B1:Hid (Below w.heap.size w w1):=Z9 ((uh Hb).trans (hb1.mono (uh Hb).size));have s0:=hs1.cell (i:=0) rfl;have s1:=hs1.cell (i:=1) rfl;have g0:=hs1.free 0;have g1:=hs1.free 1;clear hs1 hb1;go_wp2_with fail;go_roundw
   case rel=>
    refine ⟨k+1,by omega,by go_num,?_,?_,?_⟩
    ·rw [uh E1,uh E2]
     simpa using ((uh Hs1).set 0 (.int .i64 (min x z))).set 1 (.int .i64 (max y z))
    ·exact ((uh Ho1).other (by simp) _).other (by simp) _
    ·exact ((uh B1).setCell (by simp) _).setCell (by simp) _
   case measure=>exact ms
  ·obtain rfl:k=zs.length:=by omega
   rw [List.take_length] at hs;have e3:=Mw zs lo hi;have s0:=hs.cell (i:=0) rfl;have s1:=hs.cell (i:=1) rfl;have o0:=ho.cell (i:=0) rfl;have o1:=ho.cell (i:=1) rfl;generalize loL lo zs=x at *;generalize hiL hi zs=y at *;have E3:=Z9 e3;clear e3 hs ho hbl Hs;go_wp2_with fail;go_ret;exact ⟨Z5 (uh E3),uh Hb⟩
theorem XO (b cap:Nat) (zs:List Int) (w:World) (hl:zs.length<=1000) (hb:b<w.heap.size) (hc:∀ k,k<zs.length->w.cell? ⟨b,k,none⟩=some (.int .i64 (zs.getD k 0))) :
  cB 147 #[.slice (some ⟨b,0,none⟩) zs.length cap] w (.bool (zs.all fun z=>inB z (-1000000000000) 1000000000000)):=by
 have Hc:=Z9 hc;clear hc;go_enter func147,ntmps147;go_wp2_with fail;refine ck (Sg _ _ b cap zs _ hl hb (uh Hc)) fun w1 hb1=> ?_;have B1:=Z9 hb1;clear hb1;go_wp2_with fail;go_ret;exact ⟨rfl,uh B1⟩
theorem S8 (h m:Int) (w:World):cB 106 #[.int .i64 h,.int .i64 m] w (.bool (WU h m)):=by
 cases hh:XB h && XB m
 ·have hs:WU h m=false:=by unfold WU;rw [hh];rfl
  have Hs:=Z9 hs;clear hs;go_enter func106,ntmps106;go_wp2_with fail;refine (XO _ _ [h,m] _ (by simp) (by simp) ?_).mono ?_
  ·intro k hk
   simp at hk
   match k,hk with
   | 0,_=>simp
   | 1,_=>simp
  rintro e w1 ⟨rfl,hb⟩;rw [Gu,hh];have B1:Hid (Below w.heap.size w w1):=Z9 (((ba _ _)).trans (hb.mono (by simp)));clear hb;go_wp2_with fail;go_ret;exact ⟨Z5 (uh Hs).symm,uh B1⟩
 ·have hs:WU h m=inB (h-m) (-20000) 63000:=by unfold WU;rw [hh];rfl
  have Hs:=Z9 hs;have h':=hh;simp only [ZJ] at h';obtain ⟨m0,m1⟩:=T8 h'.2;clear hs h';go_enter func106,ntmps106;go_wp2_with fail;refine (XO _ _ [h,m] _ (by simp) (by simp) ?_).mono ?_
  ·intro k hk
   simp at hk
   match k,hk with
   | 0,_=>simp
   | 1,_=>simp
  rintro e w1 ⟨rfl,hb⟩;rw [Gu,hh];have B1:Hid (Below w.heap.size w w1):=Z9 (((ba _ _)).trans (hb.mono (by simp)));clear hb;go_wp2_with fail;refine ck (Oc m _ m0 m1) fun w2 hb=> ?_;have B2:Hid (Below w.heap.size w w2):=Z9 ((uh B1).trans (hb.mono (uh B1).size));clear hb B1;go_wp2_with fail;refine (Sg _ _ _ _ [h] _ (by simp) (by simp) ?_).mono ?_
  ·intro k hk
   simp at hk;subst hk;simp
  rintro e w3 ⟨rfl,hb⟩;rw [Di];have B3:Hid (Below w.heap.size w w3):=Z9 (((uh B2).alloc (uh B2).size _).trans (hb.mono (by have:=(uh B2).size;simp;omega)));clear hb B2;go_wp2_with fail;go_ret;exact ⟨Z5 (uh Hs).symm,uh B3⟩
theorem OB (h m:Int) (w:World):cB 104 #[.int .i64 h,.int .i64 m] w (.int .i64 (Zx h m)):=by
 cases hh:XB m
 ·have hs:Zx h m=h:=by unfold Zx;rw [hh];rfl
  have Hs:=Z9 hs;clear hs;go_enter func104,ntmps104;go_wp2_with fail;refine (XO _ _ [m] _ (by simp) (by simp) ?_).mono ?_
  ·intro k hk
   simp at hk;subst hk;simp
  rintro e w1 ⟨rfl,hb⟩;rw [CW,hh];have B1:Hid (Below w.heap.size w w1):=Z9 (((ba _ _)).trans (hb.mono (by simp)));clear hb;go_wp2_with fail;go_ret;exact ⟨ZQ (uh Hs).symm,uh B1⟩
 ·have hs:Zx h m=max h (m-20000):=by unfold Zx;rw [hh];rfl
  obtain ⟨m0,m1⟩:=T8 hh;have Hs:=Z9 hs;clear hs;by_cases hc:h<m-20000
  all_goals
   go_enter func104,ntmps104;go_wp2_with fail;refine (XO _ _ [m] _ (by simp) (by simp) ?_).mono ?_
   ·intro k hk
    simp at hk;subst hk;simp
   rintro e w1 ⟨rfl,hb⟩;rw [CW,hh];have B1:Hid (Below w.heap.size w w1):=Z9 (((ba _ _)).trans (hb.mono (by simp)));clear hb;go_wp2_with fail;refine ck (Oc m _ m0 m1) fun w2 hb=> ?_;have B2:Hid (Below w.heap.size w w2):=Z9 ((uh B1).trans (hb.mono (uh B1).size));clear hb B1;go_wp2_with fail;refine ck (Nw _ _ _) fun w3 hb=> ?_;have B3:Hid (Below w.heap.size w w3):=Z9 ((uh B2).trans (hb.mono (uh B2).size));clear hb B2;go_wp2_with fail;go_ret;exact ⟨ZQ (by rw [uh Hs];omega),uh B3⟩
theorem NJ (h f t:Int) (w:World):cB 105 #[.int .i64 h,.int .i64 f,.int .i64 t] w (.int .i64 (Zr h f t)):=by
 cases hh:XB h && (XB f && XB t)
 ·have hs:Zr h f t=h:=by unfold Zr;rw [hh];rfl
  have Hs:=Z9 hs;clear hs;go_enter func105,ntmps105;go_wp2_with fail;refine (XO _ _ [h,f,t] _ (by simp) (by simp) ?_).mono ?_
  ·intro k hk
   simp at hk
   match k,hk with
   | 0,_=>simp
   | 1,_=>simp
   | 2,_=>simp
  rintro e w1 ⟨rfl,hb⟩;rw [CX,hh];have B1:Hid (Below w.heap.size w w1):=Z9 (((ba _ _)).trans (hb.mono (by simp)));clear hb;go_wp2_with fail;go_ret;exact ⟨ZQ (uh Hs).symm,uh B1⟩
 ·have hs:Zr h f t=h-f+t:=by unfold Zr;rw [hh];rfl
  have Hs:=Z9 hs;have h':=hh;simp only [ZJ] at h';obtain ⟨h0,h1⟩:=T8 h'.1;obtain ⟨f0,f1⟩:=T8 h'.2.1;obtain ⟨t0,t1⟩:=T8 h'.2.2;clear hs h';go_enter func105,ntmps105;go_wp2_with fail;refine (XO _ _ [h,f,t] _ (by simp) (by simp) ?_).mono ?_
  ·intro k hk
   simp at hk
   match k,hk with
   | 0,_=>simp
   | 1,_=>simp
   | 2,_=>simp
  rintro e w1 ⟨rfl,hb⟩;rw [CX,hh];have B1:Hid (Below w.heap.size w w1):=Z9 (((ba _ _)).trans (hb.mono (by simp)));clear hb;go_wp2_with fail;go_ret;exact ⟨ZQ (uh Hs).symm,uh B1⟩
theorem Oz (m f:Int) (w:World):cB 169 #[.int .i64 m,.int .i64 f] w (.int .i64 (ZK m f)):=by
 cases hh:XB m && XB f
 ·have hs:ZK m f=m:=by unfold ZK;rw [hh];rfl
  have Hs:=Z9 hs;clear hs;go_enter func169,ntmps169;go_wp2_with fail;refine (XO _ _ [m,f] _ (by simp) (by simp) ?_).mono ?_
  ·intro k hk
   simp at hk
   match k,hk with
   | 0,_=>simp
   | 1,_=>simp
  rintro e w1 ⟨rfl,hb⟩;rw [Gu,hh];have B1:Hid (Below w.heap.size w w1):=Z9 (((ba _ _)).trans (hb.mono (by simp)));clear hb;go_wp2_with fail;go_ret;exact ⟨ZQ (uh Hs).symm,uh B1⟩
 ·have hs:ZK m f=min (max m f) 900000000000:=by unfold ZK;rw [hh];rfl
  have Hs:=Z9 hs;clear hs;go_enter func169,ntmps169;go_wp2_with fail;refine (XO _ _ [m,f] _ (by simp) (by simp) ?_).mono ?_
  ·intro k hk
   simp at hk
   match k,hk with
   | 0,_=>simp
   | 1,_=>simp
  rintro e w1 ⟨rfl,hb⟩;rw [Gu,hh];have B1:Hid (Below w.heap.size w w1):=Z9 (((ba _ _)).trans (hb.mono (by simp)));clear hb;go_wp2_with fail;refine ck (VV m f 900000000000 _) fun w2 hw2=> ?_;subst w2;go_wp2_with fail;go_ret;exact ⟨ZQ (uh Hs).symm,uh B1⟩
theorem Jq (x:Int) (w:World):cE 96 #[.int .i64 x] w (.bool (XB x)):=by
 go_enter func96,ntmps96;go_wp2_with (go_at_call 70;refine (ZT _ _ _ _).mono ?_;rintro e w' ⟨rfl,rfl⟩)
 go_ret;exact ⟨rfl,rfl⟩
theorem YY {x:Int} {r:Bool} (h:XB x=r) (w:World):cE 96 #[.int .i64 x] w (.bool r):=by
 rw [<-h];exact Jq x w
theorem Pm (h m:Int) (w:World):cE 58 #[.int .i64 h,.int .i64 m] w (.int .i64 (Zx h m)):=by
 cases h2:XB m
 ·have hs:Zx h m=h:=by unfold Zx;rw [h2];rfl
  have Hs:=Z9 hs;have H2:=Z9 h2;clear hs h2;go_enter func58,ntmps58;go_wp2_with (go_at_call 96;refine (YY (uh H2) _).mono ?_;rintro e w' ⟨rfl,rfl⟩)
  go_ret;exact ⟨ZQ (uh Hs).symm,rfl⟩
 have hs:Zx h m=max h (m-20000):=by unfold Zx;rw [h2];rfl
 obtain ⟨b0,b1⟩:=T8 h2;have Hs:=Z9 hs;have H2:=Z9 h2;clear hs h2;go_enter func58,ntmps58;go_wp2_with (first | (go_at_call 97;refine (SC _ _ _).mono ?_;rintro e w' ⟨rfl,rfl⟩) | (go_at_call 96;refine (YY (uh H2) _).mono ?_;rintro e w' ⟨rfl,rfl⟩))
 go_ret;exact ⟨ZQ (uh Hs).symm,rfl⟩
theorem NV (h f t:Int) (w:World):cE 59 #[.int .i64 h,.int .i64 f,.int .i64 t] w (.int .i64 (Zr h f t)):=by
 cases h1:XB h
 ·have hs:Zr h f t=h:=by unfold Zr;rw [h1];rfl
  have Hs:=Z9 hs;have H1:=Z9 h1;clear hs h1;go_enter func59,ntmps59;go_wp2_with (go_at_call 96;refine (YY (uh H1) _).mono ?_;rintro e w' ⟨rfl,rfl⟩)
  go_ret;exact ⟨ZQ (uh Hs).symm,rfl⟩
 cases h2:XB f
 ·have hs:Zr h f t=h:=by unfold Zr;rw [h1,h2];rfl
  have Hs:=Z9 hs;have H1:=Z9 h1;have H2:=Z9 h2;clear hs h1 h2;go_enter func59,ntmps59;go_wp2_with (go_at_call 96;first | (refine (YY (uh H1) _).mono ?_;rintro e w' ⟨rfl,rfl⟩) | (refine (YY (uh H2) _).mono ?_;rintro e w' ⟨rfl,rfl⟩))
  go_ret;exact ⟨ZQ (uh Hs).symm,rfl⟩
 cases h3:XB t
 ·have hs:Zr h f t=h:=by unfold Zr;rw [h1,h2,h3];rfl
  have Hs:=Z9 hs;have H1:=Z9 h1;have H2:=Z9 h2;have H3:=Z9 h3;clear hs h1 h2 h3;go_enter func59,ntmps59;go_wp2_with (go_at_call 96;first | (refine (YY (uh H1) _).mono ?_;rintro e w' ⟨rfl,rfl⟩) | (refine (YY (uh H2) _).mono ?_;rintro e w' ⟨rfl,rfl⟩) | (refine (YY (uh H3) _).mono ?_;rintro e w' ⟨rfl,rfl⟩))
  go_ret;exact ⟨ZQ (uh Hs).symm,rfl⟩
 have hs:Zr h f t=h-f+t:=by unfold Zr;rw [h1,h2,h3];rfl
 obtain ⟨a0,a1⟩:=T8 h1;obtain ⟨b0,b1⟩:=T8 h2;obtain ⟨c0,c1⟩:=T8 h3;have Hs:=Z9 hs;have H1:=Z9 h1;have H2:=Z9 h2;have H3:=Z9 h3;clear hs h1 h2 h3;go_enter func59,ntmps59;go_wp2_with (go_at_call 96;first | (refine (YY (uh H1) _).mono ?_;rintro e w' ⟨rfl,rfl⟩) | (refine (YY (uh H2) _).mono ?_;rintro e w' ⟨rfl,rfl⟩) | (refine (YY (uh H3) _).mono ?_;rintro e w' ⟨rfl,rfl⟩))
 go_ret;exact ⟨ZQ (uh Hs).symm,rfl⟩
theorem Pj (m f:Int) (w:World):cE 116 #[.int .i64 m,.int .i64 f] w (.int .i64 (ZK m f)):=by
 cases h1:XB m
 ·have hs:ZK m f=m:=by unfold ZK;rw [h1];rfl
  have Hs:=Z9 hs;have H1:=Z9 h1;clear hs h1;go_enter func116,ntmps116;go_wp2_with (go_at_call 96;refine (YY (uh H1) _).mono ?_;rintro e w' ⟨rfl,rfl⟩)
  go_ret;exact ⟨ZQ (uh Hs).symm,rfl⟩
 cases h2:XB f
 ·have hs:ZK m f=m:=by unfold ZK;rw [h1,h2];rfl
  have Hs:=Z9 hs;have H1:=Z9 h1;have H2:=Z9 h2;clear hs h1 h2;go_enter func116,ntmps116;go_wp2_with (go_at_call 96;first | (refine (YY (uh H1) _).mono ?_;rintro e w' ⟨rfl,rfl⟩) | (refine (YY (uh H2) _).mono ?_;rintro e w' ⟨rfl,rfl⟩))
  go_ret;exact ⟨ZQ (uh Hs).symm,rfl⟩
 have hs:ZK m f=min (max m f) 900000000000:=by unfold ZK;rw [h1,h2];rfl
 have Hs:=Z9 hs;have H1:=Z9 h1;have H2:=Z9 h2;clear hs h1 h2;go_enter func116,ntmps116;go_wp2_with (first | (go_at_call 97;refine (SC _ _ _).mono ?_;rintro e w' ⟨rfl,rfl⟩) | (go_at_call 155;refine (MU _ _ _).mono ?_;rintro e w' ⟨rfl,rfl⟩) | (go_at_call 96;first | (refine (YY (uh H1) _).mono ?_;rintro e w' ⟨rfl,rfl⟩) | (refine (YY (uh H2) _).mono ?_;rintro e w' ⟨rfl,rfl⟩)))
 go_ret;exact ⟨ZQ (uh Hs).symm,rfl⟩
end Go.Proofs.YtgdpaigcmoifbaaGreatDoor
namespace Go.Proofs.YtgdpaigcmoifbaaGreatDoor
open Go.ChangeShapes Go.WideShapes Go.ChangeAt Go.RowKit Go.Sort Go.Proofs.Tryz
set_option linter.unusedVariables false
def Vn (c:Int):Yt:=((c%3 ==0),c+1,c+1+1)
theorem NM {n₀:Nat} {w:World} {v:Value} {ps:List Yt} (c:Int) (h:DesksAt n₀ w v ps) (hk0:0<=c) (hk1:c<=1000000000000000) (hl:ps.length<=10000000) :
  Calls prog 48 #[v,.int .i64 c] w fun e w'=>e= .returned (.int .i64 (c+3*(ps.length:Int)))/\DesksAt n₀ w' v (WL Vn 3 c ps.length)/\w.grownBy w' v.ownBlock:=by
 have Hv:=Z9 h;obtain ⟨a,cap,rfl⟩:=RecAt.shape h;clear h;go_enter func48,ntmps48;go_wp2_with fail
 go_loopw [5,1] (fun i q wr=> ∃ j:Nat,j<=ps.length/\i= .int .i64 j/\q= .int .i64 (c+3*(j:Int))/\DesksAt n₀ wr (.slice a ps.length cap) (XK Vn 3 c ps j)/\w.grownBy wr (Value.ownBlock (.slice a ps.length cap))) (fun i _ _=>ps.length-(intOf i).toNat)
 case atStart=>exact ⟨0,ZR _,rfl,by simp,by rw [Ud];exact uh Hv,Xr _ _⟩
 case round=>
  obtain ⟨j,hj,rfl,rfl,hin,hgr⟩:=hrel;by_cases hlt:j<ps.length
  ·have hfl:=Tl (mk:=Vn) (d:=3) (c:=c) hj
   obtain ⟨g,rfl,_,_,hcells,hfz⟩:=RecAt.view ZF (by omega) hin hfl.symm (by omega);have hq:=fun i u hu=>hcells j (by omega) i u hu;generalize Z8 (XK Vn 3 c ps j) j=old at hq;have hmod:(c+3*(j:Int))%3=c%3:=by omega
   have o0:=hq 0 _ rfl;have f0:=hfz (j*3);have o1:=hq 1 _ rfl;have f1:=hfz (j*3+1);have o2:=hq 2 _ rfl;have f2:=hfz (j*3+2);simp only [Nat.add_zero] at o0;have hp:=RecAt.put ZF (by omega) hin hfl.symm (j:=j) (by omega) (Vn (c+3*(j:Int)));have hs9:=Tm (mk:=Vn) (d:=3) (c:=c) hlt;rw [show ((3:Nat):Int)=3 from rfl] at hs9;have HS:=Z9 hs9;clear hs9;have H1:=Z9 hp.1;have H2:=Z9 (XS hgr hp.2);clear hin hgr hcells hq hfz hp hfl;go_wp2_with fail;go_roundw
   case rel=>exact ⟨j+1,by omega,by go_num,by go_num,by have h9:=uh H1;rw [uh HS] at h9;simpa [Sm,XG,Vn,hmod] using h9,by have h9:=uh H2;simpa [Sm,XG,Vn,hmod] using h9⟩
   case measure=>exact ms
  ·obtain rfl:j=ps.length:=by omega
   rw [Tk] at hin;go_wp2_with fail;go_ret;exact ⟨rfl,hin,hgr⟩
theorem ND {w:World} {v:Value} (c:Int) (n:Nat) (h:XE w v (WL Vn 3 c n)) (hk0:0<=c) (hk1:c<=1000000000000000) (hl:n<=10000000) :
  cE 53 #[v,.int .i64 c] w (.int .i64 (c+3*(n:Int))):=by
 obtain ⟨a,cap,rfl,hc,hm,hrow⟩:=h;rw [Yk] at *;have Hrow:=Z9 hrow;clear hrow;go_enter func53,ntmps53;go_wp2_with fail
 go_loop [5,1] (fun i q=> ∃ j:Nat,j<=n/\i= .int .i64 j/\q= .int .i64 (c+3*(j:Int))) (fun i _=>n-(intOf i).toNat)
 case atStart=>exact ⟨0,ZR _,rfl,by simp⟩
 case round=>
  obtain ⟨j,hj,rfl,rfl⟩:=hrel;by_cases hlt:j<n
  ·rcases uh Hrow with h0 | ⟨bk,off,rfl,hbw,hcl⟩
   ·have:=congrArg List.length h0;rw [Yk] at this;simp at this;omega
   have hq:=fun i u hu=>hcl j hlt i u hu;rw [OV _ _ _ hlt,show ((3:Nat):Int)=3 from rfl] at hq;have c0:w.cell? ⟨bk,off+j*3,none⟩=some (.bool ((c+3*(j:Int))%3 ==0)):=hq 0 _ rfl;have c1:w.cell? ⟨bk,off+j*3+1,none⟩=some (.int .i64 ((c+3*(j:Int))+1)):=hq 1 _ rfl;have c2:w.cell? ⟨bk,off+j*3+2,none⟩=some (.int .i64 ((c+3*(j:Int))+1+1)):=hq 2 _ rfl;clear hcl hq;go_wp2_with fail
   go_round
   case rel=>exact ⟨j+1,by omega,by go_num,by go_num⟩
   case measure=>exact ms
  ·obtain rfl:j=n:=by omega
   go_wp2_with fail;go_ret;exact ⟨rfl,rfl⟩
end Go.Proofs.YtgdpaigcmoifbaaGreatDoor
