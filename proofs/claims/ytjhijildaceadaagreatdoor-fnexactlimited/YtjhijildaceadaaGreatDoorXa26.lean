/- Part 26 of what the proof rests on. No condition but those that a theorem names. -/
import Derived.Test.YtjhijildaceadaaGreatDoorXa25
set_option maxHeartbeats 8000000
set_option maxRecDepth 100000
namespace Go.Proofs.YtjhijildaceadaaGreatDoor
open Go.ChangeShapes Go.WideShapes Go.ChangeAt Go.RowKit Go.Sort
set_option linter.unusedVariables false
attribute [local go_sem] QI QG RW RV QJ
theorem MF {st be rk my gu lo hi hd ca ut wk:Int} {rank x:Int} {R R':Nat} {w:World} (x0:335<=x) (x1:x<=3125) (a0:0<=ca) (a1:ca<=3125) (hR:w.cell? ⟨R,0,none⟩=some (.int .i64 rank)) (hS:w.cell? ⟨R',0,none⟩=some (.int .i64 x)) (hg:Wh (st,be,rk,my,gu,lo,hi,hd,ca,ut,wk)=false) (hp:Zg (st,be,rk,my,gu,lo,hi,hd,ca,ut,wk)=true) (hs:Zu (st,be,rank,my,gu,lo,hi,hd,(ca%x),ut,wk)=true):Calls Tryz.prog 211 #[.agg #[.int .i64 st,.int .i64 be,.int .i64 rk,.int .i64 my,.int .i64 gu,.int .i64 lo,.int .i64 hi,.int .i64 hd,.int .i64 ca,.int .i64 ut,.int .i64 wk],.bool true,.func (.func 212) #[] #[.pointer (some ⟨R,0,none⟩),.pointer (some ⟨R',0,none⟩)]] w fun e w'=>e= .returned (.tuple #[.agg #[.int .i64 st,.int .i64 be,.int .i64 rank,.int .i64 my,.int .i64 gu,.int .i64 lo,.int .i64 hi,.int .i64 hd,.int .i64 (ca%x),.int .i64 ut,.int .i64 wk],.bool true])/\Below w.heap.size w w':=by
 have Hg:=Z9 hg
 have Hp:=Z9 hp
 have Hs:=Z9 hs
 clear hg hp hs
 have hRl:R<w.heap.size:=block_lt_of_cell hR
 have hSl:R'<w.heap.size:=block_lt_of_cell hS
 go_enter Tryz.func211,Tryz.ntmps211
 go_wp2_with fail
 refine (T0 (uh Hg) (uh Hp) _).mono ?_
 rintro e w1 ⟨rfl,hb⟩
 have kb:Blk w1 w.heap.size 43 #[.int .i64 st,.int .i64 be,.int .i64 rk,.int .i64 my,.int .i64 gu,.int .i64 lo,.int .i64 hi,.int .i64 hd,.int .i64 ca,.int .i64 ut,.int .i64 wk]:=((Blk.new w 43 #[.int .i64 st,.int .i64 be,.int .i64 rk,.int .i64 my,.int .i64 gu,.int .i64 lo,.int .i64 hi,.int .i64 hd,.int .i64 ca,.int .i64 ut,.int .i64 wk]).alloc _).below hb (by simp;omega)
 have ko:Blk w1 (w.heap.size+1) 43 #[.int .i64 0,.int .i64 0,.int .i64 0,.int .i64 0,.int .i64 0,.int .i64 0,.int .i64 0,.int .i64 0,.int .i64 0,.int .i64 0,.int .i64 0]:=by
  have k:=Blk.new (w.alloc (.cells #[.int .i64 st,.int .i64 be,.int .i64 rk,.int .i64 my,.int .i64 gu,.int .i64 lo,.int .i64 hi,.int .i64 hd,.int .i64 ca,.int .i64 ut,.int .i64 wk] 43)) 43 #[.int .i64 0,.int .i64 0,.int .i64 0,.int .i64 0,.int .i64 0,.int .i64 0,.int .i64 0,.int .i64 0,.int .i64 0,.int .i64 0,.int .i64 0]
  rw [World.size_alloc] at k
  exact k.below hb (by simp)
 have hsz:w.heap.size+2<=w1.heap.size:=by have:=hb.size;simp at this;omega
 have hl0:w.heap.size<w1.heap.size:=by omega
 have hl1:w.heap.size+1<w1.heap.size:=by omega
 have B1:=Z9 ((((Below.refl w.heap.size w).alloc (Nat.le_refl _) _).alloc (by simp) _).trans (hb.mono (by simp;omega)))
 have Kb:=Z9 kb
 have Ko:=Z9 ko
 obtain ⟨c0,c1,c2,c3,c4,c5,c6,c7,c8,c9,c10⟩:=kb.c11
 obtain ⟨o0,o1,o2,o3,o4,o5,o6,o7,o8,o9,o10⟩:=ko.c11
 obtain ⟨of0,of1,of2,of3,of4,of5,of6,of7,of8,of9,of10⟩:=ko.f11
 have hR1:w1.cell? ⟨R,0,none⟩=some (.int .i64 rank):=(hb.cell (p:=⟨R,0,none⟩) (by simp;omega)).trans (((Below.refl w.heap.size w).alloc (Nat.le_refl _) _ |>.alloc (by simp) _ |>.cell (p:=⟨R,0,none⟩) (block_lt_of_cell hR)).trans hR)
 have hS1:w1.cell? ⟨R',0,none⟩=some (.int .i64 x):=(hb.cell (p:=⟨R',0,none⟩) (by simp;omega)).trans (((Below.refl w.heap.size w).alloc (Nat.le_refl _) _ |>.alloc (by simp) _ |>.cell (p:=⟨R',0,none⟩) (block_lt_of_cell hS)).trans hS)
 clear hb kb ko
 go_wp2_with fail
 refine (JP x0 x1 a0 a1 ((((Below.refl w1.heap.size w1).alloc (Nat.le_refl _) _).cell (p:=⟨R,0,none⟩) (block_lt_of_cell hR1)).trans hR1) ((((Below.refl w1.heap.size w1).alloc (Nat.le_refl _) _).cell (p:=⟨R',0,none⟩) (block_lt_of_cell hS1)).trans hS1)).mono ?_
 rintro e w2 ⟨rfl,hb⟩
 have kb:=((uh Kb).alloc (.cells #[.int .i64 st,.int .i64 be,.int .i64 rk,.int .i64 my,.int .i64 gu,.int .i64 lo,.int .i64 hi,.int .i64 hd,.int .i64 ca,.int .i64 ut,.int .i64 wk] 244)).below hb (by simp;omega)
 have ko:=((uh Ko).alloc (.cells #[.int .i64 st,.int .i64 be,.int .i64 rk,.int .i64 my,.int .i64 gu,.int .i64 lo,.int .i64 hi,.int .i64 hd,.int .i64 ca,.int .i64 ut,.int .i64 wk] 244)).below hb (by simp;omega)
 have hsz2:w1.heap.size+1<=w2.heap.size:=by have:=hb.size;simp at this;omega
 have hm0:w.heap.size<w2.heap.size:=by omega
 have hm1:w.heap.size+1<w2.heap.size:=by omega
 have B2:=Z9 ((((uh B1).alloc (by omega) (.cells #[.int .i64 st,.int .i64 be,.int .i64 rk,.int .i64 my,.int .i64 gu,.int .i64 lo,.int .i64 hi,.int .i64 hd,.int .i64 ca,.int .i64 ut,.int .i64 wk] 244))).trans (hb.mono (by simp;omega)))
 have Kb2:=Z9 kb
 have Ko2:=Z9 ko
 clear hb kb ko Kb Ko B1 c0 o0 of0 c1 o1 of1 c2 o2 of2 c3 o3 of3 c4 o4 of4 c5 o5 of5 c6 o6 of6 c7 o7 of7 c8 o8 of8 c9 o9 of9 c10 o10 of10 hR1 hS1
 go_wp2_with fail
 refine (Tp st be rank my gu lo hi hd (ca%x) ut wk _).mono ?_
 rw [uh Hs]
 rintro e w3 ⟨rfl,hb⟩
 have kb:=((uh Kb2).alloc (.cells #[.int .i64 st,.int .i64 be,.int .i64 rank,.int .i64 my,.int .i64 gu,.int .i64 lo,.int .i64 hi,.int .i64 hd,.int .i64 (ca%x),.int .i64 ut,.int .i64 wk] 43)).below hb (by simp;omega)
 have ko:=((uh Ko2).alloc (.cells #[.int .i64 st,.int .i64 be,.int .i64 rank,.int .i64 my,.int .i64 gu,.int .i64 lo,.int .i64 hi,.int .i64 hd,.int .i64 (ca%x),.int .i64 ut,.int .i64 wk] 43)).below hb (by simp;omega)
 have kn:=(Blk.new w2 43 #[.int .i64 st,.int .i64 be,.int .i64 rank,.int .i64 my,.int .i64 gu,.int .i64 lo,.int .i64 hi,.int .i64 hd,.int .i64 (ca%x),.int .i64 ut,.int .i64 wk]).below hb (by simp)
 have B3:=Z9 ((((uh B2).alloc (by omega) (.cells #[.int .i64 st,.int .i64 be,.int .i64 rank,.int .i64 my,.int .i64 gu,.int .i64 lo,.int .i64 hi,.int .i64 hd,.int .i64 (ca%x),.int .i64 ut,.int .i64 wk] 43))).trans (hb.mono (by simp;omega)))
 have hsz3:w2.heap.size+1<=w3.heap.size:=by have:=hb.size;simp at this;omega
 have hn0:w.heap.size<w3.heap.size:=by omega
 have hn1:w.heap.size+1<w3.heap.size:=by omega
 obtain ⟨p0,p1,p2,p3,p4,p5,p6,p7,p8,p9,p10⟩:=kn.c11
 obtain ⟨o0,o1,o2,o3,o4,o5,o6,o7,o8,o9,o10⟩:=ko.c11
 obtain ⟨of0,of1,of2,of3,of4,of5,of6,of7,of8,of9,of10⟩:=ko.f11
 clear hb kb ko kn
 go_wp2_with fail
 refine bodyPost_ret (v:= .tuple #[.agg #[.int .i64 st,.int .i64 be,.int .i64 rank,.int .i64 my,.int .i64 gu,.int .i64 lo,.int .i64 hi,.int .i64 hd,.int .i64 (ca%x),.int .i64 ut,.int .i64 wk],.bool true]) (by simp [results,Tryz.results211,go_sem,o0,o1,o2,o3,o4,o5,o6,o7,o8,o9,o10]) rfl ⟨rfl,?_⟩
 iterate 11 (refine Below.setCell ?_ (by simp) _)
 exact uh B3
end Go.Proofs.YtjhijildaceadaaGreatDoor
namespace Go.Proofs.YtjhijildaceadaaGreatDoor
open Go.ChangeShapes Go.WideShapes Go.ChangeAt Go.RowKit Go.Sort
set_option linter.unusedVariables false
theorem Blk.second (w:World) (a:Obj) (t:TypeId) (cs:Array Value):Blk ((w.alloc a).alloc (.cells cs t)) (w.heap.size+1) t cs:=by
 have k:=Blk.new (w.alloc a) t cs
 rw [World.size_alloc] at k
 exact k
theorem Blk.fourth (w:World) (a b c:Obj) (t:TypeId) (cs:Array Value):Blk ((((w.alloc a).alloc b).alloc c).alloc (.cells cs t)) (w.heap.size+1+1+1) t cs:=by
 have k:=Blk.new (((w.alloc a).alloc b).alloc c) t cs
 rw [World.size_alloc,World.size_alloc,World.size_alloc] at k
 exact k
theorem Blk.third (w:World) (a b:Obj) (t:TypeId) (cs:Array Value):Blk (((w.alloc a).alloc b).alloc (.cells cs t)) (w.heap.size+1+1) t cs:=by
 have k:=Blk.new ((w.alloc a).alloc b) t cs
 rw [World.size_alloc,World.size_alloc] at k
 exact k
theorem UL {st be rk my gu lo hi hd ca ut wk y0 y1 y2 y3 y4 y5 y6 y7 y8 y9 y10 rank x:Int} {q:Bool} (w:World) (hx:Zr rank=x)
  (hC:∀ (R R':Nat) (W:World),W.cell? ⟨R,0,none⟩=some (.int .i64 rank)->W.cell? ⟨R',0,none⟩=some (.int .i64 x)->Calls Tryz.prog 211 #[.agg #[.int .i64 st,.int .i64 be,.int .i64 rk,.int .i64 my,.int .i64 gu,.int .i64 lo,.int .i64 hi,.int .i64 hd,.int .i64 ca,.int .i64 ut,.int .i64 wk],.bool (x !=0),.func (.func 212) #[] #[.pointer (some ⟨R,0,none⟩),.pointer (some ⟨R',0,none⟩)]] W fun e w'=>e= .returned (.tuple #[.agg #[.int .i64 y0,.int .i64 y1,.int .i64 y2,.int .i64 y3,.int .i64 y4,.int .i64 y5,.int .i64 y6,.int .i64 y7,.int .i64 y8,.int .i64 y9,.int .i64 y10],.bool q])/\Below W.heap.size W w') :
  Calls Tryz.prog 142 #[.agg #[.int .i64 st,.int .i64 be,.int .i64 rk,.int .i64 my,.int .i64 gu,.int .i64 lo,.int .i64 hi,.int .i64 hd,.int .i64 ca,.int .i64 ut,.int .i64 wk],.int .i64 rank] w fun e w'=>e= .returned (.tuple #[.agg #[.int .i64 y0,.int .i64 y1,.int .i64 y2,.int .i64 y3,.int .i64 y4,.int .i64 y5,.int .i64 y6,.int .i64 y7,.int .i64 y8,.int .i64 y9,.int .i64 y10],.bool q])/\Below w.heap.size w w':=by
 have HC:=Z9 hC
 have Hx:=Z9 hx
 clear hC hx
 go_enter Tryz.func142,Tryz.ntmps142
 go_wp2_with (go_at_call 210;refine (UU (uh Hx) _).mono ?_;rintro e w' ⟨rfl,rfl⟩)
 refine Calls.mono (uh HC (w.heap.size+1) (w.heap.size+1+1+1) _ ?_ ?_) ?_
 ·exact (((Blk.second w _ 2 #[.int .i64 rank]).alloc _).alloc _).cell rfl
 ·exact (Blk.fourth w _ _ _ 2 #[.int .i64 x]).cell rfl
 rintro e w1 ⟨rfl,hb⟩
 have ko:Blk w1 (w.heap.size+1+1) 43 #[.int .i64 0,.int .i64 0,.int .i64 0,.int .i64 0,.int .i64 0,.int .i64 0,.int .i64 0,.int .i64 0,.int .i64 0,.int .i64 0,.int .i64 0]:=(hb.block (w.heap.size+1+1) (by simp)).trans ((Blk.third w _ _ 43 #[.int .i64 0,.int .i64 0,.int .i64 0,.int .i64 0,.int .i64 0,.int .i64 0,.int .i64 0,.int .i64 0,.int .i64 0,.int .i64 0,.int .i64 0]).alloc _)
 have B1:Hid (Below w.heap.size w w1):=Z9 ((((((Below.refl w.heap.size w).alloc (Nat.le_refl _) _).alloc (by simp) _).alloc (by simp;omega) _).alloc (by simp;omega) _).trans (hb.mono (by simp;omega)))
 obtain ⟨o0,o1,o2,o3,o4,o5,o6,o7,o8,o9,o10⟩:=ko.c11
 obtain ⟨of0,of1,of2,of3,of4,of5,of6,of7,of8,of9,of10⟩:=ko.f11
 clear hb ko
 go_wp2_with fail
 refine bodyPost_ret (v:= .tuple #[.agg #[.int .i64 y0,.int .i64 y1,.int .i64 y2,.int .i64 y3,.int .i64 y4,.int .i64 y5,.int .i64 y6,.int .i64 y7,.int .i64 y8,.int .i64 y9,.int .i64 y10],.bool q]) (by simp [results,Tryz.results142,go_sem,o0,o1,o2,o3,o4,o5,o6,o7,o8,o9,o10]) rfl ⟨rfl,?_⟩
 iterate 11 (refine Below.setCell ?_ (by simp;omega) _)
 exact uh B1
theorem Ly {x:Z2} (h:Zg x=true):Zu x=true:=by unfold Zu;rw [h,Bool.or_true]
theorem Pg {x:Z2} (rank:Int) (hg:Wh x=true):ZE x rank=(Ru,false):=by
 have e:=Vy hg
 subst e
 rfl
theorem Qn {x:Z2} (rank:Int) (hg:Wh x=false) (hp:Zg x=false):ZE x rank=(Ru,false):=by unfold ZE;rw [hp,hg];rfl
theorem MU {x:Z2} {rank:Int} (hp:Zg x=true) (hw:inB rank (-5) 5=false):ZE x rank=(x,false):=by unfold ZE;rw [hp,hw];rfl
theorem Oq {x:Z2} {rank:Int} (hp:Zg x=true) (hw:inB rank (-5) 5=true):ZE x rank=(RL x rank,true):=by unfold ZE;rw [hp,hw];rfl
theorem NK {x y:Z2} {rank:Int} {q:Bool} (h:ZE x rank=(y,q)) (w:World):Calls Tryz.prog 142 #[.agg (ZR x).toArray,.int .i64 rank] w fun e w'=>e= .returned (.tuple #[.agg (ZR y).toArray,.bool q])/\Below w.heap.size w w':=by
 obtain ⟨st,be,rk,my,gu,lo,hi,hd,ca,ut,wk⟩:=x
 have hz:=PQ rank
 cases hg:Wh (st,be,rk,my,gu,lo,hi,hd,ca,ut,wk)
 ·cases hp:Zg (st,be,rk,my,gu,lo,hi,hd,ca,ut,wk)
  ·rw [Qn rank hg hp] at h
   obtain ⟨rfl,rfl⟩:=Prod.mk.inj h
   exact UL w rfl fun R R' W hR hS=>MG hg hp _ _ _
  ·cases hw:inB rank (-5) 5
   ·rw [MU hp hw] at h
    obtain ⟨rfl,rfl⟩:=Prod.mk.inj h
    exact UL w rfl fun R R' W hR hS=>by rw [hz,hw];exact FV hg hp _ _
   ·rw [Oq hp hw] at h
    obtain ⟨rfl,rfl⟩:=Prod.mk.inj h
    obtain ⟨⟨s0,s1⟩,_,hr,_,_,_,⟨d0,d1⟩,⟨a0,a1⟩,_,⟨k0,k1⟩⟩:=Zk hp
    have hr0:=V5 hr
    have hr1:=(Uy rk).2
    have a2:ca<=3125:=by omega
    have x0:=V5 hw
    have x1:=(Uy rank).2
    have hs:Zu (RL (st,be,rk,my,gu,lo,hi,hd,ca,ut,wk) rank)=true:=Ly (TY hp hw)
    exact UL w rfl fun R R' W hR hS=>by rw [hz,hw];exact MF x0 x1 a0 a2 hR hS hg hp hs
 ·rw [Pg rank hg] at h
  obtain ⟨rfl,rfl⟩:=Prod.mk.inj h
  cases Vy hg
  exact UL w rfl fun R R' W hR hS=>KK _ _ _
end Go.Proofs.YtjhijildaceadaaGreatDoor
