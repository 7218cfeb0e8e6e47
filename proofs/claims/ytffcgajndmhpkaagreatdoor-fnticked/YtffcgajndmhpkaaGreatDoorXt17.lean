/- Part 17 of what the proof rests on. No condition but those that a theorem names. -/
import Derived.Test.YtffcgajndmhpkaaGreatDoorXt09
set_option maxHeartbeats 8000000
set_option maxRecDepth 100000
namespace Go.Proofs.YtffcgajndmhpkaaGreatDoor
open Go.ChangeShapes Go.WideShapes Go.ChangeAt Go.RowKit Go.Sort Go.Deep
set_option linter.unusedVariables false
set_option linter.unusedSimpArgs false
theorem RP {a b c n l:Int} (h:YA a b c=true) (hn:Wt a b c=n) (hl:Ws a b c=l) (w:World):Calls Tryz.prog 101 #[.int .i64 a,.int .i64 b,.int .i64 c] w fun e w'=>e= .returned (.tuple #[.int .i64 n,.int .i64 l])/\ ∃ m,w'=w.drewN m:=by
 obtain ⟨h1,h2⟩:=QZ h
 rw [<-hn,<-hl,h1,h2]
 clear h1 h2 hn hl
 obtain ⟨a0,a1,b0,b1,c0,c1⟩:=Sd h
 have ha:inB a 0 1000000000=true:=Zp a0 a1
 have hb:inB b 1 100000=true:=Zp b0 b1
 have hc:inB c 0 (b-1)=true:=Zp c0 (by omega)
 go_enter Tryz.func101,Tryz.ntmps101
 go_wp2_with (first | (go_at_call 162;refine (Uq _ _).mono ?_;rintro e w' ⟨rfl,rfl⟩) | (go_at_call 40;refine (Z1 _ _ _ _).mono ?_;rintro e w' ⟨rfl,rfl⟩))
 go_quiet (fail)
 go_wp2_with fail
 go_ret2
 exact ⟨rfl,_,rfl⟩
theorem II (work:Int) (w:World):Calls Tryz.prog 42 #[.agg E11,.int .i64 work] w fun e w'=>e= .returned (.tuple #[.agg E11,.bool false])/\Below w.heap.size w w':=by
 have Hs:Hid (ZJ (0,0,0,0,0,0,0,0,0,0,0)=true):=Z9 rfl
 go_enter Tryz.func42,Tryz.ntmps42
 go_wp2_with fail
 refine (Zx 0 0 0 0 0 0 0 0 0 0 0 _).mono ?_
 rw [uh Hs]
 rintro e w1 ⟨rfl,hb⟩
 have kb:Blk w1 w.heap.size 39 E11:=((Blk.new w 39 E11).alloc _).below hb (by simp;omega)
 have ko:Blk w1 (w.heap.size+1) 39 E11:=by
  have k:=Blk.new (w.alloc (.cells E11 39)) 39 E11
  rw [World.size_alloc] at k
  exact k.below hb (by simp)
 have hsz:w.heap.size+2<=w1.heap.size:=by have:=hb.size;simp at this;omega
 have hl0:w.heap.size<w1.heap.size:=by omega
 have hl1:w.heap.size+1<w1.heap.size:=by omega
 have B1:=Z9 ((((Below.refl w.heap.size w).alloc (Nat.le_refl _) _).alloc (by simp) _).trans (hb.mono (by simp;omega)))
 have Kb:=Z9 kb
 have Ko:=Z9 ko
 obtain ⟨c0,c1,c2,c3,c4,c5,c6,c7,c8,c9,c10⟩:=kb.c11
 obtain ⟨o0,o1,o2,o3,o4,o5,o6,o7,o8,o9,o10⟩:=ko.c11
 obtain ⟨of0,of1,of2,of3,of4,of5,of6,of7,of8,of9,of10⟩:=ko.f11
 clear hb kb ko
 go_wp2_with fail
 refine bodyPost_ret (v:= .tuple #[.agg E11,.bool false]) (by simp [results,Tryz.results42,go_sem,o0,o1,o2,o3,o4,o5,o6,o7,o8,o9,o10]) rfl ⟨rfl,?_⟩
 iterate 11 (refine Below.setCell ?_ (by simp) _)
 exact uh B1
theorem KP {st be rk my gu lo hi hd ca ut wk:Int} (work:Int) (w:World) (hs:ZJ (st,be,rk,my,gu,lo,hi,hd,ca,ut,wk)=false):Calls Tryz.prog 42 #[.agg (I11 st be rk my gu lo hi hd ca ut wk),.int .i64 work] w fun e w'=>e= .returned (.tuple #[.agg E11,.bool false])/\Below w.heap.size w w':=by
 have Hs:=Z9 hs
 clear hs
 go_enter Tryz.func42,Tryz.ntmps42
 go_wp2_with fail
 refine (Zx st be rk my gu lo hi hd ca ut wk _).mono ?_
 rw [uh Hs]
 rintro e w1 ⟨rfl,hb⟩
 have kb:Blk w1 w.heap.size 39 (I11 st be rk my gu lo hi hd ca ut wk):=((Blk.new w 39 (I11 st be rk my gu lo hi hd ca ut wk)).alloc _).below hb (by simp;omega)
 have ko:Blk w1 (w.heap.size+1) 39 E11:=by
  have k:=Blk.new (w.alloc (.cells (I11 st be rk my gu lo hi hd ca ut wk) 39)) 39 E11
  rw [World.size_alloc] at k
  exact k.below hb (by simp)
 have hsz:w.heap.size+2<=w1.heap.size:=by have:=hb.size;simp at this;omega
 have hl0:w.heap.size<w1.heap.size:=by omega
 have hl1:w.heap.size+1<w1.heap.size:=by omega
 have B1:=Z9 ((((Below.refl w.heap.size w).alloc (Nat.le_refl _) _).alloc (by simp) _).trans (hb.mono (by simp;omega)))
 have Kb:=Z9 kb
 have Ko:=Z9 ko
 obtain ⟨c0,c1,c2,c3,c4,c5,c6,c7,c8,c9,c10⟩:=kb.c11
 obtain ⟨o0,o1,o2,o3,o4,o5,o6,o7,o8,o9,o10⟩:=ko.c11
 obtain ⟨of0,of1,of2,of3,of4,of5,of6,of7,of8,of9,of10⟩:=ko.f11
 clear hb kb ko
 go_wp2_with fail
 refine bodyPost_ret (v:= .tuple #[.agg E11,.bool false]) (by simp [results,Tryz.results42,go_sem,o0,o1,o2,o3,o4,o5,o6,o7,o8,o9,o10]) rfl ⟨rfl,?_⟩
 iterate 11 (refine Below.setCell ?_ (by simp) _)
 exact uh B1
theorem Ek {st be rk my gu lo hi hd ca ut wk:Int} (work:Int) (w:World) (hs:ZJ (st,be,rk,my,gu,lo,hi,hd,ca,ut,wk)=true) (hst:(st ==0)=false) (hw:inB work 0 100000=false):Calls Tryz.prog 42 #[.agg (I11 st be rk my gu lo hi hd ca ut wk),.int .i64 work] w fun e w'=>e= .returned (.tuple #[.agg (I11 st be rk my gu lo hi hd ca ut wk),.bool false])/\Below w.heap.size w w':=by
 have Hs:=Z9 hs
 clear hs
 go_enter Tryz.func42,Tryz.ntmps42
 go_wp2_with fail
 refine (Zx st be rk my gu lo hi hd ca ut wk _).mono ?_
 rw [uh Hs]
 rintro e w1 ⟨rfl,hb⟩
 have kb:Blk w1 w.heap.size 39 (I11 st be rk my gu lo hi hd ca ut wk):=((Blk.new w 39 (I11 st be rk my gu lo hi hd ca ut wk)).alloc _).below hb (by simp;omega)
 have ko:Blk w1 (w.heap.size+1) 39 E11:=by
  have k:=Blk.new (w.alloc (.cells (I11 st be rk my gu lo hi hd ca ut wk) 39)) 39 E11
  rw [World.size_alloc] at k
  exact k.below hb (by simp)
 have hsz:w.heap.size+2<=w1.heap.size:=by have:=hb.size;simp at this;omega
 have hl0:w.heap.size<w1.heap.size:=by omega
 have hl1:w.heap.size+1<w1.heap.size:=by omega
 have B1:=Z9 ((((Below.refl w.heap.size w).alloc (Nat.le_refl _) _).alloc (by simp) _).trans (hb.mono (by simp;omega)))
 have Kb:=Z9 kb
 have Ko:=Z9 ko
 obtain ⟨c0,c1,c2,c3,c4,c5,c6,c7,c8,c9,c10⟩:=kb.c11
 obtain ⟨o0,o1,o2,o3,o4,o5,o6,o7,o8,o9,o10⟩:=ko.c11
 obtain ⟨of0,of1,of2,of3,of4,of5,of6,of7,of8,of9,of10⟩:=ko.f11
 clear hb kb ko
 go_wp2_with (go_at_call 40;refine (Z1 _ _ _ _).mono ?_;rintro e w' ⟨rfl,h9⟩;subst w')
 refine bodyPost_ret (v:= .tuple #[.agg (I11 st be rk my gu lo hi hd ca ut wk),.bool false]) (by simp [results,Tryz.results42,go_sem,o0,o1,o2,o3,o4,o5,o6,o7,o8,o9,o10]) rfl ⟨rfl,?_⟩
 iterate 11 (refine Below.setCell ?_ (by simp) _)
 exact uh B1
theorem FC {st be rk my gu lo hi hd ca ut wk:Int} {work x n l:Int} {w:World} (hx:Zy rk=x) (hok:YA work x ca=true) (hn:Wt work x ca=n) (hl:Ws work x ca=l) (n0:0<=n) (n1:n<=400000)
  (d0 : -1000000000000<=hd) (d1:hd<=1000000000000) (k0:0<=wk) (k1:wk<=100000000000) (v0:0<=work) (v1:work<=100000) (hs:ZJ (st,be,rk,my,gu,lo,hi,hd,ca,ut,wk)=true) (hst:(st ==0)=false) (h2:ZJ (st,be,rk,my,gu,lo,hi,(hd+n),l,ut,(wk+work))=true):Calls Tryz.prog 42 #[.agg (I11 st be rk my gu lo hi hd ca ut wk),.int .i64 work] w fun e w'=>e= .returned (.tuple #[.agg (I11 st be rk my gu lo hi (hd+n) l ut (wk+work)),.bool true])/\Below w.heap.size w w':=by
 have Hs:=Z9 hs
 have H2:=Z9 h2
 have Hx:=Z9 hx
 have Hok:=Z9 hok
 have Hn:=Z9 hn
 have Hl:=Z9 hl
 have hw:inB work 0 100000=true:=Zp v0 v1
 clear hx hok hn hl hs h2
 go_enter Tryz.func42,Tryz.ntmps42
 go_wp2_with fail
 refine (Zx st be rk my gu lo hi hd ca ut wk _).mono ?_
 rw [uh Hs]
 rintro e w1 ⟨rfl,hb⟩
 have kb:Blk w1 w.heap.size 39 (I11 st be rk my gu lo hi hd ca ut wk):=((Blk.new w 39 (I11 st be rk my gu lo hi hd ca ut wk)).alloc _).below hb (by simp;omega)
 have ko:Blk w1 (w.heap.size+1) 39 E11:=by
  have k:=Blk.new (w.alloc (.cells (I11 st be rk my gu lo hi hd ca ut wk) 39)) 39 E11
  rw [World.size_alloc] at k
  exact k.below hb (by simp)
 have hsz:w.heap.size+2<=w1.heap.size:=by have:=hb.size;simp at this;omega
 have hl0:w.heap.size<w1.heap.size:=by omega
 have hl1:w.heap.size+1<w1.heap.size:=by omega
 have B1:=Z9 ((((Below.refl w.heap.size w).alloc (Nat.le_refl _) _).alloc (by simp) _).trans (hb.mono (by simp;omega)))
 have Kb:=Z9 kb
 have Ko:=Z9 ko
 obtain ⟨c0,c1,c2,c3,c4,c5,c6,c7,c8,c9,c10⟩:=kb.c11
 obtain ⟨o0,o1,o2,o3,o4,o5,o6,o7,o8,o9,o10⟩:=ko.c11
 obtain ⟨of0,of1,of2,of3,of4,of5,of6,of7,of8,of9,of10⟩:=ko.f11
 clear hb kb ko
 go_wp2_with (go_at_call 40;refine (Z1 _ _ _ _).mono ?_;rintro e w' ⟨rfl,h9⟩;subst w')
 go_quiet (first | exact Calls.quiet_of_same (YV (uh Hx) _) | exact Calls.quiet_of (RP (uh Hok) (uh Hn) (uh Hl) _))
 have kb:Blk (w1.drewN nq) w.heap.size 39 (I11 st be rk my gu lo hi hd ca ut wk):=uh Kb
 have ko:Blk (w1.drewN nq) (w.heap.size+1) 39 E11:=uh Ko
 have b1:=YX (uh B1) nq
 clear c0 o0 of0 c1 o1 of1 c2 o2 of2 c3 o3 of3 c4 o4 of4 c5 o5 of5 c6 o6 of6 c7 o7 of7 c8 o8 of8 c9 o9 of9 c10 o10 of10 Kb Ko B1 hl0 hl1
 rw [show w1.heap.size=(w1.drewN nq).heap.size from rfl] at hsz
 generalize w1.drewN nq=W1 at *
 have hl0:w.heap.size<W1.heap.size:=by omega
 have hl1:w.heap.size+1<W1.heap.size:=by omega
 have Kb:=Z9 kb
 have Ko:=Z9 ko
 have B1:=Z9 b1
 obtain ⟨c0,c1,c2,c3,c4,c5,c6,c7,c8,c9,c10⟩:=kb.c11
 obtain ⟨o0,o1,o2,o3,o4,o5,o6,o7,o8,o9,o10⟩:=ko.c11
 obtain ⟨of0,of1,of2,of3,of4,of5,of6,of7,of8,of9,of10⟩:=ko.f11
 clear kb ko b1
 go_wp2_with fail
 refine (Zx st be rk my gu lo hi (hd+n) l ut (wk+work) _).mono ?_
 rw [uh H2]
 rintro e w2 ⟨rfl,hb⟩
 have kb:Blk w2 w.heap.size 39 (I11 st be rk my gu lo hi hd ca ut wk):=(hb.block w.heap.size (by simp;omega)).trans ((uh Kb).alloc (.cells (I11 st be rk my gu lo hi (hd+n) l ut (wk+work)) 39))
 have ko:Blk w2 (w.heap.size+1) 39 E11:=(hb.block (w.heap.size+1) (by simp;omega)).trans ((uh Ko).alloc (.cells (I11 st be rk my gu lo hi (hd+n) l ut (wk+work)) 39))
 have kn:Blk w2 W1.heap.size 39 (I11 st be rk my gu lo hi (hd+n) l ut (wk+work)):=(hb.block W1.heap.size (by simp)).trans (Blk.new W1 39 (I11 st be rk my gu lo hi (hd+n) l ut (wk+work)))
 have B2:Hid (Below w.heap.size w w2):=Z9 (((uh B1).alloc (by omega) (.cells (I11 st be rk my gu lo hi (hd+n) l ut (wk+work)) 39)).trans (hb.mono (by simp;omega)))
 clear c0 o0 of0 c1 o1 of1 c2 o2 of2 c3 o3 of3 c4 o4 of4 c5 o5 of5 c6 o6 of6 c7 o7 of7 c8 o8 of8 c9 o9 of9 c10 o10 of10 Kb Ko
 obtain ⟨p0,p1,p2,p3,p4,p5,p6,p7,p8,p9,p10⟩:=kn.c11
 obtain ⟨o0,o1,o2,o3,o4,o5,o6,o7,o8,o9,o10⟩:=ko.c11
 obtain ⟨of0,of1,of2,of3,of4,of5,of6,of7,of8,of9,of10⟩:=ko.f11
 clear hb kb ko kn
 go_wp2_with fail
 refine bodyPost_ret (v:= .tuple #[.agg (I11 st be rk my gu lo hi (hd+n) l ut (wk+work)),.bool true]) (by simp [results,Tryz.results42,go_sem,o0,o1,o2,o3,o4,o5,o6,o7,o8,o9,o10]) rfl ⟨rfl,?_⟩
 iterate 11 (refine Below.setCell ?_ (by simp) _)
 exact uh B2
theorem IJ {st be rk my gu lo hi hd ca ut wk:Int} {work x n l:Int} {w:World} (hx:Zy rk=x) (hok:YA work x ca=true) (hn:Wt work x ca=n) (hl:Ws work x ca=l) (n0:0<=n) (n1:n<=400000)
  (d0 : -1000000000000<=hd) (d1:hd<=1000000000000) (k0:0<=wk) (k1:wk<=100000000000) (v0:0<=work) (v1:work<=100000) (hs:ZJ (st,be,rk,my,gu,lo,hi,hd,ca,ut,wk)=true) (hst:(st ==0)=false) (h2:ZJ (st,be,rk,my,gu,lo,hi,(hd+n),l,ut,(wk+work))=false):Calls Tryz.prog 42 #[.agg (I11 st be rk my gu lo hi hd ca ut wk),.int .i64 work] w fun e w'=>e= .returned (.tuple #[.agg (I11 st be rk my gu lo hi hd ca ut wk),.bool false])/\Below w.heap.size w w':=by
 have Hs:=Z9 hs
 have H2:=Z9 h2
 have Hx:=Z9 hx
 have Hok:=Z9 hok
 have Hn:=Z9 hn
 have Hl:=Z9 hl
 have hw:inB work 0 100000=true:=Zp v0 v1
 clear hx hok hn hl hs h2
 go_enter Tryz.func42,Tryz.ntmps42
 go_wp2_with fail
 refine (Zx st be rk my gu lo hi hd ca ut wk _).mono ?_
 rw [uh Hs]
 rintro e w1 ⟨rfl,hb⟩
 have kb:Blk w1 w.heap.size 39 (I11 st be rk my gu lo hi hd ca ut wk):=((Blk.new w 39 (I11 st be rk my gu lo hi hd ca ut wk)).alloc _).below hb (by simp;omega)
 have ko:Blk w1 (w.heap.size+1) 39 E11:=by
  have k:=Blk.new (w.alloc (.cells (I11 st be rk my gu lo hi hd ca ut wk) 39)) 39 E11
  rw [World.size_alloc] at k
  exact k.below hb (by simp)
 have hsz:w.heap.size+2<=w1.heap.size:=by have:=hb.size;simp at this;omega
 have hl0:w.heap.size<w1.heap.size:=by omega
 have hl1:w.heap.size+1<w1.heap.size:=by omega
 have B1:=Z9 ((((Below.refl w.heap.size w).alloc (Nat.le_refl _) _).alloc (by simp) _).trans (hb.mono (by simp;omega)))
 have Kb:=Z9 kb
 have Ko:=Z9 ko
 obtain ⟨c0,c1,c2,c3,c4,c5,c6,c7,c8,c9,c10⟩:=kb.c11
 obtain ⟨o0,o1,o2,o3,o4,o5,o6,o7,o8,o9,o10⟩:=ko.c11
 obtain ⟨of0,of1,of2,of3,of4,of5,of6,of7,of8,of9,of10⟩:=ko.f11
 clear hb kb ko
 go_wp2_with (go_at_call 40;refine (Z1 _ _ _ _).mono ?_;rintro e w' ⟨rfl,h9⟩;subst w')
 go_quiet (first | exact Calls.quiet_of_same (YV (uh Hx) _) | exact Calls.quiet_of (RP (uh Hok) (uh Hn) (uh Hl) _))
 have kb:Blk (w1.drewN nq) w.heap.size 39 (I11 st be rk my gu lo hi hd ca ut wk):=uh Kb
 have ko:Blk (w1.drewN nq) (w.heap.size+1) 39 E11:=uh Ko
 have b1:=YX (uh B1) nq
 clear c0 o0 of0 c1 o1 of1 c2 o2 of2 c3 o3 of3 c4 o4 of4 c5 o5 of5 c6 o6 of6 c7 o7 of7 c8 o8 of8 c9 o9 of9 c10 o10 of10 Kb Ko B1 hl0 hl1
 rw [show w1.heap.size=(w1.drewN nq).heap.size from rfl] at hsz
 generalize w1.drewN nq=W1 at *
 have hl0:w.heap.size<W1.heap.size:=by omega
 have hl1:w.heap.size+1<W1.heap.size:=by omega
 have Kb:=Z9 kb
 have Ko:=Z9 ko
 have B1:=Z9 b1
 obtain ⟨c0,c1,c2,c3,c4,c5,c6,c7,c8,c9,c10⟩:=kb.c11
 obtain ⟨o0,o1,o2,o3,o4,o5,o6,o7,o8,o9,o10⟩:=ko.c11
 obtain ⟨of0,of1,of2,of3,of4,of5,of6,of7,of8,of9,of10⟩:=ko.f11
 clear kb ko b1
 go_wp2_with fail
 refine (Zx st be rk my gu lo hi (hd+n) l ut (wk+work) _).mono ?_
 rw [uh H2]
 rintro e w2 ⟨rfl,hb⟩
 have kb:Blk w2 w.heap.size 39 (I11 st be rk my gu lo hi hd ca ut wk):=(hb.block w.heap.size (by simp;omega)).trans ((uh Kb).alloc (.cells (I11 st be rk my gu lo hi (hd+n) l ut (wk+work)) 39))
 have ko:Blk w2 (w.heap.size+1) 39 E11:=(hb.block (w.heap.size+1) (by simp;omega)).trans ((uh Ko).alloc (.cells (I11 st be rk my gu lo hi (hd+n) l ut (wk+work)) 39))
 have kn:Blk w2 W1.heap.size 39 (I11 st be rk my gu lo hi (hd+n) l ut (wk+work)):=(hb.block W1.heap.size (by simp)).trans (Blk.new W1 39 (I11 st be rk my gu lo hi (hd+n) l ut (wk+work)))
 have B2:Hid (Below w.heap.size w w2):=Z9 (((uh B1).alloc (by omega) (.cells (I11 st be rk my gu lo hi (hd+n) l ut (wk+work)) 39)).trans (hb.mono (by simp;omega)))
 clear c0 o0 of0 c1 o1 of1 c2 o2 of2 c3 o3 of3 c4 o4 of4 c5 o5 of5 c6 o6 of6 c7 o7 of7 c8 o8 of8 c9 o9 of9 c10 o10 of10 Kb Ko
 obtain ⟨p0,p1,p2,p3,p4,p5,p6,p7,p8,p9,p10⟩:=kb.c11
 obtain ⟨o0,o1,o2,o3,o4,o5,o6,o7,o8,o9,o10⟩:=ko.c11
 obtain ⟨of0,of1,of2,of3,of4,of5,of6,of7,of8,of9,of10⟩:=ko.f11
 clear hb kb ko kn
 go_wp2_with fail
 refine bodyPost_ret (v:= .tuple #[.agg (I11 st be rk my gu lo hi hd ca ut wk),.bool false]) (by simp [results,Tryz.results42,go_sem,o0,o1,o2,o3,o4,o5,o6,o7,o8,o9,o10]) rfl ⟨rfl,?_⟩
 iterate 11 (refine Below.setCell ?_ (by simp) _)
 exact uh B2
theorem Ud {x:Z3} (h:Zw x=true):ZJ x=true:=by unfold ZJ;rw [h,Bool.or_true]
theorem OZ {x:Z3} (h:x.1 ≠ 0):ZJ x=Zw x:=by unfold ZJ;rw [Up h,Bool.false_or]
theorem NS {x:Z3} (work:Int) (hg:XB x=true):ZH x work=(XV,false):=by
 have e:=Xc hg
 subst e
 rfl
theorem PC {x:Z3} (work:Int) (hg:XB x=false) (hp:Zw x=false):ZH x work=(XV,false):=by unfold ZH;rw [hp,hg];rfl
theorem Ly {x:Z3} {work:Int} (hp:Zw x=true) (hw:inB work 0 100000=false):ZH x work=(x,false):=by unfold ZH;rw [hp,hw];rfl
theorem Rq {x:Z3} {work:Int} {q:Bool} (hp:Zw x=true) (hw:inB work 0 100000=true) (hq:Zw (Uy x work)=q):ZH x work=(if q then Uy x work else x,q):=by unfold ZH;rw [hp,hw,hq];cases q<;>rfl
theorem IL {st:Int} (h:1<=st):(st ==0)=false:=by simp;omega
theorem NB {x y:Z3} {work:Int} {q:Bool} (h:ZH x work=(y,q)) (w:World):Calls Tryz.prog 42 #[.agg (ZX x).toArray,.int .i64 work] w fun e w'=>e= .returned (.tuple #[.agg (ZX y).toArray,.bool q])/\Below w.heap.size w w':=by
 obtain ⟨st,be,rk,my,gu,lo,hi,hd,ca,ut,wk⟩:=x
 cases hg:XB (st,be,rk,my,gu,lo,hi,hd,ca,ut,wk)
 ·cases hp:Zw (st,be,rk,my,gu,lo,hi,hd,ca,ut,wk)
  ·rw [PC work hg hp] at h
   obtain ⟨rfl,rfl⟩:=Prod.mk.inj h
   exact KP work w (by unfold ZJ;rw [hg,hp];rfl)
  ·cases hw:inB work 0 100000
   ·rw [Ly hp hw] at h
    obtain ⟨rfl,rfl⟩:=Prod.mk.inj h
    exact Ek work w (Ud hp) (IL (Zu hp).1.1) hw
   ·obtain ⟨v0,v1⟩:=ZU hw
    obtain ⟨⟨s0,s1⟩,_,hr,_,_,_,⟨d0,d1⟩,⟨a0,a1⟩,_,⟨k0,k1⟩⟩:=Zu hp
    have hr0:=WU hr
    have hr1:=(VH rk).2
    have a2:ca<=3125:=by omega
    obtain ⟨hok,n0,n1,_,_,_⟩:=KN v0 v1 hr0 hr1 a0 a1
    cases hq:Zw (Uy (st,be,rk,my,gu,lo,hi,hd,ca,ut,wk) work)
    ·rw [Rq hp hw hq] at h
     obtain ⟨rfl,rfl⟩:=Prod.mk.inj h
     exact IJ rfl hok rfl rfl n0 n1 d0 d1 k0 k1 v0 v1 (Ud hp) (IL s0) ((OZ (x:=Uy (st,be,rk,my,gu,lo,hi,hd,ca,ut,wk) work) (show st ≠ 0 by omega)).trans hq)
    ·rw [Rq hp hw hq] at h
     obtain ⟨rfl,rfl⟩:=Prod.mk.inj h
     exact FC rfl hok rfl rfl n0 n1 d0 d1 k0 k1 v0 v1 (Ud hp) (IL s0) ((OZ (x:=Uy (st,be,rk,my,gu,lo,hi,hd,ca,ut,wk) work) (show st ≠ 0 by omega)).trans hq)
 ·rw [NS work hg] at h
  obtain ⟨rfl,rfl⟩:=Prod.mk.inj h
  cases Xc hg
  exact II work w
end Go.Proofs.YtffcgajndmhpkaaGreatDoor
