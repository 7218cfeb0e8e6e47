/- Part 19 of what the proof rests on. No condition but those that a theorem names. -/
import Derived.Test.YtffcgajndmhpkaaGreatDoorXw09
set_option maxHeartbeats 8000000
set_option maxRecDepth 100000
namespace Go.Proofs.YtffcgajndmhpkaaGreatDoor
open Go.ChangeShapes Go.WideShapes Go.ChangeAt Go.RowKit Go.Sort Go.Deep
set_option linter.unusedVariables false
set_option linter.unusedSimpArgs false
theorem RC {a b c n l:Int} (h:Xg a b c=true) (hn:TZ a b c=n) (hl:TY a b c=l) (w:World):Calls Tryz.prog 101 #[.int .i64 a,.int .i64 b,.int .i64 c] w fun e w'=>e= .returned (.tuple #[.int .i64 n,.int .i64 l])/\ ∃ m,w'=w.drewN m:=by
 obtain ⟨h1,h2⟩:=MI h
 rw [<-hn,<-hl,h1,h2]
 clear h1 h2 hn hl
 obtain ⟨a0,a1,b0,b1,c0,c1⟩:=Ic h
 have ha:inB a 0 1000000000=true:=Zv a0 a1
 have hb:inB b 1 100000=true:=Zv b0 b1
 have hc:inB c 0 (b-1)=true:=Zv c0 (by omega)
 go_enter Tryz.func101,Tryz.ntmps101
 go_wp2_with (first | (go_at_call 162;refine (Um _ _).mono ?_;rintro e w' ⟨rfl,rfl⟩) | (go_at_call 40;refine (ZZ _ _ _ _).mono ?_;rintro e w' ⟨rfl,rfl⟩))
 go_quiet (fail)
 go_wp2_with fail
 go_ret2
 exact ⟨rfl,_,rfl⟩
theorem Iy (work:Int) (w:World):Calls Tryz.prog 42 #[.agg E11,.int .i64 work] w fun e w'=>e= .returned (.tuple #[.agg E11,.bool false])/\Below w.heap.size w w':=by
 have Hs:Hid (ZE (0,0,0,0,0,0,0,0,0,0,0)=true):=Z9 rfl
 go_enter Tryz.func42,Tryz.ntmps42
 go_wp2_with fail
 refine (ZA 0 0 0 0 0 0 0 0 0 0 0 _).mono ?_
 rw [uh Hs]
 rintro e w1 ⟨rfl,hb⟩
 have kb:Blk w1 w.heap.size 39 E11:=((Blk.new w 39 E11).alloc _).below hb (by simp;omega)
 have ko:Blk w1 (w.heap.size+1) 39 E11:=by
  have k:=Blk.new (w.alloc (.cells E11 39)) 39 E11
  rw [World.size_alloc] at k
  exact k.below hb (by simp)
 have hsz:w.heap.size+2<=w1.heap.size:=by have:=hb.size;simp at this;omega
 have hl0:w.heap.size<w1.heap.size:=by omega
 have hl1:w.heap.size+1<w1.heap.size:=by omega
 have B1:=Z9 ((((Below.refl w.heap.size w).alloc (Nat.le_refl _) _).alloc (by simp) _).trans (hb.mono (by simp;omega)))
 have Kb:=Z9 kb
 have Ko:=Z9 ko
 obtain ⟨c0,c1,c2,c3,c4,c5,c6,c7,c8,c9,c10⟩:=kb.c11
 obtain ⟨o0,o1,o2,o3,o4,o5,o6,o7,o8,o9,o10⟩:=ko.c11
 obtain ⟨of0,of1,of2,of3,of4,of5,of6,of7,of8,of9,of10⟩:=ko.f11
 clear hb kb ko
 go_wp2_with fail
 refine bodyPost_ret (v:= .tuple #[.agg E11,.bool false]) (by simp [results,Tryz.results42,go_sem,o0,o1,o2,o3,o4,o5,o6,o7,o8,o9,o10]) rfl ⟨rfl,?_⟩
 iterate 11 (refine Below.setCell ?_ (by simp) _)
 exact uh B1
theorem KD {st be rk my gu lo hi hd ca ut wk:Int} (work:Int) (w:World) (hs:ZE (st,be,rk,my,gu,lo,hi,hd,ca,ut,wk)=false):Calls Tryz.prog 42 #[.agg (I11 st be rk my gu lo hi hd ca ut wk),.int .i64 work] w fun e w'=>e= .returned (.tuple #[.agg E11,.bool false])/\Below w.heap.size w w':=by
 have Hs:=Z9 hs
 clear hs
 go_enter Tryz.func42,Tryz.ntmps42
 go_wp2_with fail
 refine (ZA st be rk my gu lo hi hd ca ut wk _).mono ?_
 rw [uh Hs]
 rintro e w1 ⟨rfl,hb⟩
 have kb:Blk w1 w.heap.size 39 (I11 st be rk my gu lo hi hd ca ut wk):=((Blk.new w 39 (I11 st be rk my gu lo hi hd ca ut wk)).alloc _).below hb (by simp;omega)
 have ko:Blk w1 (w.heap.size+1) 39 E11:=by
  have k:=Blk.new (w.alloc (.cells (I11 st be rk my gu lo hi hd ca ut wk) 39)) 39 E11
  rw [World.size_alloc] at k
  exact k.below hb (by simp)
 have hsz:w.heap.size+2<=w1.heap.size:=by have:=hb.size;simp at this;omega
 have hl0:w.heap.size<w1.heap.size:=by omega
 have hl1:w.heap.size+1<w1.heap.size:=by omega
 have B1:=Z9 ((((Below.refl w.heap.size w).alloc (Nat.le_refl _) _).alloc (by simp) _).trans (hb.mono (by simp;omega)))
 have Kb:=Z9 kb
 have Ko:=Z9 ko
 obtain ⟨c0,c1,c2,c3,c4,c5,c6,c7,c8,c9,c10⟩:=kb.c11
 obtain ⟨o0,o1,o2,o3,o4,o5,o6,o7,o8,o9,o10⟩:=ko.c11
 obtain ⟨of0,of1,of2,of3,of4,of5,of6,of7,of8,of9,of10⟩:=ko.f11
 clear hb kb ko
 go_wp2_with fail
 refine bodyPost_ret (v:= .tuple #[.agg E11,.bool false]) (by simp [results,Tryz.results42,go_sem,o0,o1,o2,o3,o4,o5,o6,o7,o8,o9,o10]) rfl ⟨rfl,?_⟩
 iterate 11 (refine Below.setCell ?_ (by simp) _)
 exact uh B1
theorem D5 {st be rk my gu lo hi hd ca ut wk:Int} (work:Int) (w:World) (hs:ZE (st,be,rk,my,gu,lo,hi,hd,ca,ut,wk)=true) (hst:(st ==0)=false) (hw:inB work 0 100000=false):Calls Tryz.prog 42 #[.agg (I11 st be rk my gu lo hi hd ca ut wk),.int .i64 work] w fun e w'=>e= .returned (.tuple #[.agg (I11 st be rk my gu lo hi hd ca ut wk),.bool false])/\Below w.heap.size w w':=by
 have Hs:=Z9 hs
 clear hs
 go_enter Tryz.func42,Tryz.ntmps42
 go_wp2_with fail
 refine (ZA st be rk my gu lo hi hd ca ut wk _).mono ?_
 rw [uh Hs]
 rintro e w1 ⟨rfl,hb⟩
 have kb:Blk w1 w.heap.size 39 (I11 st be rk my gu lo hi hd ca ut wk):=((Blk.new w 39 (I11 st be rk my gu lo hi hd ca ut wk)).alloc _).below hb (by simp;omega)
 have ko:Blk w1 (w.heap.size+1) 39 E11:=by
  have k:=Blk.new (w.alloc (.cells (I11 st be rk my gu lo hi hd ca ut wk) 39)) 39 E11
  rw [World.size_alloc] at k
  exact k.below hb (by simp)
 have hsz:w.heap.size+2<=w1.heap.size:=by have:=hb.size;simp at this;omega
 have hl0:w.heap.size<w1.heap.size:=by omega
 have hl1:w.heap.size+1<w1.heap.size:=by omega
 have B1:=Z9 ((((Below.refl w.heap.size w).alloc (Nat.le_refl _) _).alloc (by simp) _).trans (hb.mono (by simp;omega)))
 have Kb:=Z9 kb
 have Ko:=Z9 ko
 obtain ⟨c0,c1,c2,c3,c4,c5,c6,c7,c8,c9,c10⟩:=kb.c11
 obtain ⟨o0,o1,o2,o3,o4,o5,o6,o7,o8,o9,o10⟩:=ko.c11
 obtain ⟨of0,of1,of2,of3,of4,of5,of6,of7,of8,of9,of10⟩:=ko.f11
 clear hb kb ko
 go_wp2_with (go_at_call 40;refine (ZZ _ _ _ _).mono ?_;rintro e w' ⟨rfl,h9⟩;subst w')
 refine bodyPost_ret (v:= .tuple #[.agg (I11 st be rk my gu lo hi hd ca ut wk),.bool false]) (by simp [results,Tryz.results42,go_sem,o0,o1,o2,o3,o4,o5,o6,o7,o8,o9,o10]) rfl ⟨rfl,?_⟩
 iterate 11 (refine Below.setCell ?_ (by simp) _)
 exact uh B1
theorem Fl {st be rk my gu lo hi hd ca ut wk:Int} {work x n l:Int} {w:World} (hx:Zx rk=x) (hok:Xg work x ca=true) (hn:TZ work x ca=n) (hl:TY work x ca=l) (n0:0<=n) (n1:n<=400000)
  (d0 : -1000000000000<=hd) (d1:hd<=1000000000000) (k0:0<=wk) (k1:wk<=100000000000) (v0:0<=work) (v1:work<=100000) (hs:ZE (st,be,rk,my,gu,lo,hi,hd,ca,ut,wk)=true) (hst:(st ==0)=false) (h2:ZE (st,be,rk,my,gu,lo,hi,(hd+n),l,ut,(wk+work))=true):Calls Tryz.prog 42 #[.agg (I11 st be rk my gu lo hi hd ca ut wk),.int .i64 work] w fun e w'=>e= .returned (.tuple #[.agg (I11 st be rk my gu lo hi (hd+n) l ut (wk+work)),.bool true])/\Below w.heap.size w w':=by
 have Hs:=Z9 hs
 have H2:=Z9 h2
 have Hx:=Z9 hx
 have Hok:=Z9 hok
 have Hn:=Z9 hn
 have Hl:=Z9 hl
 have hw:inB work 0 100000=true:=Zv v0 v1
 clear hx hok hn hl hs h2
 go_enter Tryz.func42,Tryz.ntmps42
 go_wp2_with fail
 refine (ZA st be rk my gu lo hi hd ca ut wk _).mono ?_
 rw [uh Hs]
 rintro e w1 ⟨rfl,hb⟩
 have kb:Blk w1 w.heap.size 39 (I11 st be rk my gu lo hi hd ca ut wk):=((Blk.new w 39 (I11 st be rk my gu lo hi hd ca ut wk)).alloc _).below hb (by simp;omega)
 have ko:Blk w1 (w.heap.size+1) 39 E11:=by
  have k:=Blk.new (w.alloc (.cells (I11 st be rk my gu lo hi hd ca ut wk) 39)) 39 E11
  rw [World.size_alloc] at k
  exact k.below hb (by simp)
 have hsz:w.heap.size+2<=w1.heap.size:=by have:=hb.size;simp at this;omega
 have hl0:w.heap.size<w1.heap.size:=by omega
 have hl1:w.heap.size+1<w1.heap.size:=by omega
 have B1:=Z9 ((((Below.refl w.heap.size w).alloc (Nat.le_refl _) _).alloc (by simp) _).trans (hb.mono (by simp;omega)))
 have Kb:=Z9 kb
 have Ko:=Z9 ko
 obtain ⟨c0,c1,c2,c3,c4,c5,c6,c7,c8,c9,c10⟩:=kb.c11
 obtain ⟨o0,o1,o2,o3,o4,o5,o6,o7,o8,o9,o10⟩:=ko.c11
 obtain ⟨of0,of1,of2,of3,of4,of5,of6,of7,of8,of9,of10⟩:=ko.f11
 clear hb kb ko
 go_wp2_with (go_at_call 40;refine (ZZ _ _ _ _).mono ?_;rintro e w' ⟨rfl,h9⟩;subst w')
 go_quiet (first | exact Calls.quiet_of_same (YY (uh Hx) _) | exact Calls.quiet_of (RC (uh Hok) (uh Hn) (uh Hl) _))
 have kb:Blk (w1.drewN nq) w.heap.size 39 (I11 st be rk my gu lo hi hd ca ut wk):=uh Kb
 have ko:Blk (w1.drewN nq) (w.heap.size+1) 39 E11:=uh Ko
 have b1:=YP (uh B1) nq
 clear c0 o0 of0 c1 o1 of1 c2 o2 of2 c3 o3 of3 c4 o4 of4 c5 o5 of5 c6 o6 of6 c7 o7 of7 c8 o8 of8 c9 o9 of9 c10 o10 of10 Kb Ko B1 hl0 hl1
 rw [show w1.heap.size=(w1.drewN nq).heap.size from rfl] at hsz
 generalize w1.drewN nq=W1 at *
 have hl0:w.heap.size<W1.heap.size:=by omega
 have hl1:w.heap.size+1<W1.heap.size:=by omega
 have Kb:=Z9 kb
 have Ko:=Z9 ko
 have B1:=Z9 b1
 obtain ⟨c0,c1,c2,c3,c4,c5,c6,c7,c8,c9,c10⟩:=kb.c11
 obtain ⟨o0,o1,o2,o3,o4,o5,o6,o7,o8,o9,o10⟩:=ko.c11
 obtain ⟨of0,of1,of2,of3,of4,of5,of6,of7,of8,of9,of10⟩:=ko.f11
 clear kb ko b1
 go_wp2_with fail
 refine (ZA st be rk my gu lo hi (hd+n) l ut (wk+work) _).mono ?_
 rw [uh H2]
 rintro e w2 ⟨rfl,hb⟩
 have kb:Blk w2 w.heap.size 39 (I11 st be rk my gu lo hi hd ca ut wk):=(hb.block w.heap.size (by simp;omega)).trans ((uh Kb).alloc (.cells (I11 st be rk my gu lo hi (hd+n) l ut (wk+work)) 39))
 have ko:Blk w2 (w.heap.size+1) 39 E11:=(hb.block (w.heap.size+1) (by simp;omega)).trans ((uh Ko).alloc (.cells (I11 st be rk my gu lo hi (hd+n) l ut (wk+work)) 39))
 have kn:Blk w2 W1.heap.size 39 (I11 st be rk my gu lo hi (hd+n) l ut (wk+work)):=(hb.block W1.heap.size (by simp)).trans (Blk.new W1 39 (I11 st be rk my gu lo hi (hd+n) l ut (wk+work)))
 have B2:Hid (Below w.heap.size w w2):=Z9 (((uh B1).alloc (by omega) (.cells (I11 st be rk my gu lo hi (hd+n) l ut (wk+work)) 39)).trans (hb.mono (by simp;omega)))
 clear c0 o0 of0 c1 o1 of1 c2 o2 of2 c3 o3 of3 c4 o4 of4 c5 o5 of5 c6 o6 of6 c7 o7 of7 c8 o8 of8 c9 o9 of9 c10 o10 of10 Kb Ko
 obtain ⟨p0,p1,p2,p3,p4,p5,p6,p7,p8,p9,p10⟩:=kn.c11
 obtain ⟨o0,o1,o2,o3,o4,o5,o6,o7,o8,o9,o10⟩:=ko.c11
 obtain ⟨of0,of1,of2,of3,of4,of5,of6,of7,of8,of9,of10⟩:=ko.f11
 clear hb kb ko kn
 go_wp2_with fail
 refine bodyPost_ret (v:= .tuple #[.agg (I11 st be rk my gu lo hi (hd+n) l ut (wk+work)),.bool true]) (by simp [results,Tryz.results42,go_sem,o0,o1,o2,o3,o4,o5,o6,o7,o8,o9,o10]) rfl ⟨rfl,?_⟩
 iterate 11 (refine Below.setCell ?_ (by simp) _)
 exact uh B2
theorem Iz {st be rk my gu lo hi hd ca ut wk:Int} {work x n l:Int} {w:World} (hx:Zx rk=x) (hok:Xg work x ca=true) (hn:TZ work x ca=n) (hl:TY work x ca=l) (n0:0<=n) (n1:n<=400000)
  (d0 : -1000000000000<=hd) (d1:hd<=1000000000000) (k0:0<=wk) (k1:wk<=100000000000) (v0:0<=work) (v1:work<=100000) (hs:ZE (st,be,rk,my,gu,lo,hi,hd,ca,ut,wk)=true) (hst:(st ==0)=false) (h2:ZE (st,be,rk,my,gu,lo,hi,(hd+n),l,ut,(wk+work))=false):Calls Tryz.prog 42 #[.agg (I11 st be rk my gu lo hi hd ca ut wk),.int .i64 work] w fun e w'=>e= .returned (.tuple #[.agg (I11 st be rk my gu lo hi hd ca ut wk),.bool false])/\Below w.heap.size w w':=by
 have Hs:=Z9 hs
 have H2:=Z9 h2
 have Hx:=Z9 hx
 have Hok:=Z9 hok
 have Hn:=Z9 hn
 have Hl:=Z9 hl
 have hw:inB work 0 100000=true:=Zv v0 v1
 clear hx hok hn hl hs h2
 go_enter Tryz.func42,Tryz.ntmps42
 go_wp2_with fail
 refine (ZA st be rk my gu lo hi hd ca ut wk _).mono ?_
 rw [uh Hs]
 rintro e w1 ⟨rfl,hb⟩
 have kb:Blk w1 w.heap.size 39 (I11 st be rk my gu lo hi hd ca ut wk):=((Blk.new w 39 (I11 st be rk my gu lo hi hd ca ut wk)).alloc _).below hb (by simp;omega)
 have ko:Blk w1 (w.heap.size+1) 39 E11:=by
  have k:=Blk.new (w.alloc (.cells (I11 st be rk my gu lo hi hd ca ut wk) 39)) 39 E11
  rw [World.size_alloc] at k
  exact k.below hb (by simp)
 have hsz:w.heap.size+2<=w1.heap.size:=by have:=hb.size;simp at this;omega
 have hl0:w.heap.size<w1.heap.size:=by omega
 have hl1:w.heap.size+1<w1.heap.size:=by omega
 have B1:=Z9 ((((Below.refl w.heap.size w).alloc (Nat.le_refl _) _).alloc (by simp) _).trans (hb.mono (by simp;omega)))
 have Kb:=Z9 kb
 have Ko:=Z9 ko
 obtain ⟨c0,c1,c2,c3,c4,c5,c6,c7,c8,c9,c10⟩:=kb.c11
 obtain ⟨o0,o1,o2,o3,o4,o5,o6,o7,o8,o9,o10⟩:=ko.c11
 obtain ⟨of0,of1,of2,of3,of4,of5,of6,of7,of8,of9,of10⟩:=ko.f11
 clear hb kb ko
 go_wp2_with (go_at_call 40;refine (ZZ _ _ _ _).mono ?_;rintro e w' ⟨rfl,h9⟩;subst w')
 go_quiet (first | exact Calls.quiet_of_same (YY (uh Hx) _) | exact Calls.quiet_of (RC (uh Hok) (uh Hn) (uh Hl) _))
 have kb:Blk (w1.drewN nq) w.heap.size 39 (I11 st be rk my gu lo hi hd ca ut wk):=uh Kb
 have ko:Blk (w1.drewN nq) (w.heap.size+1) 39 E11:=uh Ko
 have b1:=YP (uh B1) nq
 clear c0 o0 of0 c1 o1 of1 c2 o2 of2 c3 o3 of3 c4 o4 of4 c5 o5 of5 c6 o6 of6 c7 o7 of7 c8 o8 of8 c9 o9 of9 c10 o10 of10 Kb Ko B1 hl0 hl1
 rw [show w1.heap.size=(w1.drewN nq).heap.size from rfl] at hsz
 generalize w1.drewN nq=W1 at *
 have hl0:w.heap.size<W1.heap.size:=by omega
 have hl1:w.heap.size+1<W1.heap.size:=by omega
 have Kb:=Z9 kb
 have Ko:=Z9 ko
 have B1:=Z9 b1
 obtain ⟨c0,c1,c2,c3,c4,c5,c6,c7,c8,c9,c10⟩:=kb.c11
 obtain ⟨o0,o1,o2,o3,o4,o5,o6,o7,o8,o9,o10⟩:=ko.c11
 obtain ⟨of0,of1,of2,of3,of4,of5,of6,of7,of8,of9,of10⟩:=ko.f11
 clear kb ko b1
 go_wp2_with fail
 refine (ZA st be rk my gu lo hi (hd+n) l ut (wk+work) _).mono ?_
 rw [uh H2]
 rintro e w2 ⟨rfl,hb⟩
 have kb:Blk w2 w.heap.size 39 (I11 st be rk my gu lo hi hd ca ut wk):=(hb.block w.heap.size (by simp;omega)).trans ((uh Kb).alloc (.cells (I11 st be rk my gu lo hi (hd+n) l ut (wk+work)) 39))
 have ko:Blk w2 (w.heap.size+1) 39 E11:=(hb.block (w.heap.size+1) (by simp;omega)).trans ((uh Ko).alloc (.cells (I11 st be rk my gu lo hi (hd+n) l ut (wk+work)) 39))
 have kn:Blk w2 W1.heap.size 39 (I11 st be rk my gu lo hi (hd+n) l ut (wk+work)):=(hb.block W1.heap.size (by simp)).trans (Blk.new W1 39 (I11 st be rk my gu lo hi (hd+n) l ut (wk+work)))
 have B2:Hid (Below w.heap.size w w2):=Z9 (((uh B1).alloc (by omega) (.cells (I11 st be rk my gu lo hi (hd+n) l ut (wk+work)) 39)).trans (hb.mono (by simp;omega)))
 clear c0 o0 of0 c1 o1 of1 c2 o2 of2 c3 o3 of3 c4 o4 of4 c5 o5 of5 c6 o6 of6 c7 o7 of7 c8 o8 of8 c9 o9 of9 c10 o10 of10 Kb Ko
 obtain ⟨p0,p1,p2,p3,p4,p5,p6,p7,p8,p9,p10⟩:=kb.c11
 obtain ⟨o0,o1,o2,o3,o4,o5,o6,o7,o8,o9,o10⟩:=ko.c11
 obtain ⟨of0,of1,of2,of3,of4,of5,of6,of7,of8,of9,of10⟩:=ko.f11
 clear hb kb ko kn
 go_wp2_with fail
 refine bodyPost_ret (v:= .tuple #[.agg (I11 st be rk my gu lo hi hd ca ut wk),.bool false]) (by simp [results,Tryz.results42,go_sem,o0,o1,o2,o3,o4,o5,o6,o7,o8,o9,o10]) rfl ⟨rfl,?_⟩
 iterate 11 (refine Below.setCell ?_ (by simp) _)
 exact uh B2
theorem T0 {x:Z3} (h:Zf x=true):ZE x=true:=by unfold ZE;rw [h,Bool.or_true]
theorem ON {x:Z3} (h:x.1 ≠ 0):ZE x=Zf x:=by unfold ZE;rw [SL h,Bool.false_or]
theorem NK {x:Z3} (work:Int) (hg:VX x=true):XE x work=(V8,false):=by
 have e:=VY hg
 subst e
 rfl
theorem Po {x:Z3} (work:Int) (hg:VX x=false) (hp:Zf x=false):XE x work=(V8,false):=by unfold XE;rw [hp,hg];rfl
theorem Lo {x:Z3} {work:Int} (hp:Zf x=true) (hw:inB work 0 100000=false):XE x work=(x,false):=by unfold XE;rw [hp,hw];rfl
theorem Ra {x:Z3} {work:Int} {q:Bool} (hp:Zf x=true) (hw:inB work 0 100000=true) (hq:Zf (OE x work)=q):XE x work=(if q then OE x work else x,q):=by unfold XE;rw [hp,hw,hq];cases q<;>rfl
theorem IB {st:Int} (h:1<=st):(st ==0)=false:=by simp;omega
theorem Nr {x y:Z3} {work:Int} {q:Bool} (h:XE x work=(y,q)) (w:World):Calls Tryz.prog 42 #[.agg (ZV x).toArray,.int .i64 work] w fun e w'=>e= .returned (.tuple #[.agg (ZV y).toArray,.bool q])/\Below w.heap.size w w':=by
 obtain ⟨st,be,rk,my,gu,lo,hi,hd,ca,ut,wk⟩:=x
 cases hg:VX (st,be,rk,my,gu,lo,hi,hd,ca,ut,wk)
 ·cases hp:Zf (st,be,rk,my,gu,lo,hi,hd,ca,ut,wk)
  ·rw [Po work hg hp] at h
   obtain ⟨rfl,rfl⟩:=Prod.mk.inj h
   exact KD work w (by unfold ZE;rw [hg,hp];rfl)
  ·cases hw:inB work 0 100000
   ·rw [Lo hp hw] at h
    obtain ⟨rfl,rfl⟩:=Prod.mk.inj h
    exact D5 work w (T0 hp) (IB (Zi hp).1.1) hw
   ·obtain ⟨v0,v1⟩:=ZU hw
    obtain ⟨⟨s0,s1⟩,_,hr,_,_,_,⟨d0,d1⟩,⟨a0,a1⟩,_,⟨k0,k1⟩⟩:=Zi hp
    have hr0:=Wr hr
    have hr1:=(UE rk).2
    have a2:ca<=3125:=by omega
    obtain ⟨hok,n0,n1,_,_,_⟩:=DY v0 v1 hr0 hr1 a0 a1
    cases hq:Zf (OE (st,be,rk,my,gu,lo,hi,hd,ca,ut,wk) work)
    ·rw [Ra hp hw hq] at h
     obtain ⟨rfl,rfl⟩:=Prod.mk.inj h
     exact Iz rfl hok rfl rfl n0 n1 d0 d1 k0 k1 v0 v1 (T0 hp) (IB s0) ((ON (x:=OE (st,be,rk,my,gu,lo,hi,hd,ca,ut,wk) work) (show st ≠ 0 by omega)).trans hq)
    ·rw [Ra hp hw hq] at h
     obtain ⟨rfl,rfl⟩:=Prod.mk.inj h
     exact Fl rfl hok rfl rfl n0 n1 d0 d1 k0 k1 v0 v1 (T0 hp) (IB s0) ((ON (x:=OE (st,be,rk,my,gu,lo,hi,hd,ca,ut,wk) work) (show st ≠ 0 by omega)).trans hq)
 ·rw [NK work hg] at h
  obtain ⟨rfl,rfl⟩:=Prod.mk.inj h
  cases VY hg
  exact Iy work w
end Go.Proofs.YtffcgajndmhpkaaGreatDoor
