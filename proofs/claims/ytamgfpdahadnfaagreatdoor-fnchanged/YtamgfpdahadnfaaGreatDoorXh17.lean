/- Part 17 of what the proof rests on. No condition but those that a theorem names. -/
import Derived.Test.YtamgfpdahadnfaaGreatDoorXh21
import Derived.Test.YtamgfpdahadnfaaGreatDoorXh16
set_option maxHeartbeats 8000000
set_option maxRecDepth 100000
namespace Go.Proofs.YtamgfpdahadnfaaGreatDoor
open Go.ChangeShapes Go.WideShapes Go.ChangeAt Go.RowKit Go.Sort Go.Deep
set_option linter.unusedVariables false
set_option linter.unusedSimpArgs false
theorem PS {a b c n l:Int} (h:Wl a b c=true) (hn:SQ a b c=n) (hl:SP a b c=l) (w:World):Calls Tryz.prog 301 #[.int .i64 a,.int .i64 b,.int .i64 c] w fun e w'=>e= .returned (.tuple #[.int .i64 n,.int .i64 l])/\ ∃ m,w'=w.drewN m:=by
 obtain ⟨h1,h2⟩:=Kh h;rw [<-hn,<-hl,h1,h2];clear h1 h2 hn hl;obtain ⟨a0,a1,b0,b1,c0,c1⟩:=EF h;have ha:inB a 0 1000000000=true:=Zn a0 a1;have hb:inB b 1 100000=true:=Zn b0 b1;have hc:inB c 0 (b-1)=true:=Zn c0 (by omega);go_enter Tryz.func301,Tryz.ntmps301;go_wp2_with (first | (go_at_call 309;refine (Tg _ _).mono ?_;rintro e w' ⟨rfl,rfl⟩) | (go_at_call 59;refine (ZT _ _ _ _).mono ?_;rintro e w' ⟨rfl,rfl⟩))
 go_quiet (fail);go_wp2_with fail
 go_ret2
 exact ⟨rfl,_,rfl⟩
theorem E8 (work:Int) (w:World):Calls Tryz.prog 279 #[.agg E11,.int .i64 work] w fun e w'=>e= .returned (.tuple #[.agg E11,.bool false])/\Below w.heap.size w w':=by
 have Hs:Hid (Zx (0,0,0,0,0,0,0,0,0,0,0)=true):=Z9 rfl;go_enter Tryz.func279,Tryz.ntmps279;go_wp2_with fail;refine (Zm 0 0 0 0 0 0 0 0 0 0 0 _).mono ?_;rw [uh Hs];rintro e w1 ⟨rfl,hb⟩;have kb:Blk w1 w.heap.size 40 E11:=((Blk.new w 40 E11).alloc _).below hb (by simp;omega)
 have ko:Blk w1 (w.heap.size+1) 40 E11:=by
  have k:=Blk.new (w.alloc (.cells E11 40)) 40 E11;rw [ZB] at k;exact k.below hb (by simp)
 have hsz:w.heap.size+2<=w1.heap.size:=by have:=hb.size;simp at this;omega
 have hl0:w.heap.size<w1.heap.size:=by omega
 have hl1:w.heap.size+1<w1.heap.size:=by omega
 have B1:=Z9 ((((Z1 w.heap.size w).alloc (Z2 _) _).alloc (by simp) _).trans (hb.mono (by simp;omega)));have Kb:=Z9 kb;have Ko:=Z9 ko;obtain ⟨c0,c1,c2,c3,c4,c5,c6,c7,c8,c9,c10⟩:=kb.c11;obtain ⟨o0,o1,o2,o3,o4,o5,o6,o7,o8,o9,o10⟩:=ko.c11;obtain ⟨of0,of1,of2,of3,of4,of5,of6,of7,of8,of9,of10⟩:=ko.f11;clear hb kb ko;go_wp2_with fail;refine ZS (v:= .tuple #[.agg E11,.bool false]) (by simp [results,Tryz.results279,go_sem,o0,o1,o2,o3,o4,o5,o6,o7,o8,o9,o10]) rfl ⟨rfl,?_⟩
 iterate 11 (refine YS ?_ (by simp) _)
 exact uh B1
theorem Io {st be rk my gu lo hi hd ca ut wk:Int} (work:Int) (w:World) (hs:Zx (st,be,rk,my,gu,lo,hi,hd,ca,ut,wk)=false):Calls Tryz.prog 279 #[.agg (I11 st be rk my gu lo hi hd ca ut wk),.int .i64 work] w fun e w'=>e= .returned (.tuple #[.agg E11,.bool false])/\Below w.heap.size w w':=by
 have Hs:=Z9 hs;clear hs;go_enter Tryz.func279,Tryz.ntmps279;go_wp2_with fail;refine (Zm st be rk my gu lo hi hd ca ut wk _).mono ?_;rw [uh Hs];rintro e w1 ⟨rfl,hb⟩;have kb:Blk w1 w.heap.size 40 (I11 st be rk my gu lo hi hd ca ut wk):=((Blk.new w 40 (I11 st be rk my gu lo hi hd ca ut wk)).alloc _).below hb (by simp;omega)
 have ko:Blk w1 (w.heap.size+1) 40 E11:=by
  have k:=Blk.new (w.alloc (.cells (I11 st be rk my gu lo hi hd ca ut wk) 40)) 40 E11;rw [ZB] at k;exact k.below hb (by simp)
 have hsz:w.heap.size+2<=w1.heap.size:=by have:=hb.size;simp at this;omega
 have hl0:w.heap.size<w1.heap.size:=by omega
 have hl1:w.heap.size+1<w1.heap.size:=by omega
 have B1:=Z9 ((((Z1 w.heap.size w).alloc (Z2 _) _).alloc (by simp) _).trans (hb.mono (by simp;omega)));have Kb:=Z9 kb;have Ko:=Z9 ko;obtain ⟨c0,c1,c2,c3,c4,c5,c6,c7,c8,c9,c10⟩:=kb.c11;obtain ⟨o0,o1,o2,o3,o4,o5,o6,o7,o8,o9,o10⟩:=ko.c11;obtain ⟨of0,of1,of2,of3,of4,of5,of6,of7,of8,of9,of10⟩:=ko.f11;clear hb kb ko;go_wp2_with fail;refine ZS (v:= .tuple #[.agg E11,.bool false]) (by simp [results,Tryz.results279,go_sem,o0,o1,o2,o3,o4,o5,o6,o7,o8,o9,o10]) rfl ⟨rfl,?_⟩
 iterate 11 (refine YS ?_ (by simp) _)
 exact uh B1
theorem A4 {st be rk my gu lo hi hd ca ut wk:Int} (work:Int) (w:World) (hs:Zx (st,be,rk,my,gu,lo,hi,hd,ca,ut,wk)=true) (hst:(st ==0)=false) (hw:inB work 0 100000=false):Calls Tryz.prog 279 #[.agg (I11 st be rk my gu lo hi hd ca ut wk),.int .i64 work] w fun e w'=>e= .returned (.tuple #[.agg (I11 st be rk my gu lo hi hd ca ut wk),.bool false])/\Below w.heap.size w w':=by
 have Hs:=Z9 hs;clear hs;go_enter Tryz.func279,Tryz.ntmps279;go_wp2_with fail;refine (Zm st be rk my gu lo hi hd ca ut wk _).mono ?_;rw [uh Hs];rintro e w1 ⟨rfl,hb⟩;have kb:Blk w1 w.heap.size 40 (I11 st be rk my gu lo hi hd ca ut wk):=((Blk.new w 40 (I11 st be rk my gu lo hi hd ca ut wk)).alloc _).below hb (by simp;omega)
 have ko:Blk w1 (w.heap.size+1) 40 E11:=by
  have k:=Blk.new (w.alloc (.cells (I11 st be rk my gu lo hi hd ca ut wk) 40)) 40 E11;rw [ZB] at k;exact k.below hb (by simp)
 have hsz:w.heap.size+2<=w1.heap.size:=by have:=hb.size;simp at this;omega
 have hl0:w.heap.size<w1.heap.size:=by omega
 have hl1:w.heap.size+1<w1.heap.size:=by omega
 have B1:=Z9 ((((Z1 w.heap.size w).alloc (Z2 _) _).alloc (by simp) _).trans (hb.mono (by simp;omega)));have Kb:=Z9 kb;have Ko:=Z9 ko;obtain ⟨c0,c1,c2,c3,c4,c5,c6,c7,c8,c9,c10⟩:=kb.c11;obtain ⟨o0,o1,o2,o3,o4,o5,o6,o7,o8,o9,o10⟩:=ko.c11;obtain ⟨of0,of1,of2,of3,of4,of5,of6,of7,of8,of9,of10⟩:=ko.f11;clear hb kb ko;go_wp2_with (go_at_call 59;refine (ZT _ _ _ _).mono ?_;rintro e w' ⟨rfl,h9⟩;subst w')
 refine ZS (v:= .tuple #[.agg (I11 st be rk my gu lo hi hd ca ut wk),.bool false]) (by simp [results,Tryz.results279,go_sem,o0,o1,o2,o3,o4,o5,o6,o7,o8,o9,o10]) rfl ⟨rfl,?_⟩
 iterate 11 (refine YS ?_ (by simp) _)
 exact uh B1
theorem Cz {st be rk my gu lo hi hd ca ut wk:Int} {work x n l:Int} {w:World} (hx:Zl rk=x) (hok:Wl work x ca=true) (hn:SQ work x ca=n) (hl:SP work x ca=l) (n0:0<=n) (n1:n<=400000)
  (d0 : -1000000000000<=hd) (d1:hd<=1000000000000) (k0:0<=wk) (k1:wk<=100000000000) (v0:0<=work) (v1:work<=100000) (hs:Zx (st,be,rk,my,gu,lo,hi,hd,ca,ut,wk)=true) (hst:(st ==0)=false) (h2:Zx (st,be,rk,my,gu,lo,hi,(hd+n),l,ut,(wk+work))=true):Calls Tryz.prog 279 #[.agg (I11 st be rk my gu lo hi hd ca ut wk),.int .i64 work] w fun e w'=>e= .returned (.tuple #[.agg (I11 st be rk my gu lo hi (hd+n) l ut (wk+work)),.bool true])/\Below w.heap.size w w':=by
 have Hs:=Z9 hs;have H2:=Z9 h2;have Hx:=Z9 hx;have Hok:=Z9 hok;have Hn:=Z9 hn;have Hl:=Z9 hl;have hw:inB work 0 100000=true:=Zn v0 v1;clear hx hok hn hl hs h2;go_enter Tryz.func279,Tryz.ntmps279;go_wp2_with fail;refine (Zm st be rk my gu lo hi hd ca ut wk _).mono ?_;rw [uh Hs];rintro e w1 ⟨rfl,hb⟩;have kb:Blk w1 w.heap.size 40 (I11 st be rk my gu lo hi hd ca ut wk):=((Blk.new w 40 (I11 st be rk my gu lo hi hd ca ut wk)).alloc _).below hb (by simp;omega)
 have ko:Blk w1 (w.heap.size+1) 40 E11:=by
  have k:=Blk.new (w.alloc (.cells (I11 st be rk my gu lo hi hd ca ut wk) 40)) 40 E11;rw [ZB] at k;exact k.below hb (by simp)
 have hsz:w.heap.size+2<=w1.heap.size:=by have:=hb.size;simp at this;omega
 have hl0:w.heap.size<w1.heap.size:=by omega
 have hl1:w.heap.size+1<w1.heap.size:=by omega
 have B1:=Z9 ((((Z1 w.heap.size w).alloc (Z2 _) _).alloc (by simp) _).trans (hb.mono (by simp;omega)));have Kb:=Z9 kb;have Ko:=Z9 ko;obtain ⟨c0,c1,c2,c3,c4,c5,c6,c7,c8,c9,c10⟩:=kb.c11;obtain ⟨o0,o1,o2,o3,o4,o5,o6,o7,o8,o9,o10⟩:=ko.c11;obtain ⟨of0,of1,of2,of3,of4,of5,of6,of7,of8,of9,of10⟩:=ko.f11;clear hb kb ko;go_wp2_with (go_at_call 59;refine (ZT _ _ _ _).mono ?_;rintro e w' ⟨rfl,h9⟩;subst w')
 go_quiet (first | exact Yg (YB (uh Hx) _) | exact Calls.quiet_of (PS (uh Hok) (uh Hn) (uh Hl) _));have kb:Blk (w1.drewN nq) w.heap.size 40 (I11 st be rk my gu lo hi hd ca ut wk):=uh Kb;have ko:Blk (w1.drewN nq) (w.heap.size+1) 40 E11:=uh Ko;have b1:=Yn (uh B1) nq;clear c0 o0 of0 c1 o1 of1 c2 o2 of2 c3 o3 of3 c4 o4 of4 c5 o5 of5 c6 o6 of6 c7 o7 of7 c8 o8 of8 c9 o9 of9 c10 o10 of10 Kb Ko B1 hl0 hl1;rw [show w1.heap.size=(w1.drewN nq).heap.size from rfl] at hsz;generalize w1.drewN nq=W1 at *;have hl0:w.heap.size<W1.heap.size:=by omega
 have hl1:w.heap.size+1<W1.heap.size:=by omega
 have Kb:=Z9 kb;have Ko:=Z9 ko;have B1:=Z9 b1;obtain ⟨c0,c1,c2,c3,c4,c5,c6,c7,c8,c9,c10⟩:=kb.c11;obtain ⟨o0,o1,o2,o3,o4,o5,o6,o7,o8,o9,o10⟩:=ko.c11;obtain ⟨of0,of1,of2,of3,of4,of5,of6,of7,of8,of9,of10⟩:=ko.f11;clear kb ko b1;go_wp2_with fail;refine (Zm st be rk my gu lo hi (hd+n) l ut (wk+work) _).mono ?_;rw [uh H2];rintro e w2 ⟨rfl,hb⟩;have kb:Blk w2 w.heap.size 40 (I11 st be rk my gu lo hi hd ca ut wk):=(hb.block w.heap.size (by simp;omega)).trans ((uh Kb).alloc (.cells (I11 st be rk my gu lo hi (hd+n) l ut (wk+work)) 40));have ko:Blk w2 (w.heap.size+1) 40 E11:=(hb.block (w.heap.size+1) (by simp;omega)).trans ((uh Ko).alloc (.cells (I11 st be rk my gu lo hi (hd+n) l ut (wk+work)) 40));have kn:Blk w2 W1.heap.size 40 (I11 st be rk my gu lo hi (hd+n) l ut (wk+work)):=(hb.block W1.heap.size (by simp)).trans (Blk.new W1 40 (I11 st be rk my gu lo hi (hd+n) l ut (wk+work)));have B2:Hid (Below w.heap.size w w2):=Z9 (((uh B1).alloc (by omega) (.cells (I11 st be rk my gu lo hi (hd+n) l ut (wk+work)) 40)).trans (hb.mono (by simp;omega)));clear c0 o0 of0 c1 o1 of1 c2 o2 of2 c3 o3 of3 c4 o4 of4 c5 o5 of5 c6 o6 of6 c7 o7 of7 c8 o8 of8 c9 o9 of9 c10 o10 of10 Kb Ko;obtain ⟨p0,p1,p2,p3,p4,p5,p6,p7,p8,p9,p10⟩:=kn.c11;obtain ⟨o0,o1,o2,o3,o4,o5,o6,o7,o8,o9,o10⟩:=ko.c11;obtain ⟨of0,of1,of2,of3,of4,of5,of6,of7,of8,of9,of10⟩:=ko.f11;clear hb kb ko kn;go_wp2_with fail;refine ZS (v:= .tuple #[.agg (I11 st be rk my gu lo hi (hd+n) l ut (wk+work)),.bool true]) (by simp [results,Tryz.results279,go_sem,o0,o1,o2,o3,o4,o5,o6,o7,o8,o9,o10]) rfl ⟨rfl,?_⟩
 iterate 11 (refine YS ?_ (by simp) _)
 exact uh B2
theorem Fa {st be rk my gu lo hi hd ca ut wk:Int} {work x n l:Int} {w:World} (hx:Zl rk=x) (hok:Wl work x ca=true) (hn:SQ work x ca=n) (hl:SP work x ca=l) (n0:0<=n) (n1:n<=400000)
  (d0 : -1000000000000<=hd) (d1:hd<=1000000000000) (k0:0<=wk) (k1:wk<=100000000000) (v0:0<=work) (v1:work<=100000) (hs:Zx (st,be,rk,my,gu,lo,hi,hd,ca,ut,wk)=true) (hst:(st ==0)=false) (h2:Zx (st,be,rk,my,gu,lo,hi,(hd+n),l,ut,(wk+work))=false):Calls Tryz.prog 279 #[.agg (I11 st be rk my gu lo hi hd ca ut wk),.int .i64 work] w fun e w'=>e= .returned (.tuple #[.agg (I11 st be rk my gu lo hi hd ca ut wk),.bool false])/\Below w.heap.size w w':=by
 have Hs:=Z9 hs;have H2:=Z9 h2;have Hx:=Z9 hx;have Hok:=Z9 hok;have Hn:=Z9 hn;have Hl:=Z9 hl;have hw:inB work 0 100000=true:=Zn v0 v1;clear hx hok hn hl hs h2;go_enter Tryz.func279,Tryz.ntmps279;go_wp2_with fail;refine (Zm st be rk my gu lo hi hd ca ut wk _).mono ?_;rw [uh Hs];rintro e w1 ⟨rfl,hb⟩;have kb:Blk w1 w.heap.size 40 (I11 st be rk my gu lo hi hd ca ut wk):=((Blk.new w 40 (I11 st be rk my gu lo hi hd ca ut wk)).alloc _).below hb (by simp;omega)
 have ko:Blk w1 (w.heap.size+1) 40 E11:=by
  have k:=Blk.new (w.alloc (.cells (I11 st be rk my gu lo hi hd ca ut wk) 40)) 40 E11;rw [ZB] at k;exact k.below hb (by simp)
 have hsz:w.heap.size+2<=w1.heap.size:=by have:=hb.size;simp at this;omega
 have hl0:w.heap.size<w1.heap.size:=by omega
 have hl1:w.heap.size+1<w1.heap.size:=by omega
 have B1:=Z9 ((((Z1 w.heap.size w).alloc (Z2 _) _).alloc (by simp) _).trans (hb.mono (by simp;omega)));have Kb:=Z9 kb;have Ko:=Z9 ko;obtain ⟨c0,c1,c2,c3,c4,c5,c6,c7,c8,c9,c10⟩:=kb.c11;obtain ⟨o0,o1,o2,o3,o4,o5,o6,o7,o8,o9,o10⟩:=ko.c11;obtain ⟨of0,of1,of2,of3,of4,of5,of6,of7,of8,of9,of10⟩:=ko.f11;clear hb kb ko;go_wp2_with (go_at_call 59;refine (ZT _ _ _ _).mono ?_;rintro e w' ⟨rfl,h9⟩;subst w')
 go_quiet (first | exact Yg (YB (uh Hx) _) | exact Calls.quiet_of (PS (uh Hok) (uh Hn) (uh Hl) _));have kb:Blk (w1.drewN nq) w.heap.size 40 (I11 st be rk my gu lo hi hd ca ut wk):=uh Kb;have ko:Blk (w1.drewN nq) (w.heap.size+1) 40 E11:=uh Ko;have b1:=Yn (uh B1) nq;clear c0 o0 of0 c1 o1 of1 c2 o2 of2 c3 o3 of3 c4 o4 of4 c5 o5 of5 c6 o6 of6 c7 o7 of7 c8 o8 of8 c9 o9 of9 c10 o10 of10 Kb Ko B1 hl0 hl1;rw [show w1.heap.size=(w1.drewN nq).heap.size from rfl] at hsz;generalize w1.drewN nq=W1 at *;have hl0:w.heap.size<W1.heap.size:=by omega
 have hl1:w.heap.size+1<W1.heap.size:=by omega
 have Kb:=Z9 kb;have Ko:=Z9 ko;have B1:=Z9 b1;obtain ⟨c0,c1,c2,c3,c4,c5,c6,c7,c8,c9,c10⟩:=kb.c11;obtain ⟨o0,o1,o2,o3,o4,o5,o6,o7,o8,o9,o10⟩:=ko.c11;obtain ⟨of0,of1,of2,of3,of4,of5,of6,of7,of8,of9,of10⟩:=ko.f11;clear kb ko b1;go_wp2_with fail;refine (Zm st be rk my gu lo hi (hd+n) l ut (wk+work) _).mono ?_;rw [uh H2];rintro e w2 ⟨rfl,hb⟩;have kb:Blk w2 w.heap.size 40 (I11 st be rk my gu lo hi hd ca ut wk):=(hb.block w.heap.size (by simp;omega)).trans ((uh Kb).alloc (.cells (I11 st be rk my gu lo hi (hd+n) l ut (wk+work)) 40));have ko:Blk w2 (w.heap.size+1) 40 E11:=(hb.block (w.heap.size+1) (by simp;omega)).trans ((uh Ko).alloc (.cells (I11 st be rk my gu lo hi (hd+n) l ut (wk+work)) 40));have kn:Blk w2 W1.heap.size 40 (I11 st be rk my gu lo hi (hd+n) l ut (wk+work)):=(hb.block W1.heap.size (by simp)).trans (Blk.new W1 40 (I11 st be rk my gu lo hi (hd+n) l ut (wk+work)));have B2:Hid (Below w.heap.size w w2):=Z9 (((uh B1).alloc (by omega) (.cells (I11 st be rk my gu lo hi (hd+n) l ut (wk+work)) 40)).trans (hb.mono (by simp;omega)));clear c0 o0 of0 c1 o1 of1 c2 o2 of2 c3 o3 of3 c4 o4 of4 c5 o5 of5 c6 o6 of6 c7 o7 of7 c8 o8 of8 c9 o9 of9 c10 o10 of10 Kb Ko;obtain ⟨p0,p1,p2,p3,p4,p5,p6,p7,p8,p9,p10⟩:=kb.c11;obtain ⟨o0,o1,o2,o3,o4,o5,o6,o7,o8,o9,o10⟩:=ko.c11;obtain ⟨of0,of1,of2,of3,of4,of5,of6,of7,of8,of9,of10⟩:=ko.f11;clear hb kb ko kn;go_wp2_with fail;refine ZS (v:= .tuple #[.agg (I11 st be rk my gu lo hi hd ca ut wk),.bool false]) (by simp [results,Tryz.results279,go_sem,o0,o1,o2,o3,o4,o5,o6,o7,o8,o9,o10]) rfl ⟨rfl,?_⟩
 iterate 11 (refine YS ?_ (by simp) _)
 exact uh B2
theorem SR {x:Z3} (h:Zh x=true):Zx x=true:=by unfold Zx;rw [h,Bool.or_true]
theorem MD {x:Z3} (h:x.1 ≠ 0):Zx x=Zh x:=by unfold Zx;rw [Rn h,Bool.false_or]
theorem Lq {x:Z3} (work:Int) (hg:Wt x=true):WR x work=(Vf,false):=by
 have e:=Wa hg;subst e;rfl
theorem Nh {x:Z3} (work:Int) (hg:Wt x=false) (hp:Zh x=false):WR x work=(Vf,false):=by unfold WR;rw [hp,hg];rfl
theorem I1 {x:Z3} {work:Int} (hp:Zh x=true) (hw:inB work 0 100000=false):WR x work=(x,false):=by unfold WR;rw [hp,hw];rfl
theorem Pn {x:Z3} {work:Int} {q:Bool} (hp:Zh x=true) (hw:inB work 0 100000=true) (hq:Zh (Mq x work)=q):WR x work=(if q then Mq x work else x,q):=by unfold WR;rw [hp,hw,hq];cases q<;>rfl
theorem Fc {st:Int} (h:1<=st):(st ==0)=false:=by simp;omega
theorem K8 {x y:Z3} {work:Int} {q:Bool} (h:WR x work=(y,q)) (w:World):Calls Tryz.prog 279 #[.agg (ZU x).toArray,.int .i64 work] w fun e w'=>e= .returned (.tuple #[.agg (ZU y).toArray,.bool q])/\Below w.heap.size w w':=by
 obtain ⟨st,be,rk,my,gu,lo,hi,hd,ca,ut,wk⟩:=x;cases hg:Wt (st,be,rk,my,gu,lo,hi,hd,ca,ut,wk)
 ·cases hp:Zh (st,be,rk,my,gu,lo,hi,hd,ca,ut,wk)
  ·rw [Nh work hg hp] at h
   obtain ⟨rfl,rfl⟩:=Prod.mk.inj h;exact Io work w (by unfold Zx;rw [hg,hp];rfl)
  ·cases hw:inB work 0 100000
   ·rw [I1 hp hw] at h
    obtain ⟨rfl,rfl⟩:=Prod.mk.inj h;exact A4 work w (SR hp) (Fc (Zi hp).1.1) hw
   ·obtain ⟨v0,v1⟩:=ZO hw
    obtain ⟨⟨s0,s1⟩,_,hr,_,_,_,⟨d0,d1⟩,⟨a0,a1⟩,_,⟨k0,k1⟩⟩:=Zi hp;have hr0:=WB hr;have hr1:=(Vw rk).2;have a2:ca<=3125:=by omega
    obtain ⟨hok,n0,n1,_,_,_⟩:=AZ v0 v1 hr0 hr1 a0 a1;cases hq:Zh (Mq (st,be,rk,my,gu,lo,hi,hd,ca,ut,wk) work)
    ·rw [Pn hp hw hq] at h
     obtain ⟨rfl,rfl⟩:=Prod.mk.inj h;exact Fa rfl hok rfl rfl n0 n1 d0 d1 k0 k1 v0 v1 (SR hp) (Fc s0) ((MD (x:=Mq (st,be,rk,my,gu,lo,hi,hd,ca,ut,wk) work) (show st ≠ 0 by omega)).trans hq)
    ·rw [Pn hp hw hq] at h
     obtain ⟨rfl,rfl⟩:=Prod.mk.inj h;exact Cz rfl hok rfl rfl n0 n1 d0 d1 k0 k1 v0 v1 (SR hp) (Fc s0) ((MD (x:=Mq (st,be,rk,my,gu,lo,hi,hd,ca,ut,wk) work) (show st ≠ 0 by omega)).trans hq)
 ·rw [Lq work hg] at h
  obtain ⟨rfl,rfl⟩:=Prod.mk.inj h;cases Wa hg;exact E8 work w
open Go.ChangeShapes Go.WideShapes Go.ChangeAt Go.RowKit Go.Sort
theorem FullSmy.onNow {n₀:Nat} {w:World} {v0 v1 v2 v3 v4:Value} {m:Z6} {qs:List (ZZ × Value)} (h:FullSmy n₀ w v0 v1 v2 v3 v4 m qs) (n:Int):FullSmy n₀ w v0 v1 v2 v3 v4 (Sg m n m.sm) qs:=
 ⟨h.hall,h.rm,h.gd,h.sm,h.dk,h.pc,h.h1,h.h2,h.h3,h.h4,h.a12,h.a13,h.a14,h.a23,h.a24,h.a34⟩
theorem Cw {α:Type} [Inhabited α] {xs:List α} {k:Nat} (hk:k<xs.length):xs.set k (Z8 xs k)=xs:=by
 unfold Z8;rw [List.getD,List.getElem?_eq_getElem hk];exact List.set_getElem_self hk
theorem RU {m:Z6} {n:Int} {k:Nat} {ss:List Z3} {t:Z3} (h:Xw m n k=some ss) (ht:PU m n (Z8 m.sm k)=some t):Xw m n (k+1)=some (ss.set k t):=by
 unfold Xw;rw [h];simp only;rw [ht]
theorem Iu {m:Z6} {n:Int} {k:Nat} {ss:List Z3} (h:Xw m n k=some ss) (ht:PU m n (Z8 m.sm k)=none) (hk:k<m.sm.length):Xw m n m.sm.length=none:=by
 have h1:Xw m n (k+1)=none:=by unfold Xw;rw [h];simp only;rw [ht]
 have:=Oh (m.sm.length-(k+1)) h1
 rwa [show k+1+(m.sm.length-(k+1))=m.sm.length by omega] at this
theorem Ae {m:Z6} (h:Loose m) {r:Nat} (hr:r<m.rm.length):∃ p:Nat,Z8 m.pc r=(p:Int)/\p<(ZR m.rm r).2.length/\1<=(Z7 (ZR m.rm r).2 p).1/\(Z7 (ZR m.rm r).2 p).1<=1024:=by
 have hd:=h.head;unfold YD at hd;simp only [ZM,YW] at hd;have hpl:=hd.2.2.2.2.1;have hp:=h.pace r (by omega);unfold V4 at hp;obtain ⟨p0,p1⟩:=ZO hp;obtain ⟨_,_,r3,_⟩:=Zo hd.1;have hmem:ZR m.rm r ∈ m.rm:=by unfold ZR;simp [List.getD,hr]
 have hrb:=List.all_eq_true.1 r3 _ hmem;unfold Ze at hrb;simp only [ZM] at hrb;refine ⟨(Z8 m.pc r).toNat,by omega,by omega,?_⟩;have hst:=J6 hrb.2.2 (j:=(Z8 m.pc r).toNat) (by omega);unfold Wz TQ at hst;simp only [ZM] at hst;exact ZO hst.1.1
theorem Two.of_setW {p q:Option Nat} {g:Nat} (hg:p=some g\/q=some g):∀ (cs:List Value) (w:World) (o:Nat),Two p q w (QG w g o cs)
 | [],w,o=>Two.refl _ _ _
 | c::cs,w,o=>(Two.of_set w hg o c).trans (Two.of_setW hg cs _ (o+1))
theorem MP {w:World} {v0 v1 v2 v3 v4:Value} {m:Z6} (n:Int) (h:Smy w v0 v1 v2 v3 v4 m) :
  Calls Tryz.prog 254 #[.agg #[v0,v1,v2,v3,v4,.int .i64 m.now],.int .i64 n] w fun e w'=>TX w.heap.size (Sf m n).1 (Sf m n).2 e w'/\Below w.heap.size w w':=by
 obtain ⟨X,hX⟩:∃ x,Sf m n=x:=⟨_,rfl⟩
 rw [hX];have HX:=Z9 hX;clear hX;have Hv0:=Z9 h;obtain ⟨a0,p0,a1,p1,a2,p2,a3,p3,a4,p4,rfl,rfl,rfl,rfl,rfl,_,_,_,_,_,_,_,_,_,_⟩:=h.five;clear h;obtain ⟨ok,hok⟩:∃ q,ZI m=q:=⟨_,rfl⟩
 have Hok:=Z9 hok;clear hok;go_enter Tryz.func254,Tryz.ntmps254;go_wp2_with fail;obtain ⟨W,hW,kb,kr,BB⟩:=YG w 32 (S6 a0 p0 a1 p1 a2 p2 a3 p3 a4 p4 m) 32 E6;have Hv:=Z9 ((uh Hv0).below (uh BB));rw [hW];clear hW;refine ck (XN (uh Hok) (uh Hv)) fun w1 hb=> ?_;replace kb:=bl kb hb;replace kr:=bl kr hb;replace Hv:=Z9 ((uh Hv).below hb);replace BB:=bt BB hb;clear hb;cases ok
 ·
  obtain ⟨c0,c1,c2,c3,c4,c5⟩:=(uh kb).c6;go_wp2_with fail;clear c0 c1 c2 c3 c4 c5;refine ck (XY (uh Hv)) fun w2 hb=> ?_;replace kb:=bl kb hb;replace kr:=bl kr hb;replace Hv:=Z9 ((uh Hv).below hb);replace BB:=bt BB hb;clear hb;obtain ⟨o0,o1,o2,o3,o4,o5⟩:=(uh kr).c6;obtain ⟨f0,f1,f2,f3,f4,f5⟩:=(uh kr).f6;go_wp2_with fail;have hX0:X=(Yj,3):=by rw [<-uh HX];unfold Sf;rw [uh Hok];rfl
  exact ZS (v:= .tuple #[.agg E6,.int .i64 3]) (by simp [results,Tryz.results254,go_sem, *]) rfl (Zb hX0 rfl (Yr _ _) (uh BB))
 have hlo:=ZK (uh Hok);have HLo:=Z9 hlo;have HFew:=Z9 (WK hlo);clear hlo;obtain ⟨c0,c1,c2,c3,c4,c5⟩:=(uh kb).c6;go_wp2_with fail;clear c0 c1 c2 c3 c4 c5;refine (T6 (uh Hv) (uh HFew) (uh kb) (uh kr) (uh BB)).mono ?_;clear kb kr Hv BB;rintro e w2 ⟨b0,q0,b1,q1,b2,q2,b3,q3,b4,q4,oq,rfl,W2,ob,hW2,hob2,kb,kr,Hv,HO,ko,LO,hob,BB⟩;go_upto_region 4 with fail
 (try rw [hW2])
 (try rw [hob2])
 clear hW2 hob2;obtain ⟨pb,hpb⟩:∃ q,inB n 1 20=q:=⟨_,rfl⟩
 have Hpb:=Z9 hpb;clear hpb;go_wp2_with fail;refine (ZT _ _ _ _).mono ?_;rw [uh Hpb];rintro e w9 ⟨rfl,hw9⟩;subst w9;cases pb
 ·
  obtain ⟨x0,x1,x2,x3,x4,x5⟩:=(uh ko).c6;obtain ⟨o0,o1,o2,o3,o4,o5⟩:=(uh kr).c6;obtain ⟨f0,f1,f2,f3,f4,f5⟩:=(uh kr).f6;go_wp2_with fail;have hX0:X=(m,3):=by rw [<-uh HX];unfold Sf;rw [uh Hok];simp only [if_true];rw [uh Hpb];rfl
  exact ZS (v:= .tuple #[.agg (S6 b0 q0 b1 q1 b2 q2 b3 q3 b4 q4 m),.int .i64 3]) (by simp [results,Tryz.results254,go_sem, *]) rfl (Zb hX0 rfl (uh HO) (uh BB))
 obtain ⟨c0,c1,c2,c3,c4,c5⟩:=(uh kb).c6;go_wp2_with fail;clear c0 c1 c2 c3 c4 c5;have hobw:=(uh ko).lt;refine (XT (uh Hv) (uh HFew)).mono ?_;rintro e w3 ⟨y0,y1,y2,y3,y4,xq,rfl,ho,hb⟩;have k9:=ho.smy;obtain ⟨xa0,xp0,xa1,xp1,xa2,xp2,xa3,xp3,xa4,xp4,rfl,rfl,rfl,rfl,rfl,_,_,_,_,_,_,_,_,_,_⟩:=k9.five;clear k9;replace kb:=bl kb hb;replace kr:=bl kr hb;replace Hv:=Z9 ((uh Hv).below hb);replace HO:=Z9 ((uh HO).below hb);replace ko:=bl ko hb;replace BB:=bt BB hb;have hszx:=hb.size;have HY:=Z9 (ho.mono (n₁:=w.heap.size+2) (by omega));have LX:Hid (∀ k,Wg (.slice xa0 m.rm.length xp0) (.slice xa1 m.gd.length xp1) (.slice xa2 m.sm.length xp2) (.slice xa3 m.dk.length xp3) (.slice xa4 m.pc.length xp4) xq k->ob+1<=k/\k<w3.heap.size):=Z9 (fun k e=>by have:=ho.own e;omega);have hxb:ob+1<=w3.heap.size:=by omega
 clear ho hb hobw hszx;go_upto_region 7 with fail;obtain ⟨W3,hW3,hba,kx⟩:=YF w3 32 (S6 xa0 xp0 xa1 xp1 xa2 xp2 xa3 xp3 xa4 xp4 m);replace kb:=bl kb hba;replace kr:=bl kr hba;replace Hv:=Z9 ((uh Hv).below hba);replace HO:=Z9 ((uh HO).below hba);replace ko:=bl ko hba;replace HY:=Z9 ((uh HY).below hba);replace BB:=bt BB hba;clear hba;rw [hW3];clear hW3;generalize w3.heap.size=xb at *;obtain ⟨hn1,hn20⟩:=ZO (uh Hpb)
 have hnow:0<=m.now/\m.now<=1000000:=by
  have hd:=(uh HLo).head;unfold YD at hd;simp only [ZM,YW] at hd;exact ZO hd.2.2.2.2.2
 obtain ⟨hnow0,hnow1⟩:=hnow;have c5:=(uh kb).cell (i:=5) (v:= .int .i64 m.now) rfl;have x5:=(uh kx).cell (i:=5) (v:= .int .i64 m.now) rfl;have f5:=(uh kx).free 5;go_upto_region 8 with fail;clear c5 x5 f5;replace kx:Hid (Blk (W3.setCell ⟨xb,5,none⟩ (.int .i64 (m.now+n))) xb 32 #[.slice xa0 m.rm.length xp0,.slice xa1 m.gd.length xp1,.slice xa2 m.sm.length xp2,.slice xa3 m.dk.length xp3,.slice xa4 m.pc.length xp4,.int .i64 (m.now+n)]):=Z9 ((uh kx).set 5 _);replace kb:Hid (Blk (W3.setCell ⟨xb,5,none⟩ (.int .i64 (m.now+n))) w.heap.size 32 (S6 a0 p0 a1 p1 a2 p2 a3 p3 a4 p4 m)):=Z9 ((uh kb).other (a:=⟨xb,5,none⟩) (by show w.heap.size ≠ xb;omega) (.int .i64 (m.now+n)));replace ko:Hid (Blk (W3.setCell ⟨xb,5,none⟩ (.int .i64 (m.now+n))) ob 32 (S6 b0 q0 b1 q1 b2 q2 b3 q3 b4 q4 m)):=Z9 ((uh ko).other (a:=⟨xb,5,none⟩) (by show ob ≠ xb;omega) (.int .i64 (m.now+n)));replace kr:Hid (Blk (W3.setCell ⟨xb,5,none⟩ (.int .i64 (m.now+n))) (w.heap.size+1) 32 E6):=Z9 ((uh kr).other (a:=⟨xb,5,none⟩) (by show (w.heap.size+1) ≠ xb;omega) (.int .i64 (m.now+n)));replace HO:Hid (FullSmy (w.heap.size+2) (W3.setCell ⟨xb,5,none⟩ (.int .i64 (m.now+n))) (.slice b0 m.rm.length q0) (.slice b1 m.gd.length q1) (.slice b2 m.sm.length q2) (.slice b3 m.dk.length q3) (.slice b4 m.pc.length q4) m oq):=Z9 ((uh HO).set_off (fun k e=>by have:=(uh LO k e).2;omega) _ _);have HT:Hid (FullSmy (w.heap.size+2) (W3.setCell ⟨xb,5,none⟩ (.int .i64 (m.now+n))) (.slice xa0 m.rm.length xp0) (.slice xa1 m.gd.length xp1) (.slice xa2 m.sm.length xp2) (.slice xa3 m.dk.length xp3) (.slice xa4 m.pc.length xp4) (Sg m n m.sm) xq):=Z9 (((uh HY).set_off (fun k e=>by have:=(uh LX k e).2;omega) _ _).onNow n);replace BB:Hid (Below w.heap.size w (W3.setCell ⟨xb,5,none⟩ (.int .i64 (m.now+n)))):=Z9 ((uh BB).setCell (p:=⟨xb,5,none⟩) (by show w.heap.size<=xb;omega) _);clear HY Hv;generalize W3.setCell ⟨xb,5,none⟩ (.int .i64 (m.now+n))=W4 at *;go_wp2_with fail
 go_loopw [8] (fun i wr=> ∃ (k:Nat) (ss:List Z3),k<=m.sm.length/\i= .int .i64 k/\Xw m n k=some ss/\FullSmy (w.heap.size+2) wr (.slice xa0 m.rm.length xp0) (.slice xa1 m.gd.length xp1) (.slice xa2 m.sm.length xp2) (.slice xa3 m.dk.length xp3) (.slice xa4 m.pc.length xp4) (Sg m n ss) xq/\Two (Value.slice xa2 m.sm.length xp2).ownBlock none W4 wr) (fun i _=>m.sm.length-(intOf i).toNat)
 case atStart=>exact ⟨0,m.sm,ZA _,rfl,rfl,uh HT,Two.refl _ _ _⟩
 case round=>
  obtain ⟨k,ss,hk,rfl,htk,hf1,htw⟩:=hrel;obtain ⟨hsl,hsame⟩:=Oi htk;have Htk:=Z9 htk;have HF1:=Z9 hf1;have Tw:=Z9 htw;have hPx:∀ b,(Value.slice xa2 m.sm.length xp2).ownBlock=some b->ob+1<=b/\b<xb:=fun b e=>uh LX b (.inr (.inr (.inr (.inl e))));have hPn:∀ R,(R<=ob\/xb<=R)->(Value.slice xa2 m.sm.length xp2).ownBlock ≠ some R:=fun R h e=>by have:=hPx R e;omega
  have hN:∀ R:Nat,(none:Option Nat) ≠ some R:=fun R e=>by cases e
  replace kb:=Z9 ((uh kb).two htw (hPn _ (.inl (by omega))) (hN _));replace ko:=Z9 ((uh ko).two htw (hPn _ (.inl (by omega))) (hN _));replace kr:=Z9 ((uh kr).two htw (hPn _ (.inl (by omega))) (hN _));replace kx:=Z9 ((uh kx).two htw (hPn _ (.inr (Z2 _))) (hN _));replace HO:=Z9 ((uh HO).keep (fun k e0=>htw.block k ((uh HO).own e0).2 (fun e=>by have:=hPx k e;have:=(uh LO k e0).2;omega) (fun e=>by cases e)));replace BB:=Z9 ((uh BB).trans (htw.below (uh BB).size (fun b e=>by have:=hPx b e;omega) (fun b e=>by cases e)));have Hv:=Z9 ((uh Hv0).below (uh BB));have hobr:ob<wr.heap.size:=(uh ko).lt;have hxbr:xb<wr.heap.size:=(uh kx).lt;clear htk hf1 htw HT hPx hPn hN;have x2:=(uh kx).cell (i:=2) (v:= .slice xa2 m.sm.length xp2) rfl;by_cases hlt:k<m.sm.length
  ·
   have hlt1:(k:Int)<(m.sm.length:Int):=by omega
   obtain ⟨g2,hga,_,hg2w,hc2,_⟩:=RecAt.view ZX (by omega) (uh HF1).sm hsl.symm (by show 0<ss.length;omega);cases hga;have hg2o:=uh LX g2 (.inr (.inr (.inr (.inl rfl))));have hsk:=hsame k (Z2 _);obtain ⟨⟨st,be,rk,my,gu,lo,hi,hd,ca,ut,wk⟩,hrk⟩:∃ d,Z8 m.sm k=d:=⟨_,rfl⟩
   have hrs:Z8 (Sg m n ss).sm k=(st,be,rk,my,gu,lo,hi,hd,ca,ut,wk):=hsk.trans hrk;have Hrk:=Z9 hrk;obtain ⟨s0,s1,s2,s3,s4,s5,s6,s7,s8,s9,s10⟩:=ET (hc2 k (by show k<ss.length;omega));rw [hrs] at s0 s1 s2 s3 s4 s5 s6 s7 s8 s9 s10;simp only [Nat.add_zero] at s0 s1 s2 s3 s4 s5 s6 s7 s8 s9 s10;clear hc2 hsame hrs hrk;have Hss:Hid (Z8 ss k=(st,be,rk,my,gu,lo,hi,hd,ca,ut,wk)):=Z9 (hsk.trans (uh Hrk));clear hsk
   have HG:Hid (st ≠ 0->Zh (st,be,rk,my,gu,lo,hi,hd,ca,ut,wk)=true/\be<m.dk.length/\0<=be):=Z9 (fun h0=>by
    obtain ⟨p,_,hb⟩:=(uh HLo).limits hlt (by rw [uh Hrk];exact h0);rw [uh Hrk] at p hb
    exact ⟨p,hb,(Zi p).2.1.1⟩)
   go_upto_region 12 with fail;clear x2 s0 s1 s2 s3 s4 s5 s6 s7 s8 s9 s10;obtain ⟨Y,hY,BR,ks⟩:=GP wr 40 (I11 st be rk my gu lo hi hd ca ut wk);rw [hY];clear hY;have e0:=(uh ks).cell (i:=0) (v:= .int .i64 st) rfl;by_cases hst0:st=0
   ·
    subst hst0;have hts:PU m n (Z8 m.sm k)=some (Z8 ss k):=by rw [uh Hss,uh Hrk];unfold PU;rw [if_pos rfl]
    have hnx:Xw m n (k+1)=some ss:=by rw [RU (uh Htk) hts,Cw (by omega)]
    have Hnx:=Z9 hnx;clear hts hnx;go_wp2_with fail;go_roundw
    case rel=>exact ⟨k+1,ss,by omega,by go_num,uh Hnx,(uh HF1).below (uh BR),(uh Tw).trans (Two.of_below (uh BR))⟩
    case measure=>exact ms
   have h00:(st ==0)=false:=by simp [hst0]
   have h01:decide (st=0)=false:=by simp [hst0]
   obtain ⟨hpb2,hbl,hb0⟩:=uh HG hst0;obtain ⟨⟨hst1,hst3'⟩,_⟩:=Zi hpb2;have Hp2:=Z9 hpb2;clear hpb2 HG;by_cases hst3:st=3;rotate_left
   ·
    have h30:(st ==3)=false:=by simp [hst3]
    have h31:decide (st=3)=false:=by simp [hst3]
    go_upto_region 21 with fail;clear e0;have e9:=(uh ks).cell (i:=9) (v:= .int .i64 ut) rfl;have f9:=(uh ks).free 9;go_wp2_with fail;refine ck (TV ut 0 n _) fun wf hwf=> ?_;subst wf;go_upto_region 22 with fail;clear e9 f9;replace ks:Hid (Blk (Y.setCell ⟨wr.heap.size,9,none⟩ (.int .i64 (ZE ut 0 n))) wr.heap.size 40 (I11 st be rk my gu lo hi hd ca (ZE ut 0 n) wk)):=Z9 ((uh ks).set 9 _);replace BR:Hid (Below wr.heap.size wr (Y.setCell ⟨wr.heap.size,9,none⟩ (.int .i64 (ZE ut 0 n)))):=Z9 ((uh BR).setCell (p:=⟨wr.heap.size,9,none⟩) (Z2 _) _);generalize Y.setCell ⟨wr.heap.size,9,none⟩ (.int .i64 (ZE ut 0 n))=Y9 at *;obtain ⟨z0,z1,z2,z3,z4,z5,z6,z7,z8,z9,z10⟩:=(uh ks).c11;have HF9:=Z9 ((uh HF1).below (uh BR));have kx9:=(uh kx).below (uh BR) (uh kx).lt;have x2:=kx9.cell (i:=2) (v:= .slice (some ⟨g2,0,none⟩) m.sm.length xp2) rfl;obtain ⟨_,hga,_,_,hc2,hz2⟩:=RecAt.view ZX (by omega) (uh HF9).sm hsl.symm (by show 0<ss.length;omega);cases hga;obtain ⟨s0,s1,s2,s3,s4,s5,s6,s7,s8,s9,s10⟩:=ET (hc2 k (by show k<ss.length;omega));obtain ⟨fz0,fz1,fz2,fz3,fz4,fz5,fz6,fz7,fz8,fz9,fz10⟩:=BL hz2 (k*11);simp only [Nat.add_zero] at s0 fz0;have hput:=(uh HF9).putW hsl.symm (j:=k) (by show k<ss.length;omega) (st,be,rk,my,gu,lo,hi,hd,ca,(ZE ut 0 n),wk);rw [show ZU (st,be,rk,my,gu,lo,hi,hd,ca,(ZE ut 0 n),wk)=[.int .i64 st,.int .i64 be,.int .i64 rk,.int .i64 my,.int .i64 gu,.int .i64 lo,.int .i64 hi,.int .i64 hd,.int .i64 ca,.int .i64 (ZE ut 0 n),.int .i64 wk] from rfl,MB] at hput;have HP:=Z9 hput;have Hnx:Hid (Xw m n (k+1)=some (ss.set k (st,be,rk,my,gu,lo,hi,hd,ca,(ZE ut 0 n),wk))):=Z9 (RU (uh Htk) (by rw [uh Hrk];unfold PU;rw [if_neg hst0,if_neg hst3];rfl));have htw9:=Two.of_setW (p:=some g2) (q:=none) (g:=g2) (.inl rfl) (ZU (st,be,rk,my,gu,lo,hi,hd,ca,(ZE ut 0 n),wk)) Y9 (k*11);rw [show ZU (st,be,rk,my,gu,lo,hi,hd,ca,(ZE ut 0 n),wk)=[.int .i64 st,.int .i64 be,.int .i64 rk,.int .i64 my,.int .i64 gu,.int .i64 lo,.int .i64 hi,.int .i64 hd,.int .i64 ca,.int .i64 (ZE ut 0 n),.int .i64 wk] from rfl,MB] at htw9;have TW9:=Z9 (((uh Tw).trans (Two.of_below (uh BR))).trans htw9);clear htw9;clear hput hc2 hz2 kx9;go_wp2_with fail;go_roundw
    case rel=>exact ⟨k+1,_,by omega,by go_num,uh Hnx,uh HP,uh TW9⟩
    case measure=>exact ms
   subst hst3;obtain ⟨bn,rfl⟩:∃ bn:Nat,be=(bn:Int):=⟨be.toNat,by omega⟩
   have hbn:Yt m.rm (bn:Int)=true:=(uh HLo).sane.bench (by omega);have hrl:=Qj hbn;have Hbn:=Z9 hbn;obtain ⟨fo,hfo⟩:∃ q,S9 m (bn:Int)=q:=⟨_,rfl⟩
   have Hfo:=Z9 hfo;obtain ⟨pp,hpp,hppl,hf1',hf2'⟩:=Ae (uh HLo) hrl;have hfo2:(Z7 (ZR m.rm (Xo m.rm (bn:Int))).2 pp).1=fo:=by rw [<-hfo];unfold S9;rw [hpp];simp
   rw [hfo2] at hf1' hf2';obtain ⟨r,hr⟩:∃ r,Xo m.rm (bn:Int)=r:=⟨_,rfl⟩
   rw [hr] at hrl hpp hppl hfo2;have Hr:=Z9 hr;have Hpp:=Z9 hpp;have Hfo2:=Z9 hfo2;clear hbn hfo hpp hfo2 hr;have kbY:=(uh kb).below (uh BR) (uh kb).lt;have c0:=kbY.cell (i:=0) (v:= .slice a0 m.rm.length p0) rfl;have e1:=(uh ks).cell (i:=1) (v:= .int .i64 (bn:Int)) rfl;clear kbY;go_wp2_with fail;refine (Qc (bn:Int) ((uh Hv).below (uh BR)).rm (uh Hbn)).mono ?_;rw [uh Hr];rintro e w5 ⟨rfl,hb⟩;replace ks:=bl ks hb;replace BR:=Z9 ((uh BR).trans (hb.mono (uh BR).size));clear hb e0 e1 c0;obtain ⟨_,_,hre,_,_,r0⟩:=((uh Hv).below (uh BR)).rm;cases hre
   rcases r0 with e0 | ⟨rb,off,rfl,hbw,hcl⟩
   ·rw [e0] at hrl;simp at hrl
   obtain ⟨_,pv,d1,hpv⟩:=hcl r hrl;obtain ⟨pa,pc,rfl,_,_,hpr⟩:=hpv
   rcases hpr with e0 | ⟨pbk,po,rfl,hpw,hpc⟩
   ·rw [e0] at hppl;simp at hppl
   obtain ⟨d2,_⟩:=hpc pp hppl;rw [uh Hfo2] at d2;obtain ⟨_,_,hpe,_,_,r4⟩:=((uh Hv).below (uh BR)).pc;cases hpe
   rcases r4 with e0 | ⟨nb,no,rfl,hnw,hnc⟩
   ·exfalso
    have h9:=VX (uh HLo);have h8:m.pc.length=0:=by rw [e0];rfl
    omega
   have d3:=hnc r (by rw [VX (uh HLo)];exact hrl) 0 _ rfl;simp only [Nat.mul_one,Nat.add_zero] at d3;rw [uh Hpp] at d3;obtain ⟨pl,hpl⟩:∃ q,(ZR m.rm r).2.length=q:=⟨_,rfl⟩
   rw [hpl] at d1 hppl;have hr1:(r:Int)<(m.rm.length:Int):=by omega
   have hr2:(r:Int)<(m.pc.length:Int):=by rw [VX (uh HLo)];omega
   have hp1:(pp:Int)<(pl:Int):=by omega
   have kbY:=(uh kb).below (uh BR) (uh kb).lt;have c0:=kbY.cell (i:=0) (v:= .slice (some ⟨rb,off,none⟩) m.rm.length p0) rfl;have c4:=kbY.cell (i:=4) (v:= .slice (some ⟨nb,no,none⟩) m.pc.length p4) rfl;clear hcl hpc hnc kbY hpl;go_wp2_with fail;refine ZP (S:=fun w'=>w'.cell? ⟨w.heap.size,0,none⟩=some (.slice (some ⟨rb,off,none⟩) m.rm.length p0)/\w'.cell? ⟨w.heap.size,4,none⟩=some (.slice (some ⟨nb,no,none⟩) m.pc.length p4)/\w'.cell? ⟨rb,off+r*2+1,none⟩=some (.slice (some ⟨pbk,po,none⟩) pl pc)/\w'.cell? ⟨nb,no+r,none⟩=some (.int .i64 (pp:Int))/\w'.cell? ⟨pbk,po+pp*2,none⟩=some (.int .i64 fo)) (by kernel_rfl) (Xs _ _) (by kernel_rfl) ⟨c0,c4,d1,d3,d2⟩ (fun hHeld=> ?_);simp only [Xt,Xu,YT,YM,Nat.zero_add,Nat.reduceAdd]
   iterate 15 refine tz ?_
   refine wpAnyH_done (by kernel_rfl) ?_ _;refine ZF rfl rfl ?_;go_simp;clear hHeld c0 c4 d1 d2 d3;replace ks:=Z9 ((uh ks).below (Z1 _ _).drew (uh ks).lt);replace BR:=Z9 (uh BR).drew;generalize w5.drew=Y5 at *;obtain ⟨⟨⟨t0,t1,t2,t3,t4,t5,t6,t7,t8,t9,t10⟩,iq⟩,hch⟩:∃ q,WR (3,(bn:Int),rk,my,gu,lo,hi,hd,ca,ut,wk) (n*fo)=q:=⟨_,rfl⟩
   have Hch:=Z9 hch;clear hch;have hnf0:0<=n*fo:=Int.mul_nonneg (by omega) (by omega)
   have hnf1:n*fo<=20480:=by
    have h1:n*fo<=20*fo:=Int.mul_le_mul_of_nonneg_right hn20 (by omega);have h2:20*fo<=20480:=by omega
    omega
   obtain ⟨z0,z1,z2,z3,z4,z5,z6,z7,z8,z9,z10⟩:=(uh ks).c11;go_wp2_with fail;clear z0 z1 z2 z3 z4 z5 z6 z7 z8 z9 z10;refine ck (K8 (uh Hch) _) fun w6 hb=> ?_;replace ks:=bl ks hb;replace BR:=Z9 ((uh BR).trans (hb.mono (uh BR).size));clear hb;simp only [ZU];go_upto_region 18 with fail;obtain ⟨Y6,hY6,hb,kt⟩:=YF w6 40 (I11 t0 t1 t2 t3 t4 t5 t6 t7 t8 t9 t10);have hks6:=(uh ks).lt;replace ks:=bl ks hb;replace BR:=Z9 ((uh BR).trans (hb.mono (uh BR).size));clear hb;rw [hY6];clear hY6;generalize w6.heap.size=tb at *;cases iq
   ·
    have hno:Xw m n m.sm.length=none:=Iu (uh Htk) (by rw [uh Hrk];unfold PU;rw [if_neg (by show ¬ (3:Int)=0;omega),if_pos rfl];simp only;rw [uh Hfo,uh Hch];rfl) hlt;have Hno:=Z9 hno;clear hno;replace ko:=Z9 ((uh ko).below (uh BR) (uh ko).lt);replace kr:=Z9 ((uh kr).below (uh BR) (uh kr).lt);replace HO:=Z9 ((uh HO).below (uh BR));replace BB:=Z9 ((uh BB).trans ((uh BR).mono (uh BB).size));obtain ⟨x0,x1,x2,x3,x4,x5⟩:=(uh ko).c6;obtain ⟨o0,o1,o2,o3,o4,o5⟩:=(uh kr).c6;obtain ⟨f0,f1,f2,f3,f4,f5⟩:=(uh kr).f6;go_wp2_with fail;have hX0:X=(m,4):=by rw [<-uh HX];unfold Sf;rw [uh Hok];simp only [if_true];rw [uh Hpb];simp only [if_true];rw [uh Hno]
    exact ZS (v:= .tuple #[.agg (S6 b0 q0 b1 q1 b2 q2 b3 q3 b4 q4 m),.int .i64 4]) (by simp [results,Tryz.results254,go_sem, *]) rfl (Zb hX0 rfl (uh HO) (uh BB))
   have z0:=(uh kt).cell (i:=0) (v:= .int .i64 t0) rfl;have y0:=(uh ks).cell (i:=0) (v:= .int .i64 3) rfl;have f0:=(uh ks).free 0;have z1:=(uh kt).cell (i:=1) (v:= .int .i64 t1) rfl;have y1:=(uh ks).cell (i:=1) (v:= .int .i64 (bn:Int)) rfl;have f1:=(uh ks).free 1;have z2:=(uh kt).cell (i:=2) (v:= .int .i64 t2) rfl;have y2:=(uh ks).cell (i:=2) (v:= .int .i64 rk) rfl;have f2:=(uh ks).free 2;have z3:=(uh kt).cell (i:=3) (v:= .int .i64 t3) rfl;have y3:=(uh ks).cell (i:=3) (v:= .int .i64 my) rfl;have f3:=(uh ks).free 3;have z4:=(uh kt).cell (i:=4) (v:= .int .i64 t4) rfl;have y4:=(uh ks).cell (i:=4) (v:= .int .i64 gu) rfl;have f4:=(uh ks).free 4;have z5:=(uh kt).cell (i:=5) (v:= .int .i64 t5) rfl;have y5:=(uh ks).cell (i:=5) (v:= .int .i64 lo) rfl;have f5:=(uh ks).free 5;have z6:=(uh kt).cell (i:=6) (v:= .int .i64 t6) rfl;have y6:=(uh ks).cell (i:=6) (v:= .int .i64 hi) rfl;have f6:=(uh ks).free 6;have z7:=(uh kt).cell (i:=7) (v:= .int .i64 t7) rfl;have y7:=(uh ks).cell (i:=7) (v:= .int .i64 hd) rfl;have f7:=(uh ks).free 7;have z8:=(uh kt).cell (i:=8) (v:= .int .i64 t8) rfl;have y8:=(uh ks).cell (i:=8) (v:= .int .i64 ca) rfl;have f8:=(uh ks).free 8;have z9:=(uh kt).cell (i:=9) (v:= .int .i64 t9) rfl;have y9:=(uh ks).cell (i:=9) (v:= .int .i64 ut) rfl;have f9:=(uh ks).free 9;have z10:=(uh kt).cell (i:=10) (v:= .int .i64 t10) rfl;have y10:=(uh ks).cell (i:=10) (v:= .int .i64 wk) rfl;have f10:=(uh ks).free 10;go_upto_region 21 with fail;clear z0 y0 f0 z1 y1 f1 z2 y2 f2 z3 y3 f3 z4 y4 f4 z5 y5 f5 z6 y6 f6 z7 y7 f7 z8 y8 f8 z9 y9 f9 z10 y10 f10;have q0:Blk (Y6.setCell ⟨wr.heap.size,0,none⟩ (.int .i64 t0)) wr.heap.size 40 (I11 t0 (bn:Int) rk my gu lo hi hd ca ut wk):=(uh ks).set 0 _;have q1:Blk ((Y6.setCell ⟨wr.heap.size,0,none⟩ (.int .i64 t0)).setCell ⟨wr.heap.size,1,none⟩ (.int .i64 t1)) wr.heap.size 40 (I11 t0 t1 rk my gu lo hi hd ca ut wk):=q0.set 1 _;have q2:Blk (((Y6.setCell ⟨wr.heap.size,0,none⟩ (.int .i64 t0)).setCell ⟨wr.heap.size,1,none⟩ (.int .i64 t1)).setCell ⟨wr.heap.size,2,none⟩ (.int .i64 t2)) wr.heap.size 40 (I11 t0 t1 t2 my gu lo hi hd ca ut wk):=q1.set 2 _;have q3:Blk ((((Y6.setCell ⟨wr.heap.size,0,none⟩ (.int .i64 t0)).setCell ⟨wr.heap.size,1,none⟩ (.int .i64 t1)).setCell ⟨wr.heap.size,2,none⟩ (.int .i64 t2)).setCell ⟨wr.heap.size,3,none⟩ (.int .i64 t3)) wr.heap.size 40 (I11 t0 t1 t2 t3 gu lo hi hd ca ut wk):=q2.set 3 _;have q4:Blk (((((Y6.setCell ⟨wr.heap.size,0,none⟩ (.int .i64 t0)).setCell ⟨wr.heap.size,1,none⟩ (.int .i64 t1)).setCell ⟨wr.heap.size,2,none⟩ (.int .i64 t2)).setCell ⟨wr.heap.size,3,none⟩ (.int .i64 t3)).setCell ⟨wr.heap.size,4,none⟩ (.int .i64 t4)) wr.heap.size 40 (I11 t0 t1 t2 t3 t4 lo hi hd ca ut wk):=q3.set 4 _;have q5:Blk ((((((Y6.setCell ⟨wr.heap.size,0,none⟩ (.int .i64 t0)).setCell ⟨wr.heap.size,1,none⟩ (.int .i64 t1)).setCell ⟨wr.heap.size,2,none⟩ (.int .i64 t2)).setCell ⟨wr.heap.size,3,none⟩ (.int .i64 t3)).setCell ⟨wr.heap.size,4,none⟩ (.int .i64 t4)).setCell ⟨wr.heap.size,5,none⟩ (.int .i64 t5)) wr.heap.size 40 (I11 t0 t1 t2 t3 t4 t5 hi hd ca ut wk):=q4.set 5 _
   have q6:Blk (((((((Y6.setCell ⟨wr.heap.size,0,none⟩ (.int .i64 t0)).setCell ⟨wr.heap.size,1,none⟩ (.int .i64 t1)).setCell ⟨wr.heap.size,2,none⟩ (.int .i64 t2)).setCell ⟨wr.heap.size,3,none⟩ (.int .i64 t3)).setCell ⟨wr.heap.size,4,none⟩ (.int .i64 t4)).setCell ⟨wr.heap.size,5,none⟩ (.int .i64 t5)).setCell ⟨wr.heap.size,6,none⟩ (.int .i64 t6)) wr.heap.size 40 (I11 t0 t1 t2 t3 t4 t5 t6 hd ca ut wk):=q5.set 6 _;have q7:Blk ((((((((Y6.setCell ⟨wr.heap.size,0,none⟩ (.int .i64 t0)).setCell ⟨wr.heap.size,1,none⟩ (.int .i64 t1)).setCell ⟨wr.heap.size,2,none⟩ (.int .i64 t2)).setCell ⟨wr.heap.size,3,none⟩ (.int .i64 t3)).setCell ⟨wr.heap.size,4,none⟩ (.int .i64 t4)).setCell ⟨wr.heap.size,5,none⟩ (.int .i64 t5)).setCell ⟨wr.heap.size,6,none⟩ (.int .i64 t6)).setCell ⟨wr.heap.size,7,none⟩ (.int .i64 t7)) wr.heap.size 40 (I11 t0 t1 t2 t3 t4 t5 t6 t7 ca ut wk):=q6.set 7 _;have q8:Blk (((((((((Y6.setCell ⟨wr.heap.size,0,none⟩ (.int .i64 t0)).setCell ⟨wr.heap.size,1,none⟩ (.int .i64 t1)).setCell ⟨wr.heap.size,2,none⟩ (.int .i64 t2)).setCell ⟨wr.heap.size,3,none⟩ (.int .i64 t3)).setCell ⟨wr.heap.size,4,none⟩ (.int .i64 t4)).setCell ⟨wr.heap.size,5,none⟩ (.int .i64 t5)).setCell ⟨wr.heap.size,6,none⟩ (.int .i64 t6)).setCell ⟨wr.heap.size,7,none⟩ (.int .i64 t7)).setCell ⟨wr.heap.size,8,none⟩ (.int .i64 t8)) wr.heap.size 40 (I11 t0 t1 t2 t3 t4 t5 t6 t7 t8 ut wk):=q7.set 8 _;have q9:Blk ((((((((((Y6.setCell ⟨wr.heap.size,0,none⟩ (.int .i64 t0)).setCell ⟨wr.heap.size,1,none⟩ (.int .i64 t1)).setCell ⟨wr.heap.size,2,none⟩ (.int .i64 t2)).setCell ⟨wr.heap.size,3,none⟩ (.int .i64 t3)).setCell ⟨wr.heap.size,4,none⟩ (.int .i64 t4)).setCell ⟨wr.heap.size,5,none⟩ (.int .i64 t5)).setCell ⟨wr.heap.size,6,none⟩ (.int .i64 t6)).setCell ⟨wr.heap.size,7,none⟩ (.int .i64 t7)).setCell ⟨wr.heap.size,8,none⟩ (.int .i64 t8)).setCell ⟨wr.heap.size,9,none⟩ (.int .i64 t9)) wr.heap.size 40 (I11 t0 t1 t2 t3 t4 t5 t6 t7 t8 t9 wk):=q8.set 9 _;have q10:Blk (((((((((((Y6.setCell ⟨wr.heap.size,0,none⟩ (.int .i64 t0)).setCell ⟨wr.heap.size,1,none⟩ (.int .i64 t1)).setCell ⟨wr.heap.size,2,none⟩ (.int .i64 t2)).setCell ⟨wr.heap.size,3,none⟩ (.int .i64 t3)).setCell ⟨wr.heap.size,4,none⟩ (.int .i64 t4)).setCell ⟨wr.heap.size,5,none⟩ (.int .i64 t5)).setCell ⟨wr.heap.size,6,none⟩ (.int .i64 t6)).setCell ⟨wr.heap.size,7,none⟩ (.int .i64 t7)).setCell ⟨wr.heap.size,8,none⟩ (.int .i64 t8)).setCell ⟨wr.heap.size,9,none⟩ (.int .i64 t9)).setCell ⟨wr.heap.size,10,none⟩ (.int .i64 t10)) wr.heap.size 40 (I11 t0 t1 t2 t3 t4 t5 t6 t7 t8 t9 t10):=q9.set 10 _;replace ks:Hid (Blk (((((((((((Y6.setCell ⟨wr.heap.size,0,none⟩ (.int .i64 t0)).setCell ⟨wr.heap.size,1,none⟩ (.int .i64 t1)).setCell ⟨wr.heap.size,2,none⟩ (.int .i64 t2)).setCell ⟨wr.heap.size,3,none⟩ (.int .i64 t3)).setCell ⟨wr.heap.size,4,none⟩ (.int .i64 t4)).setCell ⟨wr.heap.size,5,none⟩ (.int .i64 t5)).setCell ⟨wr.heap.size,6,none⟩ (.int .i64 t6)).setCell ⟨wr.heap.size,7,none⟩ (.int .i64 t7)).setCell ⟨wr.heap.size,8,none⟩ (.int .i64 t8)).setCell ⟨wr.heap.size,9,none⟩ (.int .i64 t9)).setCell ⟨wr.heap.size,10,none⟩ (.int .i64 t10)) wr.heap.size 40 (I11 t0 t1 t2 t3 t4 t5 t6 t7 t8 t9 t10)):=Z9 q10
   replace BR:Hid (Below wr.heap.size wr (((((((((((Y6.setCell ⟨wr.heap.size,0,none⟩ (.int .i64 t0)).setCell ⟨wr.heap.size,1,none⟩ (.int .i64 t1)).setCell ⟨wr.heap.size,2,none⟩ (.int .i64 t2)).setCell ⟨wr.heap.size,3,none⟩ (.int .i64 t3)).setCell ⟨wr.heap.size,4,none⟩ (.int .i64 t4)).setCell ⟨wr.heap.size,5,none⟩ (.int .i64 t5)).setCell ⟨wr.heap.size,6,none⟩ (.int .i64 t6)).setCell ⟨wr.heap.size,7,none⟩ (.int .i64 t7)).setCell ⟨wr.heap.size,8,none⟩ (.int .i64 t8)).setCell ⟨wr.heap.size,9,none⟩ (.int .i64 t9)).setCell ⟨wr.heap.size,10,none⟩ (.int .i64 t10))):=Z9 ((((((((((((uh BR).setCell (p:=⟨wr.heap.size,0,none⟩) (Z2 _) _).setCell (p:=⟨wr.heap.size,1,none⟩) (Z2 _) _).setCell (p:=⟨wr.heap.size,2,none⟩) (Z2 _) _).setCell (p:=⟨wr.heap.size,3,none⟩) (Z2 _) _).setCell (p:=⟨wr.heap.size,4,none⟩) (Z2 _) _).setCell (p:=⟨wr.heap.size,5,none⟩) (Z2 _) _).setCell (p:=⟨wr.heap.size,6,none⟩) (Z2 _) _).setCell (p:=⟨wr.heap.size,7,none⟩) (Z2 _) _).setCell (p:=⟨wr.heap.size,8,none⟩) (Z2 _) _).setCell (p:=⟨wr.heap.size,9,none⟩) (Z2 _) _).setCell (p:=⟨wr.heap.size,10,none⟩) (Z2 _) _);clear q0 q1 q2 q3 q4 q5 q6 q7 q8 q9 q10;generalize ((((((((((Y6.setCell ⟨wr.heap.size,0,none⟩ (.int .i64 t0)).setCell ⟨wr.heap.size,1,none⟩ (.int .i64 t1)).setCell ⟨wr.heap.size,2,none⟩ (.int .i64 t2)).setCell ⟨wr.heap.size,3,none⟩ (.int .i64 t3)).setCell ⟨wr.heap.size,4,none⟩ (.int .i64 t4)).setCell ⟨wr.heap.size,5,none⟩ (.int .i64 t5)).setCell ⟨wr.heap.size,6,none⟩ (.int .i64 t6)).setCell ⟨wr.heap.size,7,none⟩ (.int .i64 t7)).setCell ⟨wr.heap.size,8,none⟩ (.int .i64 t8)).setCell ⟨wr.heap.size,9,none⟩ (.int .i64 t9)).setCell ⟨wr.heap.size,10,none⟩ (.int .i64 t10)=Y7 at *;have e9:=(uh ks).cell (i:=9) (v:= .int .i64 t9) rfl;have f9:=(uh ks).free 9;go_wp2_with fail;refine ck (TV t9 fo n _) fun wf hwf=> ?_;subst wf;go_upto_region 22 with fail;clear e9 f9;replace ks:Hid (Blk (Y7.setCell ⟨wr.heap.size,9,none⟩ (.int .i64 (ZE t9 fo n))) wr.heap.size 40 (I11 t0 t1 t2 t3 t4 t5 t6 t7 t8 (ZE t9 fo n) t10)):=Z9 ((uh ks).set 9 _);replace BR:Hid (Below wr.heap.size wr (Y7.setCell ⟨wr.heap.size,9,none⟩ (.int .i64 (ZE t9 fo n)))):=Z9 ((uh BR).setCell (p:=⟨wr.heap.size,9,none⟩) (Z2 _) _);generalize Y7.setCell ⟨wr.heap.size,9,none⟩ (.int .i64 (ZE t9 fo n))=Y9 at *;obtain ⟨z0,z1,z2,z3,z4,z5,z6,z7,z8,z9,z10⟩:=(uh ks).c11;have HF9:=Z9 ((uh HF1).below (uh BR));have kx9:=(uh kx).below (uh BR) (uh kx).lt;have x2:=kx9.cell (i:=2) (v:= .slice (some ⟨g2,0,none⟩) m.sm.length xp2) rfl;obtain ⟨_,hga,_,_,hc2,hz2⟩:=RecAt.view ZX (by omega) (uh HF9).sm hsl.symm (by show 0<ss.length;omega);cases hga;obtain ⟨s0,s1,s2,s3,s4,s5,s6,s7,s8,s9,s10⟩:=ET (hc2 k (by show k<ss.length;omega));obtain ⟨fz0,fz1,fz2,fz3,fz4,fz5,fz6,fz7,fz8,fz9,fz10⟩:=BL hz2 (k*11);simp only [Nat.add_zero] at s0 fz0;have hput:=(uh HF9).putW hsl.symm (j:=k) (by show k<ss.length;omega) (t0,t1,t2,t3,t4,t5,t6,t7,t8,(ZE t9 fo n),t10);rw [show ZU (t0,t1,t2,t3,t4,t5,t6,t7,t8,(ZE t9 fo n),t10)=[.int .i64 t0,.int .i64 t1,.int .i64 t2,.int .i64 t3,.int .i64 t4,.int .i64 t5,.int .i64 t6,.int .i64 t7,.int .i64 t8,.int .i64 (ZE t9 fo n),.int .i64 t10] from rfl,MB] at hput
   have HP:=Z9 hput;have Hnx:Hid (Xw m n (k+1)=some (ss.set k (t0,t1,t2,t3,t4,t5,t6,t7,t8,(ZE t9 fo n),t10))):=Z9 (RU (uh Htk) (by rw [uh Hrk];unfold PU;rw [if_neg (by show ¬ (3:Int)=0;omega),if_pos rfl];simp only;rw [uh Hfo,uh Hch];rfl));have htw9:=Two.of_setW (p:=some g2) (q:=none) (g:=g2) (.inl rfl) (ZU (t0,t1,t2,t3,t4,t5,t6,t7,t8,(ZE t9 fo n),t10)) Y9 (k*11);rw [show ZU (t0,t1,t2,t3,t4,t5,t6,t7,t8,(ZE t9 fo n),t10)=[.int .i64 t0,.int .i64 t1,.int .i64 t2,.int .i64 t3,.int .i64 t4,.int .i64 t5,.int .i64 t6,.int .i64 t7,.int .i64 t8,.int .i64 (ZE t9 fo n),.int .i64 t10] from rfl,MB] at htw9;have TW9:=Z9 (((uh Tw).trans (Two.of_below (uh BR))).trans htw9);clear htw9;clear hput hc2 hz2 kx9;go_wp2_with fail;go_roundw
   case rel=>exact ⟨k+1,_,by omega,by go_num,uh Hnx,uh HP,uh TW9⟩
   case measure=>exact ms
  ·
   obtain rfl:k=m.sm.length:=by omega
   clear hsame;obtain ⟨lb,hlb⟩:∃ q,Yv (Sg m n ss)=q:=⟨_,rfl⟩
   have Hlb:=Z9 hlb;clear hlb;obtain ⟨z0,z1,z2,z3,z4,z5⟩:=(uh kx).c6;go_wp2_with fail;clear x2 z0 z1 z2 z3 z4 z5;refine (Sx (m:=Sg m n ss) (uh HF1).smy).mono ?_;rw [uh Hlb];rintro e w8 ⟨rfl,hb⟩;replace kx:=bl kx hb;replace ko:=bl ko hb;replace kr:=bl kr hb;replace HO:=Z9 ((uh HO).below hb);replace HF1:=Z9 ((uh HF1).below hb);replace BB:=bt BB hb;clear hb;cases lb
   ·
    obtain ⟨x0,x1,x2,x3,x4,x5⟩:=(uh ko).c6;obtain ⟨o0,o1,o2,o3,o4,o5⟩:=(uh kr).c6;obtain ⟨f0,f1,f2,f3,f4,f5⟩:=(uh kr).f6;go_wp2_with fail;have hX0:X=(m,4):=by rw [<-uh HX];unfold Sf;rw [uh Hok];simp only [if_true];rw [uh Hpb];simp only [if_true];rw [uh Htk];simp only;rw [uh Hlb];rfl
    exact ZS (v:= .tuple #[.agg (S6 b0 q0 b1 q1 b2 q2 b3 q3 b4 q4 m),.int .i64 4]) (by simp [results,Tryz.results254,go_sem, *]) rfl (Zb hX0 rfl (uh HO) (uh BB))
   have hofX:∀ k,Wg (.slice xa0 m.rm.length xp0) (.slice xa1 m.gd.length xp1) (.slice xa2 m.sm.length xp2) (.slice xa3 m.dk.length xp3) (.slice xa4 m.pc.length xp4) xq k->k ≠ xb:=fun k e=>by have:=(uh LX k e).2;omega
   go_wp2_with fail;refine (Ry (m:=Sg m n ss) (uh kx) (uh HF1) (fun e=>hofX _ (.inr (.inr (.inr (.inl e)))) rfl) (fun e=>hofX _ (.inr (.inr (.inr (.inr (.inl e))))) rfl) (by show ss.length<=800;have:=(uh HFew).sm;omega) (uh HFew).dk).mono ?_;rintro e w9 ⟨rfl,hf9,ht9⟩;replace kr:=Z9 ((uh kr).two ht9 (fun e=>by have:=(uh LX _ (.inr (.inr (.inr (.inl e))))).1;omega) (fun e=>by have:=(uh LX _ (.inr (.inr (.inr (.inr (.inl e)))))).1;omega));replace BB:=Z9 ((uh BB).trans (ht9.below (uh BB).size (fun k e=>by have:=(uh LX k (.inr (.inr (.inr (.inl e))))).1;omega) (fun k e=>by have:=(uh LX k (.inr (.inr (.inr (.inr (.inl e)))))).1;omega)));have HF9:=Z9 hf9;clear hf9 ht9 hofX;obtain ⟨o0,o1,o2,o3,o4,o5⟩:=(uh kr).c6;obtain ⟨f0,f1,f2,f3,f4,f5⟩:=(uh kr).f6;go_wp2_with fail;have hX0:X=(ZN (Sg m n ss),0):=by rw [<-uh HX];unfold Sf;rw [uh Hok];simp only [if_true];rw [uh Hpb];simp only [if_true];rw [uh Htk];simp only;rw [uh Hlb];rfl
   have hnow9:(ZN (Sg m n ss)).now=m.now+n:=(ZG _ _).2.2.2.1;refine ZS (v:= .tuple #[.agg #[.slice xa0 m.rm.length xp0,.slice xa1 m.gd.length xp1,.slice xa2 m.sm.length xp2,.slice xa3 m.dk.length xp3,.slice xa4 m.pc.length xp4,.int .i64 (m.now+n)],.int .i64 0]) (by simp [results,Tryz.results254,go_sem,Sg, *]) rfl ⟨?_,?_⟩
   ·rw [hX0];refine ⟨_,_,_,_,_,xq,by rw [hnow9],?_⟩
    iterate 6 (refine FullSmy.set_off ?_ (fun k e=>by have:=(uh LX k e).1;omega) _ _)
    exact (uh HF9).mono (by omega)
   ·iterate 6 (refine YS ?_ (by show _<=w.heap.size+1;omega) _)
    exact uh BB
theorem Gv {w:World} {v0 v1 v2 v3 v4:Value} {m:Z6} (who:Int) (gu:Int) (h:Smy w v0 v1 v2 v3 v4 m) (hok:ZI m=true) :
  Calls Tryz.prog 258 #[.agg #[v0,v1,v2,v3,v4,.int .i64 m.now],.int .i64 who,.int .i64 gu] w fun e w'=>TX w.heap.size (Qw m who gu).1 (Qw m who gu).2 e w'/\Below w.heap.size w w':=by
 obtain ⟨X,hX⟩:∃ x,Qw m who gu=x:=⟨_,rfl⟩
 rw [hX];have HX:=Z9 hX;clear hX;have Hv0:=Z9 h;obtain ⟨a0,p0,a1,p1,a2,p2,a3,p3,a4,p4,rfl,rfl,rfl,rfl,rfl,_,_,_,_,_,_,_,_,_,_⟩:=h.five;clear h;have Hok:=Z9 hok;clear hok;go_enter Tryz.func258,Tryz.ntmps258;go_wp2_with fail;have kb:Hid (Blk ((w.alloc (.cells (S6 a0 p0 a1 p1 a2 p2 a3 p3 a4 p4 m) 32)).alloc (.cells E6 32)) w.heap.size 32 (S6 a0 p0 a1 p1 a2 p2 a3 p3 a4 p4 m)):=Z9 ((Blk.new w _ _).alloc _)
 have kr:Hid (Blk ((w.alloc (.cells (S6 a0 p0 a1 p1 a2 p2 a3 p3 a4 p4 m) 32)).alloc (.cells E6 32)) (w.heap.size+1) 32 E6):=Z9 (by
  have k:=Blk.new (w.alloc (.cells (S6 a0 p0 a1 p1 a2 p2 a3 p3 a4 p4 m) 32)) 32 E6;rw [ZB] at k
  exact k)
 have BB:Hid (Below w.heap.size w ((w.alloc (.cells (S6 a0 p0 a1 p1 a2 p2 a3 p3 a4 p4 m) 32)).alloc (.cells E6 32))):=Z9 (((ba _ _)).alloc (by simp) _);have Hv:=Z9 ((uh Hv0).below (uh BB));clear Hv0;generalize (w.alloc (.cells (S6 a0 p0 a1 p1 a2 p2 a3 p3 a4 p4 m) 32)).alloc (.cells E6 32)=w1 at *;have hlo:=ZK (uh Hok);have HLo:=Z9 hlo;have HFew:=Z9 (WK hlo);clear hlo;have hWs:w.heap.size+2<=w1.heap.size:=by have:=(uh kr).lt;omega
 refine (XT (uh Hv) (uh HFew)).mono ?_;rintro e w2 ⟨y0,y1,y2,y3,y4,oq,rfl,ho,hb⟩;have k9:=ho.smy;obtain ⟨b0,q0,b1,q1,b2,q2,b3,q3,b4,q4,rfl,rfl,rfl,rfl,rfl,_,_,_,_,_,_,_,_,_,_⟩:=k9.five;clear k9;replace kb:=bl kb hb;replace kr:=bl kr hb;replace Hv:=Z9 ((uh Hv).below hb);replace BB:=bt BB hb;have HO:=Z9 (ho.mono hWs);have LO:Hid (∀ k,Wg (.slice b0 m.rm.length q0) (.slice b1 m.gd.length q1) (.slice b2 m.sm.length q2) (.slice b3 m.dk.length q3) (.slice b4 m.pc.length q4) oq k->w.heap.size+2<=k/\k<w2.heap.size):=Z9 (fun k e=>(uh HO).own e);have hsz9:=hb.size;clear ho hb;go_upto_region 2 with fail;obtain ⟨W2,hW2,hba,ko⟩:=YF w2 32 (S6 b0 q0 b1 q1 b2 q2 b3 q3 b4 q4 m);replace kb:=bl kb hba;replace kr:=bl kr hba;replace Hv:=Z9 ((uh Hv).below hba);replace HO:=Z9 ((uh HO).below hba);replace BB:=bt BB hba;have hob:w.heap.size+2<=w2.heap.size:=XH hWs hsz9;clear hba hsz9 hWs;rw [hW2];clear hW2;generalize w2.heap.size=ob at *;obtain ⟨qw,hqw⟩:∃ q,WU m who=q:=⟨_,rfl⟩
 have Hqw:=Z9 hqw;clear hqw;obtain ⟨c0,c1,c2,c3,c4,c5⟩:=(uh kb).c6;go_wp2_with fail;clear c0 c1 c2 c3 c4 c5;refine ck (Ul (uh Hqw) (uh Hv)) fun w3 hb=> ?_;replace kb:=bl kb hb;replace kr:=bl kr hb;replace Hv:=Z9 ((uh Hv).below hb);replace HO:=Z9 ((uh HO).below hb);replace ko:=bl ko hb;replace BB:=bt BB hb;clear hb;cases qw
 ·
  obtain ⟨x0,x1,x2,x3,x4,x5⟩:=(uh ko).c6;obtain ⟨o0,o1,o2,o3,o4,o5⟩:=(uh kr).c6;obtain ⟨f0,f1,f2,f3,f4,f5⟩:=(uh kr).f6;go_wp2_with fail;have hX0:X=(m,1):=by rw [<-uh HX];unfold Qw;rw [uh Hqw];rfl
  exact ZS (v:= .tuple #[.agg (S6 b0 q0 b1 q1 b2 q2 b3 q3 b4 q4 m),.int .i64 1]) (by simp [results,Tryz.results258,go_sem, *]) rfl (Zb hX0 rfl (uh HO) (uh BB))
 obtain ⟨k,rfl,hk,hs0⟩:=Yl (uh Hqw);have hk1:(k:Int)<(m.sm.length:Int):=by omega
 obtain ⟨qg,hqg⟩:∃ q,inB gu (-1) ((m.gd.length:Int)-1)=q:=⟨_,rfl⟩
 have Hqg:=Z9 hqg;clear hqg;have hgl:=(uh HFew).gd;have c1:=(uh kb).cell (i:=1) (v:= .slice a1 m.gd.length p1) rfl;go_wp2_with fail;refine (ZT _ _ _ _).mono ?_;rw [uh Hqg];rintro e w9 ⟨rfl,hw9⟩;subst w9;clear c1;cases qg
 ·
  obtain ⟨x0,x1,x2,x3,x4,x5⟩:=(uh ko).c6;obtain ⟨o0,o1,o2,o3,o4,o5⟩:=(uh kr).c6;obtain ⟨f0,f1,f2,f3,f4,f5⟩:=(uh kr).f6;go_wp2_with fail;have hX0:X=(m,3):=by rw [<-uh HX];unfold Qw;rw [uh Hqw];simp only [if_true];rw [uh Hqg];rfl
  exact ZS (v:= .tuple #[.agg (S6 b0 q0 b1 q1 b2 q2 b3 q3 b4 q4 m),.int .i64 3]) (by simp [results,Tryz.results258,go_sem, *]) rfl (Zb hX0 rfl (uh HO) (uh BB))
 obtain ⟨g2,hga,_,_,hc2,hz2⟩:=RecAt.view ZX (by omega) (uh HO).sm rfl (by omega);cases hga;have hg2o:=(uh LO g2 (.inr (.inr (.inr (.inl rfl)))))
 have x2:=(uh ko).cell (i:=2) (v:= .slice (some ⟨g2,0,none⟩) m.sm.length q2) rfl;have s0:=hc2 k hk 4 _ rfl;have f0:=hz2 (k*11+4);have hp0:=(uh HO).putS rfl (j:=k) (i:=4) hk (by omega) (.int .i64 gu) (OF (Z8 m.sm k) gu) rfl;have HP:=Z9 hp0;clear hc2 hz2 HO hp0;go_upto_region 7 with fail;clear s0 f0 x2;replace ko:Hid (Blk ((w3).setCell ⟨g2,k*11+4,none⟩ (.int .i64 gu)) ob 32 (S6 b0 q0 b1 q1 (some ⟨g2,0,none⟩) q2 b3 q3 b4 q4 m)):=Z9 ((uh ko).other (a:=⟨g2,k*11+4,none⟩) (by show ob ≠ g2;omega) (.int .i64 gu));replace kr:Hid (Blk ((w3).setCell ⟨g2,k*11+4,none⟩ (.int .i64 gu)) (w.heap.size+1) 32 E6):=Z9 ((uh kr).other (a:=⟨g2,k*11+4,none⟩) (by show w.heap.size+1 ≠ g2;omega) (.int .i64 gu));replace BB:Hid (Below w.heap.size w ((w3).setCell ⟨g2,k*11+4,none⟩ (.int .i64 gu))):=Z9 ((uh BB).setCell (p:=⟨g2,k*11+4,none⟩) (by show w.heap.size<=g2;omega) (.int .i64 gu));clear kb Hv;generalize (w3).setCell ⟨g2,k*11+4,none⟩ (.int .i64 gu)=W3 at *;have hfw:=uh HFew;go_wp2_with fail;refine (UZ (m:=setS m k (OF (Z8 m.sm k) gu)) (uh ko) (uh HP) (fun k e=>by have:=(uh LO k e).2;omega) (uh kr) (uh BB) (by show (m.sm.set k _).length<=800;have:=hfw.sm;simp;omega) hfw.dk).mono ?_;clear kr BB;rintro e w4 ⟨rfl,HF9,kr,BB⟩;obtain ⟨o0,o1,o2,o3,o4,o5⟩:=(uh kr).c6;obtain ⟨f0,f1,f2,f3,f4,f5⟩:=(uh kr).f6;go_wp2_with fail;have hX0:X=(ZN (setS m k (OF (Z8 m.sm k) gu)),0):=by rw [<-uh HX];unfold Qw;rw [uh Hqw];simp only [if_true,Zz];rw [uh Hqg];rfl
 have hnow:(ZN (setS m k (OF (Z8 m.sm k) gu))).now=m.now:=(ZG _ _).2.2.2.1;exact ZS (v:= .tuple #[.agg (S6 b0 q0 b1 q1 (some ⟨g2,0,none⟩) q2 b3 q3 b4 q4 m),.int .i64 0]) (by simp [results,Tryz.results258,go_sem,setS,TI,Yc,pushS, *]) rfl (Zb hX0 hnow (uh HF9) (uh BB))
set_option maxRecDepth 100000
structure Hp (w W:World) (a0 a1 a2 a3 a4:Option Addr) (p0 p1 p2 p3 p4:Nat) (m:Z6) (k who a b:Int):Prop where
 v:Smy W (.slice a0 m.rm.length p0) (.slice a1 m.gd.length p1) (.slice a2 m.sm.length p2) (.slice a3 m.dk.length p3) (.slice a4 m.pc.length p4) m
 s:Blk W w.heap.size 32 (S6 a0 p0 a1 p1 a2 p2 a3 p3 a4 p4 m)
 t:Blk W (w.heap.size+1) 190 #[.int .i64 k,.int .i64 who,.int .i64 a,.int .i64 b]
 r:Blk W (w.heap.size+1+1) 32 E6
 y:Below w.heap.size w W
theorem Hp.next {w W W':World} {a0 a1 a2 a3 a4:Option Addr} {p0 p1 p2 p3 p4:Nat} {m:Z6} {k who a b:Int} (h:Hid (Hp w W a0 a1 a2 a3 a4 p0 p1 p2 p3 p4 m k who a b)) (hb:Below W.heap.size W W'):Hid (Hp w W' a0 a1 a2 a3 a4 p0 p1 p2 p3 p4 m k who a b):=
 Z9 ⟨(uh h).v.below hb,(uh h).s.below hb (uh h).s.lt,(uh h).t.below hb (uh h).t.lt,(uh h).r.below hb (uh h).r.lt,(uh h).y.trans (hb.mono (uh h).y.size)⟩
theorem Hp.new {w:World} {a0 a1 a2 a3 a4:Option Addr} {p0 p1 p2 p3 p4:Nat} {m:Z6} (k who a b:Int) (h:Smy w (.slice a0 m.rm.length p0) (.slice a1 m.gd.length p1) (.slice a2 m.sm.length p2) (.slice a3 m.dk.length p3) (.slice a4 m.pc.length p4) m):∃ W,((w.alloc (.cells (S6 a0 p0 a1 p1 a2 p2 a3 p3 a4 p4 m) 32)).alloc (.cells #[.int .i64 k,.int .i64 who,.int .i64 a,.int .i64 b] 190)).alloc (.cells E6 32)=W/\Hid (Hp w W a0 a1 a2 a3 a4 p0 p1 p2 p3 p4 m k who a b):=by
 have BB:=(((Z1 w.heap.size w).alloc (Z2 _) (.cells (S6 a0 p0 a1 p1 a2 p2 a3 p3 a4 p4 m) 32)).alloc (by simp) (.cells #[.int .i64 k,.int .i64 who,.int .i64 a,.int .i64 b] 190)).alloc (by simp;omega) (.cells E6 32);have k1:=(Blk.new (w.alloc (.cells (S6 a0 p0 a1 p1 a2 p2 a3 p3 a4 p4 m) 32)) 190 #[.int .i64 k,.int .i64 who,.int .i64 a,.int .i64 b]).alloc (.cells E6 32);have k2:=Blk.new ((w.alloc (.cells (S6 a0 p0 a1 p1 a2 p2 a3 p3 a4 p4 m) 32)).alloc (.cells #[.int .i64 k,.int .i64 who,.int .i64 a,.int .i64 b] 190)) 32 E6;rw [ZB] at k1;rw [ZB,ZB] at k2;exact ⟨_,rfl,Z9 ⟨h.below BB,((Blk.new w _ _).alloc _).alloc _,k1,k2,BB⟩⟩
theorem yX {w:World} {v0 v1 v2 v3 v4:Value} {m:Z6} (h:Smy w v0 v1 v2 v3 v4 m):Calls Tryz.prog 46 #[.agg #[v0,v1,v2,v3,v4,.int .i64 m.now]] w fun e w'=>TX w.heap.size Yj 3 e w'/\Below w.heap.size w w':=by
 refine ck (XY h) fun w2 hb=> ?_;exact ⟨⟨_,_,_,_,_,[],rfl,Yr _ _⟩,hb⟩
theorem zS {w:World} {v0 v1 v2 v3 v4:Value} {m:Z6} (h:Smy w v0 v1 v2 v3 v4 m) (hok:ZI m=true):Calls Tryz.prog 47 #[.agg #[v0,v1,v2,v3,v4,.int .i64 m.now]] w fun e w'=>yS w.heap.size m e w'/\Below w.heap.size w w':=by
 refine (XT h (WK (ZK hok))).mono ?_;rintro e w2 ⟨y0,y1,y2,y3,y4,oq,rfl,ho,hb⟩;exact ⟨⟨_,_,_,_,_,oq,rfl,ho⟩,hb⟩
theorem gm {f:Nat} {args:Array Value} {w:World} {n:Nat} {X:Z6 × Int} {M:Z6} {cd:Int} (h:Calls Tryz.prog f args w fun e w'=>TX n X.1 X.2 e w'/\Below n w w') (he:X=(M,cd)):Calls Tryz.prog f args w fun e w'=>TX n M cd e w'/\Below n w w':=by subst he;exact h
theorem gl {f:Nat} {args:Array Value} {w:World} {n:Nat} {X M:Z6} (h:Calls Tryz.prog f args w fun e w'=>yS n X e w'/\Below n w w') (he:X=M):Calls Tryz.prog f args w fun e w'=>yS n M e w'/\Below n w w':=by subst he;exact h
theorem Ec {m:Z6} (hok:ZI m=false) (k who a b:Int):Zp m k who a b=(Yj,3):=by unfold Zp;rw [hok];rfl
theorem MH {w:World} {v0 v1 v2 v3 v4:Value} {m:Z6} (k who a b:Int) (h:Smy w v0 v1 v2 v3 v4 m) :
  Calls Tryz.prog 207 #[.agg #[v0,v1,v2,v3,v4,.int .i64 m.now],.agg #[.int .i64 k,.int .i64 who,.int .i64 a,.int .i64 b]] w fun e w'=>TX w.heap.size (Zp m k who a b).1 (Zp m k who a b).2 e w'/\Below w.heap.size w w':=by
 obtain ⟨Y,hY⟩:∃ y,Zp m k who a b=y:=⟨_,rfl⟩
 rw [hY];obtain ⟨M,cd⟩:=Y;have HY:=Z9 hY;have Hv:=Z9 h;obtain ⟨q,hq⟩:∃ q,ZI m=q:=⟨_,rfl⟩
 have Hq:=Z9 hq;obtain ⟨a0,p0,a1,p1,a2,p2,a3,p3,a4,p4,rfl,rfl,rfl,rfl,rfl,_,_,_,_,_,_,_,_,_,_⟩:=h.five;clear h hY hq;go_enter Tryz.func207,Tryz.ntmps207;go_wp2_with fail;obtain ⟨W,hW,H⟩:=Hp.new k who a b (uh Hv);rw [hW];clear hW Hv;refine ck (XN (uh Hq) (uh H).v) fun w1 hb=> ?_;replace H:=Hp.next H hb;clear hb;have hn:q=false\/(q=true/\(k<1\/14<k))\/(q=true/\(k=1\/k=2\/k=3\/k=4\/k=5\/k=6\/k=7\/k=8\/k=9\/k=10\/k=11\/k=12\/k=13\/k=14)):=by cases q<;>simp;omega
 rcases hn with rfl | ⟨rfl,hk⟩ | ⟨rfl,rfl | rfl | rfl | rfl | rfl | rfl | rfl | rfl | rfl | rfl | rfl | rfl | rfl | rfl⟩
 rotate_left;have Hk:=Z9 hk;have hne:∀ j:Int,1<=j->j<=14->(k ==j)=false/\decide (k=j)=false:=fun j _ _=>⟨beq_eq_false_iff_ne.mpr (by have:=uh Hk;omega),Xr (by have:=uh Hk;omega)⟩
 obtain ⟨n1,m1⟩:=hne 1 (by decide) (by decide);obtain ⟨n2,m2⟩:=hne 2 (by decide) (by decide);obtain ⟨n3,m3⟩:=hne 3 (by decide) (by decide);obtain ⟨n4,m4⟩:=hne 4 (by decide) (by decide);obtain ⟨n5,m5⟩:=hne 5 (by decide) (by decide);obtain ⟨n6,m6⟩:=hne 6 (by decide) (by decide);obtain ⟨n7,m7⟩:=hne 7 (by decide) (by decide);obtain ⟨n8,m8⟩:=hne 8 (by decide) (by decide);obtain ⟨n9,m9⟩:=hne 9 (by decide) (by decide);obtain ⟨n10,m10⟩:=hne 10 (by decide) (by decide);obtain ⟨n11,m11⟩:=hne 11 (by decide) (by decide);obtain ⟨n12,m12⟩:=hne 12 (by decide) (by decide);obtain ⟨n13,m13⟩:=hne 13 (by decide) (by decide);obtain ⟨n14,m14⟩:=hne 14 (by decide) (by decide);obtain ⟨hM,hC⟩:=Prod.mk.inj ((NV (uh Hq) (uh Hk) who a b).symm.trans (uh HY));have HM:=Z9 hM;have HC:=Z9 hC.symm;clear hne hM hC hk;rotate_left 13;obtain ⟨hM,hC⟩:=Prod.mk.inj ((Ge (uh Hq) who a b).symm.trans (uh HY));have HM:=Z9 hM;have HC:=Z9 hC.symm;clear hM hC
 all_goals
  obtain ⟨c0,c1,c2,c3,c4,c5⟩:=(uh H).s.c6;have d0:=(uh H).t.cell (i:=0) rfl;have d1:=(uh H).t.cell (i:=1) rfl;have d2:=(uh H).t.cell (i:=2) rfl;have d3:=(uh H).t.cell (i:=3) rfl;go_wp2_with fail;clear c0 c1 c2 c3 c4 c5 d0 d1 d2 d3
  first
  | refine (gl (zS (uh H).v (uh Hq)) (uh HM)).mono ?_
  | refine (gl (O4 (uh H).v) (uh HM)).mono ?_
  | refine (gm (yX (uh H).v) ((Ec (uh Hq) k who a b).symm.trans (uh HY))).mono ?_
  | refine (gm (Jz a b (-1) (uh H).v) ((Dd (uh Hq) who a b).symm.trans (uh HY))).mono ?_
  | refine (gm (JA who (uh H).v) ((De (uh Hq) who a b).symm.trans (uh HY))).mono ?_
  | refine (gm (JB who (uh H).v) ((Df (uh Hq) who a b).symm.trans (uh HY))).mono ?_
  | refine (gm (La who (uh H).v) ((Dg (uh Hq) who a b).symm.trans (uh HY))).mono ?_
  | refine (gm (RQ who a (uh H).v) ((Dh (uh Hq) who a b).symm.trans (uh HY))).mono ?_
  | refine (gm (Sb who a (uh H).v) ((Di (uh Hq) who a b).symm.trans (uh HY))).mono ?_
  | refine (gm (Sd who a b (uh H).v) ((Dj (uh Hq) who a b).symm.trans (uh HY))).mono ?_
  | refine (gm (MG a (uh H).v) ((Dk (uh Hq) who a b).symm.trans (uh HY))).mono ?_
  | refine (gm (MM a (uh H).v) ((Dl (uh Hq) who a b).symm.trans (uh HY))).mono ?_
  | refine (gm (MP a (uh H).v) ((Gb (uh Hq) who a b).symm.trans (uh HY))).mono ?_
  | refine (gm (NF a b (uh H).v) ((Gc (uh Hq) who a b).symm.trans (uh HY))).mono ?_
  | refine (gm (X:=(DL m,0)) (Em (uh H).v (uh Hq)) ((Gd (uh Hq) who a b).symm.trans (uh HY))).mono ?_
  | refine (gm (Gv who a (uh H).v (uh Hq)) ((Gf (uh Hq) who a b).symm.trans (uh HY))).mono ?_
  rintro e w2 ⟨⟨y0,y1,y2,y3,y4,oq,rfl,ho⟩,hb⟩;have k9:=ho.smy;obtain ⟨b0,q0,b1,q1,b2,q2,b3,q3,b4,q4,rfl,rfl,rfl,rfl,rfl,_,_,_,_,_,_,_,_,_,_⟩:=k9.five;have HO:=Z9 (ho.mono (show w.heap.size+3<=w1.heap.size by have:=(uh H).r.lt;omega));clear ho k9;replace H:=Hp.next H hb;clear hb;have o0:=(uh H).r.cell (i:=0) rfl;have f0:=(uh H).r.free 0;have o1:=(uh H).r.cell (i:=1) rfl;have f1:=(uh H).r.free 1;have o2:=(uh H).r.cell (i:=2) rfl;have f2:=(uh H).r.free 2;have o3:=(uh H).r.cell (i:=3) rfl;have f3:=(uh H).r.free 3;have o4:=(uh H).r.cell (i:=4) rfl;have f4:=(uh H).r.free 4;have o5:=(uh H).r.cell (i:=5) rfl;have f5:=(uh H).r.free 5;go_wp2_with fail
  (try have hC:=uh HC)
  refine ZS (v:= .tuple #[.agg (S6 b0 q0 b1 q1 b2 q2 b3 q3 b4 q4 M),.int .i64 cd]) (by simp [results,Tryz.results207,go_sem, *]) rfl ⟨⟨_,_,_,_,_,oq,rfl,?_⟩,?_⟩
  ·refine FullSmy.mono (n₀:=w.heap.size+3) ?_ (by omega)
   iterate 6 (refine FullSmy.set ?_ _ _ _ (by omega))
   exact uh HO
  ·iterate 6 (refine YS ?_ (by show _<=w.heap.size+1+1;omega) _)
   exact (uh H).y
open Draw (St Off Row Cur)
set_option maxRecDepth 100000
structure Dbox (a:Option Addr) (len cap bc n₁:Nat) (w0 w:World) (M:Z6) (u0 u1 u2 u3 u4:Value) (rq:List (ZZ × Value)):Prop where
 st:St a len cap bc w
 off:Off bc w0 w
 ok:ZI M=true
 full:FullSmy n₁ w u0 u1 u2 u3 u4 M rq
 lo:bc<n₁
 hi:n₁<=w0.heap.size
 kb:Blk w w0.heap.size 32 #[u0,u1,u2,u3,u4,.int .i64 M.now]
 kr:Blk w (w0.heap.size+1) 32 E6
 own:∀ k,Wg u0 u1 u2 u3 u4 rq k->k ≠ w0.heap.size/\k ≠ w0.heap.size+1
 bl:bc<w0.heap.size
section
variable {a : Option Addr} {len cap bc n₁ : Nat} {w0 w w' : World} {M : Z6} {u0 u1 u2 u3 u4 : Value} {rq : List (ZZ × Value)}
theorem Dbox.step (h:Dbox a len cap bc n₁ w0 w M u0 u1 u2 u3 u4 rq) (hs:St a len cap bc w') (ho:Off bc w w'):Dbox a len cap bc n₁ w0 w' M u0 u1 u2 u3 u4 rq:=
 have hb:=h.bl
 ⟨hs,h.off.trans ho,h.ok,h.full.away ho h.lo,h.lo,h.hi,h.kb.away ho (by omega),h.kr.away ho (by omega),h.own,h.bl⟩
theorem Dbox.below (h:Dbox a len cap bc n₁ w0 w M u0 u1 u2 u3 u4 rq) (hb:Below w.heap.size w w'):Dbox a len cap bc n₁ w0 w' M u0 u1 u2 u3 u4 rq:=
 h.step (XA h.st (hb.mono (WS h.st))) (VQ hb)
theorem Dbox.put (h:Dbox a len cap bc n₁ w0 w M u0 u1 u2 u3 u4 rq) {n:Nat} {z0 z1 z2 z3 z4:Value} {M1:Z6} {zq:List (ZZ × Value)} (hf:FullSmy n w z0 z1 z2 z3 z4 M1 zq) (hn:w0.heap.size+2<=n) (hok:ZI M1=true) :
  Dbox a len cap bc n₁ w0 ((((((w.setCell ⟨w0.heap.size,0,none⟩ z0).setCell ⟨w0.heap.size,1,none⟩ z1).setCell ⟨w0.heap.size,2,none⟩ z2).setCell ⟨w0.heap.size,3,none⟩ z3).setCell ⟨w0.heap.size,4,none⟩ z4).setCell ⟨w0.heap.size,5,none⟩ (.int .i64 M1.now)) M1 z0 z1 z2 z3 z4 zq:=by
 have hb:=h.bl;have hown:∀ k,Wg z0 z1 z2 z3 z4 zq k->k ≠ w0.heap.size/\k ≠ w0.heap.size+1:=fun k e=>by have:=(hf.own e).1;omega
 have hh:=h.hi;refine ⟨?_,?_,hok,?_,h.lo,h.hi,?_,?_,hown,h.bl⟩
 ·iterate 6 (refine St.newer ?_ hb _ _)
  exact h.st
 ·iterate 6 (refine Off.newer ?_ (Z2 _) _ _)
  exact h.off
 ·iterate 6 (refine FullSmy.set_off ?_ (fun k e=>(hown k e).1) _ _)
  exact hf.mono (by omega)
 ·exact (((((h.kb.set 0 z0).set 1 z1).set 2 z2).set 3 z3).set 4 z4).set 5 _
 ·iterate 6 (refine Blk.other ?_ (by show w0.heap.size+1 ≠ w0.heap.size;omega) _)
  exact h.kr
end
theorem BF (a:Option Addr) (len cap bc:Nat) {w:World} {n₁:Nat} {v0 v1 v2 v3 v4:Value} {m:Z6} {qs:List (ZZ × Value)} (hs:St a len cap bc w) (hf:FullSmy n₁ w v0 v1 v2 v3 v4 m qs) (hn:bc<n₁) (hn2:n₁<=w.heap.size) (hok:ZI m=true) (most:Int) (h0:0<most) (h1:most<=1000) :
  Calls Tryz.prog 150 #[.pointer (some ⟨bc,0,none⟩),.agg #[v0,v1,v2,v3,v4,.int .i64 m.now],.int .i64 most] w fun e w'=> ∃ M u0 u1 u2 u3 u4 rq,e= .returned (.agg #[u0,u1,u2,u3,u4,.int .i64 M.now])/\ZI M=true/\FullSmy n₁ w' u0 u1 u2 u3 u4 M rq/\St a len cap bc w'/\Off bc w w':=by
 have Hs:=Z9 hs;have HF:=Z9 hf;have hbc:=WS hs;have h:=hf.smy;obtain ⟨a0,p0,a1,p1,a2,p2,a3,p3,a4,p4,rfl,rfl,rfl,rfl,rfl,_,_,_,_,_,_,_,_,_,_⟩:=h.five;clear h hs hf;have Hok:=Z9 hok;clear hok
 have D0:Hid (Dbox a len cap bc n₁ w ((w.alloc (.cells (S6 a0 p0 a1 p1 a2 p2 a3 p3 a4 p4 m) 32)).alloc (.cells E6 32)) m (.slice a0 m.rm.length p0) (.slice a1 m.gd.length p1) (.slice a2 m.sm.length p2) (.slice a3 m.dk.length p3) (.slice a4 m.pc.length p4) qs):=Z9 ⟨((uh Hs).alloc _).alloc _,((Off.refl _ _).alloc _).alloc _,uh Hok,(((uh HF).below ((ba _ _))).below ((ba _ _))),hn,hn2,(Blk.new w _ _).alloc _,by
  have k:=Blk.new (w.alloc (.cells (S6 a0 p0 a1 p1 a2 p2 a3 p3 a4 p4 m) 32)) 32 E6;rw [ZB] at k
  exact k,fun k e=>by have:=((uh HF).own e).2;omega,hbc⟩
 clear Hs HF Hok;go_enter Tryz.func150,Tryz.ntmps150;go_wp2_with fail;generalize (w.alloc (.cells (S6 a0 p0 a1 p1 a2 p2 a3 p3 a4 p4 m) 32)).alloc (.cells E6 32)=W at *;refine (Draw.below_any a len cap bc most h0 (by omega) _ (uh D0).st).mono ?_;rintro e w1 ⟨y,rfl,y0,y1,s9,p9⟩;replace D0:=Z9 ((uh D0).step s9 p9);clear s9 p9;go_wp2_with fail
 go_loopw [7] (fun i wr=> ∃ (k:Nat) (M:Z6) (u0 u1 u2 u3 u4:Value) (rq:List (ZZ × Value)),k<=1000/\i= .int .i64 k/\Dbox a len cap bc n₁ w wr M (u0) (u1) (u2) (u3) (u4) rq) (fun i _=>(intOf i).toNat)
 case atStart=>exact ⟨y.toNat,m,_,_,_,_,_,qs,by omega,by rw [show ((y.toNat:Nat):Int)=y by omega],uh D0⟩
 case round=>
  obtain ⟨k,M,u0,u1,u2,u3,u4,rq,hk1,rfl,hD⟩:=hrel;have h:=hD.full.smy;obtain ⟨b0,q0,b1,q1,b2,q2,b3,q3,b4,q4,rfl,rfl,rfl,rfl,rfl,_,_,_,_,_,_,_,_,_,_⟩:=h.five;have HD:=Z9 hD;clear h hD D0;by_cases hk0:0<k
  ·
   have hlo:=ZK (uh HD).ok;have g2:=Yz hlo;have g3':=VR hlo;have g3:1<=M.dk.length:=by obtain ⟨j,hj,_⟩:=hlo.openD;omega
   have g4:1<=M.pc.length:=OQ hlo
   have g4':M.pc.length<=3:=by
    rw [VX hlo];have hd:=hlo.head;unfold YD at hd;simp only [ZM,YW] at hd;exact (Zo hd.1).2.1
   have g1:M.gd.length<=6:=by
    have hd:=hlo.head;unfold YD at hd;simp only [ZM,YW] at hd;exact (Vp hd.2.1).2
   have G1:=Z9 g1;have G2:=Z9 g2;have G3:=Z9 g3;have G3':=Z9 g3';have G4:=Z9 g4;have G4':=Z9 g4';clear hlo g1 g2 g3 g3' g4 g4';obtain ⟨c0,c1,c2,c3,c4,c5⟩:=(uh HD).kb.c6;go_wp2_with fail
   go_region_with (first
    | (go_at_call 208;refine (FY a len cap bc _ _ _ _ _ _ _ _ _ _ _ _ _ _ _ _ (uh G1) (uh G2) (uh G3) (uh G3') (uh G4) (uh G4') _ ?_).mono ?_;exact Q8 (uh HD).st;rintro e w5 ⟨kk,who,aa,bb,rfl,s9,p9⟩;have HD5:=Z9 ((uh HD).step s9 (RG p9));have y0:=(uh HD5).kb.cell (i:=0) (v:= .slice b0 M.rm.length q0) rfl;have y1:=(uh HD5).kb.cell (i:=1) (v:= .slice b1 M.gd.length q1) rfl;have y2:=(uh HD5).kb.cell (i:=2) (v:= .slice b2 M.sm.length q2) rfl;have y3:=(uh HD5).kb.cell (i:=3) (v:= .slice b3 M.dk.length q3) rfl;have y4:=(uh HD5).kb.cell (i:=4) (v:= .slice b4 M.pc.length q4) rfl;have y5:=(uh HD5).kb.cell (i:=5) (v:= .int .i64 M.now) rfl;clear s9 p9)
    | (go_at_call 207;go_loud (refine (MH kk who aa bb ?_).mono ?_;exact (uh HD5).full.smy;have hright:=Jb (uh HD5).ok kk who aa bb;generalize Zp M kk who aa bb=Y at *;obtain ⟨M1,cd⟩:=Y;rintro e w6 ⟨⟨z0,z1,z2,z3,z4,zq,rfl,ho⟩,hb⟩;dsimp only at ho hright ⊢;have k6:=ho.smy;obtain ⟨d0,r0,rfl,_,_⟩:=IsRooms.shape k6.rm;obtain ⟨d1,r1,rfl,_,_⟩:=IsRec.shape k6.gd;obtain ⟨d2,r2,rfl,_,_⟩:=IsRec.shape k6.sm;obtain ⟨d3,r3,rfl,_,_⟩:=IsRec.shape k6.dk;obtain ⟨d4,r4,rfl,_,_⟩:=IsRec.shape k6.pc;have hz5:w.heap.size+2<=w5.heap.size:=(by have:=(uh HD5).kr.lt;omega);have HP:=Z9 (((uh HD5).below hb).put ho hz5 hright);have D6:=Z9 ((uh HD5).below hb);have o0:=(uh D6).kb.cell (i:=0) (v:= .slice b0 M.rm.length q0) rfl;have f0:=(uh D6).kb.free 0;have o1:=(uh D6).kb.cell (i:=1) (v:= .slice b1 M.gd.length q1) rfl;have f1:=(uh D6).kb.free 1;have o2:=(uh D6).kb.cell (i:=2) (v:= .slice b2 M.sm.length q2) rfl;have f2:=(uh D6).kb.free 2;have o3:=(uh D6).kb.cell (i:=3) (v:= .slice b3 M.dk.length q3) rfl;have f3:=(uh D6).kb.free 3;have o4:=(uh D6).kb.cell (i:=4) (v:= .slice b4 M.pc.length q4) rfl;have f4:=(uh D6).kb.free 4;have o5:=(uh D6).kb.cell (i:=5) (v:= .int .i64 M.now) rfl;have f5:=(uh D6).kb.free 5;clear ho hb k6 hright)))
   all_goals
    go_wp2_with fail;go_roundw
    case rel=>exact ⟨k-1,_,_,_,_,_,_,_,by omega,by rw [show ((k:Int)-1)=((k-1:Nat):Int) by omega],by first | exact uh HP | exact (uh HP).below (Z1 _ _).drew⟩
    case measure=>exact ms
  ·
   obtain rfl:k=0:=by omega
   have c0:=(uh HD).kb.cell (i:=0) (v:= .slice b0 M.rm.length q0) rfl;have o0:=(uh HD).kr.cell (i:=0) (v:= .slice none 0 0) rfl;have f0:=(uh HD).kr.free 0;have c1:=(uh HD).kb.cell (i:=1) (v:= .slice b1 M.gd.length q1) rfl;have o1:=(uh HD).kr.cell (i:=1) (v:= .slice none 0 0) rfl;have f1:=(uh HD).kr.free 1;have c2:=(uh HD).kb.cell (i:=2) (v:= .slice b2 M.sm.length q2) rfl;have o2:=(uh HD).kr.cell (i:=2) (v:= .slice none 0 0) rfl;have f2:=(uh HD).kr.free 2;have c3:=(uh HD).kb.cell (i:=3) (v:= .slice b3 M.dk.length q3) rfl;have o3:=(uh HD).kr.cell (i:=3) (v:= .slice none 0 0) rfl;have f3:=(uh HD).kr.free 3;have c4:=(uh HD).kb.cell (i:=4) (v:= .slice b4 M.pc.length q4) rfl;have o4:=(uh HD).kr.cell (i:=4) (v:= .slice none 0 0) rfl;have f4:=(uh HD).kr.free 4;have c5:=(uh HD).kb.cell (i:=5) (v:= .int .i64 M.now) rfl;have o5:=(uh HD).kr.cell (i:=5) (v:= .int .i64 0) rfl;have f5:=(uh HD).kr.free 5;go_wp2_with fail;refine ZS (v:= .agg (S6 b0 q0 b1 q1 b2 q2 b3 q3 b4 q4 M)) (by simp [results,Tryz.results150,go_sem, *]) rfl ⟨M,_,_,_,_,_,rq,rfl,(uh HD).ok,?_,?_,?_⟩
   ·iterate 6 (refine FullSmy.set_off ?_ (fun k e=>((uh HD).own k e).2) _ _)
    exact (uh HD).full
   ·iterate 6 (refine St.newer ?_ (by omega) _ _)
    exact (uh HD).st
   ·iterate 6 (refine Off.newer ?_ (by omega) _ _)
    exact (uh HD).off
end Go.Proofs.YtamgfpdahadnfaaGreatDoor
namespace Go.Proofs.YtamgfpdahadnfaaGreatDoor.Draw
open Go.ChangeShapes Go.WideShapes Go.ChangeAt Go.RowKit
set_option linter.unusedVariables false
theorem xJ (p q r:Value) (k:IntKind) (j:Nat) (hj:j<3) (hp:∃ v:Int,p= .int k v) (hq:∃ v:Int,q= .int k v) (hr:∃ v:Int,r= .int k v) :
  ∃ v:Int,(#[p,q,r]:Array Value)[j]?=some (.int k v):=by
 obtain ⟨_,rfl⟩:=hp;obtain ⟨_,rfl⟩:=hq;obtain ⟨_,rfl⟩:=hr
 match j,hj with
 | 0,_=>exact ⟨_,rfl⟩
 | 1,_=>exact ⟨_,rfl⟩
 | 2,_=>exact ⟨_,rfl⟩
theorem drawForce_any (a:Option Addr) (len cap bc:Nat) (w:World) (hs:St a len cap bc w) :
  Calls Tryz.prog 73 #[.pointer (some ⟨bc,0,none⟩)] w fun e w'=> ∃ x:Int,e= .returned (.int .i64 x)/\St a len cap bc w'/\Off bc w w':=by
 have Hs:=Z9 hs;clear hs;go_enter Tryz.func73,Tryz.ntmps73;go_wp2_with fail;refine (once_any a len cap bc 8 (by omega) (by omega) _ (uh Hs)).mono ?_;rintro e w1 ⟨b,rfl,s1,o1⟩;have Hs1:=Z9 s1;have Ho1:=Z9 o1;have hb:=s1.cur.1;clear s1 o1;cases b
 ·go_wp2_with fail
  refine (below_any a len cap bc 1025 (by omega) (by omega) _ (uh Hs1)).mono ?_;rintro e w2 ⟨x,rfl,x0,x1,s2,o2⟩;have Hs2:=Z9 s2;have Ho2:=Z9 o2;clear s2 o2;go_wp2_with fail;go_ret;exact ⟨_,rfl,uh Hs2,(uh Ho1).trans (uh Ho2)⟩
 ·go_wp2_with fail
  refine (below_any a len cap bc 3 (by omega) (by omega) _ ((uh Hs1).alloc _)).mono ?_;rintro e w2 ⟨x,rfl,x0,x1,s2,o2⟩;have hsz:w1.heap.size<w2.heap.size:=by have:=o2.size;simp at this;omega
  obtain ⟨v,hv⟩:=xJ (.int .i64 (-1)) (.int .i64 1024) (.int .i64 1025) .i64 x.toNat (by omega) ⟨_,rfl⟩ ⟨_,rfl⟩ ⟨_,rfl⟩
  have hcell:w2.cell? ⟨w1.heap.size,x.toNat,none⟩=some (.int .i64 v):=by
   rw [o2.cell (p:=⟨w1.heap.size,x.toNat,none⟩) (by simp) (by simp;omega),World.cell?_alloc_at _ _ _ _ rfl];exact hv
  clear hv;have Hs2:=Z9 s2;have Ho2:=Z9 o2;clear s2 o2;go_wp2_with fail;go_ret;exact ⟨_,rfl,uh Hs2,(uh Ho1).trans (((Off.refl _ _).alloc _).trans (uh Ho2))⟩
end Go.Proofs.YtamgfpdahadnfaaGreatDoor.Draw
namespace Go.Proofs.YtamgfpdahadnfaaGreatDoor
open Go.ChangeShapes Go.WideShapes Go.ChangeAt Go.RowKit Go.Sort
open Draw (St Off Row Cur)
set_option linter.unusedVariables false
theorem DF:NL 75 3 (.agg #[.int .i64 0,.int .i64 0,.int .i64 0]) Wr:=
 ⟨BP,rfl,Xx,by omega,by omega,fun x u hu=>by
  unfold Wr at hu;simp only [List.mem_cons,List.not_mem_nil,or_false] at hu
  rcases hu with rfl | rfl | rfl<;>rfl⟩
theorem LI {w:World} (x0 x1 x2:Int) {g c:Nat} (hg:g=w.heap.size) (hc:1<=c) (hc2:c<=4000):XG (w.alloc (.cells #[.int .i64 x0,.int .i64 x1,.int .i64 x2] 75)) (.slice (some ⟨g,0,none⟩) 1 c) [(x0,x1,x2)]:=
 Wy (e:=75) (enc:=Wr) (x0,x1,x2) hg hc hc2
theorem RecAt.away {α:Type} {t k:Nat} {enc:α->List Value} {n₀ bc:Nat} {w w':World} {v:Value} {xs:List α} (h:RecAt t k enc n₀ w v xs) (ho:Off bc w w') (hb:bc<n₀):RecAt t k enc n₀ w' v xs:=
 h.same fun i hi=>ho.block i (h.lt hi).2 (by have:=(h.lt hi).1;omega)
structure Gbox (a:Option Addr) (len cap bc:Nat) (w0 w:World) (v:Value) (ps:List Zt):Prop where
 st:St a len cap bc w
 off:Off bc w0 w
 gt:bc<w0.heap.size
 row:GuildsAt w0.heap.size w v ps
section
variable {a : Option Addr} {len cap bc : Nat} {w0 w w' : World} {v : Value} {ps : List Zt}
theorem Gbox.step (h:Gbox a len cap bc w0 w v ps) (hs:St a len cap bc w') (ho:Off bc w w'):Gbox a len cap bc w0 w' v ps:=⟨hs,h.off.trans ho,h.gt,RecAt.away h.row ho h.gt⟩
theorem Gbox.alloc (h:Gbox a len cap bc w0 w v ps) (o:Obj):Gbox a len cap bc w0 (w.alloc o) v ps:=h.step (h.st.alloc _) ((Off.refl _ _).alloc _)
theorem Gbox.grown (h:Gbox a len cap bc w0 w v ps) {v':Value} {qs:List Zt} (hg:w.grownBy w' v.ownBlock) (hr:GuildsAt w0.heap.size w' v' qs):Gbox a len cap bc w0 w' v' qs:=by
 have hk:∀ k,v.ownBlock=some k->w0.heap.size<=k:=fun k e=>(RecAt.lt h.row e).1;have h1:=h.gt;have h2:=h.off.size;have hb:Below w0.heap.size w w':=(Z1 _ _).grown hg h2 hk;exact ⟨XA h.st (hb.mono (by omega)),Tk h.off hb,h.gt,hr⟩
end
theorem Et (a:Option Addr) (len cap bc:Nat) (w:World) (hs:St a len cap bc w) :
  Calls Tryz.prog 149 #[.pointer (some ⟨bc,0,none⟩)] w fun e w'=> ∃ v ps,e= .returned v/\ps.length<=4/\Gbox a len cap bc w w' v ps:=by
 have Hs:=Z9 hs;have hbc:=WS hs;clear hs;go_enter Tryz.func149,Tryz.ntmps149;go_wp2_with fail;have HE:Hid (GuildsAt w.heap.size (w.alloc (.cells #[] 75)) (.slice (some ⟨w.heap.size,0,none⟩) 0 0) []):=Z9 (Y8 rfl (Z2 _));refine (Draw.below_any a len cap bc 5 (by omega) (by omega) _ ((uh Hs).alloc _)).mono ?_;rintro e w1 ⟨n,rfl,n0,n1,s1,o1⟩;have HG1:Hid (Gbox a len cap bc w w1 (.slice (some ⟨w.heap.size,0,none⟩) 0 0) []):=Z9 (Gbox.step ⟨(uh Hs).alloc _,(Off.refl _ _).alloc _,hbc,uh HE⟩ s1 o1);clear s1 o1 HE;go_wp2_with fail
 go_loopw [3,4] (fun s i wr=> ∃ (k:Nat) (ps:List Zt),ps.length+k<=4/\i= .int .i64 k/\Gbox a len cap bc w wr s ps) (fun _ i _=>(intOf i).toNat)
 case atStart=>exact ⟨n.toNat,[],by simp;omega,by rw [show ((n.toNat:Nat):Int)=n by omega],uh HG1⟩
 case round=>
  obtain ⟨k,ps,hk,rfl,hG⟩:=hrel;obtain ⟨ra,rcap,rfl⟩:=RecAt.shape hG.row;have HG:=Z9 hG;clear hG;by_cases hk0:0<k
  ·go_wp2_with fail
   refine (Draw.below_any a len cap bc 600 (by omega) (by omega) _ (uh HG).st).mono ?_;rintro e w2 ⟨low,rfl,l0,l1,s2,o2⟩;have HG2:=Z9 ((uh HG).step s2 o2);clear s2 o2 HG;go_wp2_with fail;refine (Draw.below_any a len cap bc _ (by omega) (by omega) _ (uh HG2).st).mono ?_;rintro e w3 ⟨ab,rfl,a0,a1,s3,o3⟩;have HG3:=Z9 ((uh HG2).step s3 o3);clear s3 o3 HG2;go_wp2_with fail;refine (Draw.from_any a len cap bc low 1024 (by omega) (by omega) (by omega) _ (uh HG3).st).mono ?_;rintro e w4 ⟨hi,rfl,h0,h1,s4,o4⟩;have HG4:=Z9 ((uh HG3).step s4 o4);have hsz:=(uh HG4).off.size;clear s4 o4 HG3;go_wp2_with (at_builtin;refine ZH DF rfl (.tmp 15) (.tmp 27) 27 Tryz.underlying27 rfl w.heap.size _ _ ps [(ab-1,low,hi)] rfl rfl ((uh HG4).alloc _).row (LI _ _ _ rfl (Z2 _) (by omega)) (by simp;omega) (by simp;omega) ?_;intro v' w5 hown hgrow hat)
   have HG5:=Z9 (((uh HG4).alloc _).grown hgrow hown);clear hown hgrow hat;go_wp2_with fail;go_roundw
   case rel=>exact ⟨k-1,ps++[(ab-1,low,hi)],by simp;omega,by rw [show ((k:Int)-1)=((k-1:Nat):Int) by omega],uh HG5⟩
   case measure=>exact ms
  ·obtain rfl:k=0:=by omega
   go_wp2_with fail;go_ret;exact ⟨_,ps,rfl,by omega,uh HG⟩
end Go.Proofs.YtamgfpdahadnfaaGreatDoor
