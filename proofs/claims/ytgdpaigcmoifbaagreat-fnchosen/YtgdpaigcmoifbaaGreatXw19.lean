/- Part 19 of what the proof rests on. No condition but those that a theorem names. -/
import Derived.Test.YtgdpaigcmoifbaaGreatXw12
set_option maxHeartbeats 8000000
set_option maxRecDepth 100000
namespace Go.Proofs.YtgdpaigcmoifbaaGreat
open Go.ChangeShapes Go.WideShapes Go.ChangeAt Go.RowKit Go.Sort Go.Deep Go.Proofs.Tryz
set_option linter.unusedVariables false
set_option linter.unusedSimpArgs false
theorem E7 (rank:Int) (w:World):cB 308 #[.agg E11,.int .i64 rank] w (.tuple #[.agg E11,.bool false]):=by
 have Hs:Hid (Zm (0,0,0,0,0,0,0,0,0,0,0)=true):=Z9 rfl;go_enter func308,ntmps308;go_wp2_with fail;refine (Zd 0 0 0 0 0 0 0 0 0 0 0 _).mono ?_;rw [uh Hs];rintro e w1 ⟨rfl,hb⟩;have kb:Blk w1 w.heap.size 38 E11:=((Blk.new w 38 E11).alloc _).below hb (by simp;omega)
 have ko:Blk w1 (w.heap.size+1) 38 E11:=by
  have k:=Blk.new (w.alloc (.cells E11 38)) 38 E11;rw [XG] at k;exact k.below hb (by simp)
 have hsz:w.heap.size+2<=w1.heap.size:=by have:=hb.size;simp at this;omega
 have hl0:w.heap.size<w1.heap.size:=by omega
 have hl1:w.heap.size+1<w1.heap.size:=by omega
 have B1:=Z9 ((((Z3 w.heap.size w).alloc (Z0 _) _).alloc (by simp) _).trans (hb.mono (by simp;omega)));have Kb:=Z9 kb;have Ko:=Z9 ko;obtain ⟨c0,c1,c2,c3,c4,c5,c6,c7,c8,c9,c10⟩:=kb.c11;obtain ⟨o0,o1,o2,o3,o4,o5,o6,o7,o8,o9,o10⟩:=ko.c11;obtain ⟨of0,of1,of2,of3,of4,of5,of6,of7,of8,of9,of10⟩:=ko.f11;clear hb kb ko;go_wp2_with fail;refine Zz (v:= .tuple #[.agg E11,.bool false]) (by simp [results,results308,go_sem,o0,o1,o2,o3,o4,o5,o6,o7,o8,o9,o10]) rfl ⟨rfl,?_⟩
 iterate 11 (refine Yv ?_ (by simp) _)
 exact uh B1
theorem Ip {st be rk my gu lo hi hd ca ut wk:Int} (rank:Int) (w:World) (hs:Zm (st,be,rk,my,gu,lo,hi,hd,ca,ut,wk)=false):cB 308 #[.agg (I11 st be rk my gu lo hi hd ca ut wk),.int .i64 rank] w (.tuple #[.agg E11,.bool false]):=by
 have Hs:=Z9 hs;clear hs;go_enter func308,ntmps308;go_wp2_with fail;refine (Zd st be rk my gu lo hi hd ca ut wk _).mono ?_;rw [uh Hs];rintro e w1 ⟨rfl,hb⟩;have kb:Blk w1 w.heap.size 38 (I11 st be rk my gu lo hi hd ca ut wk):=((Blk.new w 38 (I11 st be rk my gu lo hi hd ca ut wk)).alloc _).below hb (by simp;omega)
 have ko:Blk w1 (w.heap.size+1) 38 E11:=by
  have k:=Blk.new (w.alloc (.cells (I11 st be rk my gu lo hi hd ca ut wk) 38)) 38 E11;rw [XG] at k;exact k.below hb (by simp)
 have hsz:w.heap.size+2<=w1.heap.size:=by have:=hb.size;simp at this;omega
 have hl0:w.heap.size<w1.heap.size:=by omega
 have hl1:w.heap.size+1<w1.heap.size:=by omega
 have B1:=Z9 ((((Z3 w.heap.size w).alloc (Z0 _) _).alloc (by simp) _).trans (hb.mono (by simp;omega)));have Kb:=Z9 kb;have Ko:=Z9 ko;obtain ⟨c0,c1,c2,c3,c4,c5,c6,c7,c8,c9,c10⟩:=kb.c11;obtain ⟨o0,o1,o2,o3,o4,o5,o6,o7,o8,o9,o10⟩:=ko.c11;obtain ⟨of0,of1,of2,of3,of4,of5,of6,of7,of8,of9,of10⟩:=ko.f11;clear hb kb ko;go_wp2_with fail;refine Zz (v:= .tuple #[.agg E11,.bool false]) (by simp [results,results308,go_sem,o0,o1,o2,o3,o4,o5,o6,o7,o8,o9,o10]) rfl ⟨rfl,?_⟩
 iterate 11 (refine Yv ?_ (by simp) _)
 exact uh B1
theorem Bc {st be rk my gu lo hi hd ca ut wk:Int} (rank:Int) (w:World) (hs:Zm (st,be,rk,my,gu,lo,hi,hd,ca,ut,wk)=true) (hst:(st ==0)=false) (hw:inB rank (-5) 5=false):cB 308 #[.agg (I11 st be rk my gu lo hi hd ca ut wk),.int .i64 rank] w (.tuple #[.agg (I11 st be rk my gu lo hi hd ca ut wk),.bool false]):=by
 have Hs:=Z9 hs;clear hs;go_enter func308,ntmps308;go_wp2_with fail;refine (Zd st be rk my gu lo hi hd ca ut wk _).mono ?_;rw [uh Hs];rintro e w1 ⟨rfl,hb⟩;have kb:Blk w1 w.heap.size 38 (I11 st be rk my gu lo hi hd ca ut wk):=((Blk.new w 38 (I11 st be rk my gu lo hi hd ca ut wk)).alloc _).below hb (by simp;omega)
 have ko:Blk w1 (w.heap.size+1) 38 E11:=by
  have k:=Blk.new (w.alloc (.cells (I11 st be rk my gu lo hi hd ca ut wk) 38)) 38 E11;rw [XG] at k;exact k.below hb (by simp)
 have hsz:w.heap.size+2<=w1.heap.size:=by have:=hb.size;simp at this;omega
 have hl0:w.heap.size<w1.heap.size:=by omega
 have hl1:w.heap.size+1<w1.heap.size:=by omega
 have B1:=Z9 ((((Z3 w.heap.size w).alloc (Z0 _) _).alloc (by simp) _).trans (hb.mono (by simp;omega)));have Kb:=Z9 kb;have Ko:=Z9 ko;obtain ⟨c0,c1,c2,c3,c4,c5,c6,c7,c8,c9,c10⟩:=kb.c11;obtain ⟨o0,o1,o2,o3,o4,o5,o6,o7,o8,o9,o10⟩:=ko.c11;obtain ⟨of0,of1,of2,of3,of4,of5,of6,of7,of8,of9,of10⟩:=ko.f11;clear hb kb ko;go_wp2_with (go_at_call 194;refine (YG _ _).mono ?_;rintro e w' ⟨rfl,h9⟩;subst w')
 refine Zz (v:= .tuple #[.agg (I11 st be rk my gu lo hi hd ca ut wk),.bool false]) (by simp [results,results308,go_sem,o0,o1,o2,o3,o4,o5,o6,o7,o8,o9,o10]) rfl ⟨rfl,?_⟩
 iterate 11 (refine Yv ?_ (by simp) _)
 exact uh B1
theorem CB {st be rk my gu lo hi hd ca ut wk:Int} {rank x:Int} {w:World} (hx:Zb rank=x) (x0:335<=x) (x1:x<=3125) (a0:0<=ca) (a1:ca<=3125) (hs:Zm (st,be,rk,my,gu,lo,hi,hd,ca,ut,wk)=true) (hst:(st ==0)=false) (hw:inB rank (-5) 5=true):cB 308 #[.agg (I11 st be rk my gu lo hi hd ca ut wk),.int .i64 rank] w (.tuple #[.agg (I11 st be rank my gu lo hi hd (ca%x) ut wk),.bool true]):=by
 have Hs:=Z9 hs;have Hx:=Z9 hx;have hne:¬ x=0:=by omega
 clear hx hs;go_enter func308,ntmps308;go_wp2_with fail;refine (Zd st be rk my gu lo hi hd ca ut wk _).mono ?_;rw [uh Hs];rintro e w1 ⟨rfl,hb⟩;have kb:Blk w1 w.heap.size 38 (I11 st be rk my gu lo hi hd ca ut wk):=((Blk.new w 38 (I11 st be rk my gu lo hi hd ca ut wk)).alloc _).below hb (by simp;omega)
 have ko:Blk w1 (w.heap.size+1) 38 E11:=by
  have k:=Blk.new (w.alloc (.cells (I11 st be rk my gu lo hi hd ca ut wk) 38)) 38 E11;rw [XG] at k;exact k.below hb (by simp)
 have hsz:w.heap.size+2<=w1.heap.size:=by have:=hb.size;simp at this;omega
 have hl0:w.heap.size<w1.heap.size:=by omega
 have hl1:w.heap.size+1<w1.heap.size:=by omega
 have B1:=Z9 ((((Z3 w.heap.size w).alloc (Z0 _) _).alloc (by simp) _).trans (hb.mono (by simp;omega)));have Kb:=Z9 kb;have Ko:=Z9 ko;obtain ⟨c0,c1,c2,c3,c4,c5,c6,c7,c8,c9,c10⟩:=kb.c11;obtain ⟨o0,o1,o2,o3,o4,o5,o6,o7,o8,o9,o10⟩:=ko.c11;obtain ⟨of0,of1,of2,of3,of4,of5,of6,of7,of8,of9,of10⟩:=ko.f11;clear hb kb ko;have bf2:=(uh Kb).free 2;go_wp2_with (go_at_call 194;refine (YG _ _).mono ?_;rintro e w' ⟨rfl,h9⟩;subst w')
 have kb:Blk (w1.setCell ⟨w.heap.size,2,none⟩ (.int .i64 rank)) w.heap.size 38 (I11 st be rank my gu lo hi hd ca ut wk):=(uh Kb).set 2 (.int .i64 rank);have ko:Blk (w1.setCell ⟨w.heap.size,2,none⟩ (.int .i64 rank)) (w.heap.size+1) 38 E11:=(uh Ko).other (a:=⟨w.heap.size,2,none⟩) (by simp) _;have B2:=Z9 ((uh B1).setCell (p:=⟨w.heap.size,2,none⟩) (Z0 _) (.int .i64 rank));clear c0 o0 of0 c1 o1 of1 c2 o2 of2 c3 o3 of3 c4 o4 of4 c5 o5 of5 c6 o6 of6 c7 o7 of7 c8 o8 of8 c9 o9 of9 c10 o10 of10 bf2 Kb Ko B1 hsz hl0 hl1;generalize w1.setCell ⟨w.heap.size,2,none⟩ (.int .i64 rank)=W2 at *;obtain ⟨c0,c1,c2,c3,c4,c5,c6,c7,c8,c9,c10⟩:=kb.c11;obtain ⟨o0,o1,o2,o3,o4,o5,o6,o7,o8,o9,o10⟩:=ko.c11;obtain ⟨of0,of1,of2,of3,of4,of5,of6,of7,of8,of9,of10⟩:=ko.f11;have bf8:=kb.free 8;clear kb ko
 go_region_with (go_at_call 196;refine (Yu (uh Hx) _).mono ?_;rintro e w' ⟨rfl,h9⟩;subst w')
 all_goals
  go_wp2_with fail;refine Zz (v:= .tuple #[.agg (I11 st be rank my gu lo hi hd (ca%x) ut wk),.bool true]) (by simp [results,results308,go_sem,o0,o1,o2,o3,o4,o5,o6,o7,o8,o9,o10]) rfl ⟨rfl,?_⟩;refine Below.drew ?_
  iterate 12 (refine Yv ?_ (by simp) _)
  exact uh B2
theorem SE {x:Z2} (h:YN x=true):Zm x=true:=by unfold Zm;rw [h,Bool.or_true]
theorem NV {x:Z2} (rank:Int) (hg:US x=true):XM x rank=(Tf,false):=by
 have e:=UT hg;subst e;rfl
theorem O8 {x:Z2} (rank:Int) (hg:US x=false) (hp:YN x=false):XM x rank=(Tf,false):=by unfold XM;rw [hp,hg];rfl
theorem K8 {x:Z2} {rank:Int} (hp:YN x=true) (hw:inB rank (-5) 5=false):XM x rank=(x,false):=by unfold XM;rw [hp,hw];rfl
theorem MI {x:Z2} {rank:Int} (hp:YN x=true) (hw:inB rank (-5) 5=true):XM x rank=(MG x rank,true):=by unfold XM;rw [hp,hw];rfl
theorem Bd {st:Int} (h:1<=st):(st ==0)=false:=by simp;omega
theorem M6 {x y:Z2} {rank:Int} {q:Bool} (h:XM x rank=(y,q)) (w:World):cB 308 #[.agg (ZR x).toArray,.int .i64 rank] w (.tuple #[.agg (ZR y).toArray,.bool q]):=by
 obtain ⟨st,be,rk,my,gu,lo,hi,hd,ca,ut,wk⟩:=x;have hz:=IF rank;cases hg:US (st,be,rk,my,gu,lo,hi,hd,ca,ut,wk)
 ·cases hp:YN (st,be,rk,my,gu,lo,hi,hd,ca,ut,wk)
  ·rw [O8 rank hg hp] at h
   obtain ⟨rfl,rfl⟩:=Prod.mk.inj h;exact Ip rank w (by unfold Zm;rw [hg,hp];rfl)
  ·cases hw:inB rank (-5) 5
   ·rw [K8 hp hw] at h
    obtain ⟨rfl,rfl⟩:=Prod.mk.inj h;exact Bc rank w (SE hp) (Bd (Y2 hp).1.1) hw
   ·rw [MI hp hw] at h
    obtain ⟨rfl,rfl⟩:=Prod.mk.inj h;obtain ⟨⟨s0,s1⟩,_,hr,_,_,_,⟨d0,d1⟩,⟨a0,a1⟩,_,⟨k0,k1⟩⟩:=Y2 hp;have hr0:=Vq hr;have hr1:=(Te rk).2;have a2:ca<=3125:=by omega
    have x0:=Vq hw;have x1:=(Te rank).2;have hs:Zm (MG (st,be,rk,my,gu,lo,hi,hd,ca,ut,wk) rank)=true:=SE (PI hp hw);exact CB rfl x0 x1 a0 a2 (SE hp) (Bd s0) hw
 ·rw [NV rank hg] at h
  obtain ⟨rfl,rfl⟩:=Prod.mk.inj h;cases UT hg;exact E7 rank w
end Go.Proofs.YtgdpaigcmoifbaaGreat
