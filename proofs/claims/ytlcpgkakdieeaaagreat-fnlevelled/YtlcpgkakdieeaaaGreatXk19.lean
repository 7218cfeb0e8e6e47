/- Part 19 of what the proof rests on. No condition but those that a theorem names. -/
import Derived.Test.YtlcpgkakdieeaaaGreatXk12
set_option maxHeartbeats 8000000
set_option maxRecDepth 100000
namespace Go.Proofs.YtlcpgkakdieeaaaGreat
open Go.ChangeShapes Go.WideShapes Go.ChangeAt Go.RowKit Go.Sort Go.Deep Go.Proofs.Tryz
set_option linter.unusedVariables false
set_option linter.unusedSimpArgs false
theorem G6 (rank:Int) (w:World):cB 220 #[.agg E11,.int .i64 rank] w (.tuple #[.agg E11,.bool false]):=by
 have Hs:Hid (Zt (0,0,0,0,0,0,0,0,0,0,0)=true):=Z9 rfl;go_enter func220,ntmps220;go_wp2_with fail;refine (Zn 0 0 0 0 0 0 0 0 0 0 0 _).mono ?_;rw [uh Hs];rintro e w1 ⟨rfl,hb⟩;have kb:Blk w1 w.heap.size 42 E11:=((Blk.new w 42 E11).alloc _).below hb (by simp;omega)
 have ko:Blk w1 (w.heap.size+1) 42 E11:=by
  have k:=Blk.new (w.alloc (.cells E11 42)) 42 E11;rw [Yy] at k;exact k.below hb (by simp)
 have hsz:w.heap.size+2<=w1.heap.size:=by have:=hb.size;simp at this;omega
 have hl0:w.heap.size<w1.heap.size:=by omega
 have hl1:w.heap.size+1<w1.heap.size:=by omega
 have B1:=Z9 ((((ZZ w.heap.size w).alloc (Z0 _) _).alloc (by simp) _).trans (hb.mono (by simp;omega)));have Kb:=Z9 kb;have Ko:=Z9 ko;obtain ⟨c0,c1,c2,c3,c4,c5,c6,c7,c8,c9,c10⟩:=kb.c11;obtain ⟨o0,o1,o2,o3,o4,o5,o6,o7,o8,o9,o10⟩:=ko.c11;obtain ⟨of0,of1,of2,of3,of4,of5,of6,of7,of8,of9,of10⟩:=ko.f11;clear hb kb ko;go_wp2_with fail;refine ZE (v:= .tuple #[.agg E11,.bool false]) (by simp [results,results220,go_sem,o0,o1,o2,o3,o4,o5,o6,o7,o8,o9,o10]) rfl ⟨rfl,?_⟩
 iterate 11 (refine XI ?_ (by simp) _)
 exact uh B1
theorem J2 {st be rk my gu lo hi hd ca ut wk:Int} (rank:Int) (w:World) (hs:Zt (st,be,rk,my,gu,lo,hi,hd,ca,ut,wk)=false):cB 220 #[.agg (I11 st be rk my gu lo hi hd ca ut wk),.int .i64 rank] w (.tuple #[.agg E11,.bool false]):=by
 have Hs:=Z9 hs;clear hs;go_enter func220,ntmps220;go_wp2_with fail;refine (Zn st be rk my gu lo hi hd ca ut wk _).mono ?_;rw [uh Hs];rintro e w1 ⟨rfl,hb⟩;have kb:Blk w1 w.heap.size 42 (I11 st be rk my gu lo hi hd ca ut wk):=((Blk.new w 42 (I11 st be rk my gu lo hi hd ca ut wk)).alloc _).below hb (by simp;omega)
 have ko:Blk w1 (w.heap.size+1) 42 E11:=by
  have k:=Blk.new (w.alloc (.cells (I11 st be rk my gu lo hi hd ca ut wk) 42)) 42 E11;rw [Yy] at k;exact k.below hb (by simp)
 have hsz:w.heap.size+2<=w1.heap.size:=by have:=hb.size;simp at this;omega
 have hl0:w.heap.size<w1.heap.size:=by omega
 have hl1:w.heap.size+1<w1.heap.size:=by omega
 have B1:=Z9 ((((ZZ w.heap.size w).alloc (Z0 _) _).alloc (by simp) _).trans (hb.mono (by simp;omega)));have Kb:=Z9 kb;have Ko:=Z9 ko;obtain ⟨c0,c1,c2,c3,c4,c5,c6,c7,c8,c9,c10⟩:=kb.c11;obtain ⟨o0,o1,o2,o3,o4,o5,o6,o7,o8,o9,o10⟩:=ko.c11;obtain ⟨of0,of1,of2,of3,of4,of5,of6,of7,of8,of9,of10⟩:=ko.f11;clear hb kb ko;go_wp2_with fail;refine ZE (v:= .tuple #[.agg E11,.bool false]) (by simp [results,results220,go_sem,o0,o1,o2,o3,o4,o5,o6,o7,o8,o9,o10]) rfl ⟨rfl,?_⟩
 iterate 11 (refine XI ?_ (by simp) _)
 exact uh B1
theorem Dx {st be rk my gu lo hi hd ca ut wk:Int} (rank:Int) (w:World) (hs:Zt (st,be,rk,my,gu,lo,hi,hd,ca,ut,wk)=true) (hst:(st ==0)=false) (hw:inB rank (-5) 5=false):cB 220 #[.agg (I11 st be rk my gu lo hi hd ca ut wk),.int .i64 rank] w (.tuple #[.agg (I11 st be rk my gu lo hi hd ca ut wk),.bool false]):=by
 have Hs:=Z9 hs;clear hs;go_enter func220,ntmps220;go_wp2_with fail;refine (Zn st be rk my gu lo hi hd ca ut wk _).mono ?_;rw [uh Hs];rintro e w1 ⟨rfl,hb⟩;have kb:Blk w1 w.heap.size 42 (I11 st be rk my gu lo hi hd ca ut wk):=((Blk.new w 42 (I11 st be rk my gu lo hi hd ca ut wk)).alloc _).below hb (by simp;omega)
 have ko:Blk w1 (w.heap.size+1) 42 E11:=by
  have k:=Blk.new (w.alloc (.cells (I11 st be rk my gu lo hi hd ca ut wk) 42)) 42 E11;rw [Yy] at k;exact k.below hb (by simp)
 have hsz:w.heap.size+2<=w1.heap.size:=by have:=hb.size;simp at this;omega
 have hl0:w.heap.size<w1.heap.size:=by omega
 have hl1:w.heap.size+1<w1.heap.size:=by omega
 have B1:=Z9 ((((ZZ w.heap.size w).alloc (Z0 _) _).alloc (by simp) _).trans (hb.mono (by simp;omega)));have Kb:=Z9 kb;have Ko:=Z9 ko;obtain ⟨c0,c1,c2,c3,c4,c5,c6,c7,c8,c9,c10⟩:=kb.c11;obtain ⟨o0,o1,o2,o3,o4,o5,o6,o7,o8,o9,o10⟩:=ko.c11;obtain ⟨of0,of1,of2,of3,of4,of5,of6,of7,of8,of9,of10⟩:=ko.f11;clear hb kb ko;go_wp2_with (go_at_call 124;refine (YV _ _).mono ?_;rintro e w' ⟨rfl,h9⟩;subst w')
 refine ZE (v:= .tuple #[.agg (I11 st be rk my gu lo hi hd ca ut wk),.bool false]) (by simp [results,results220,go_sem,o0,o1,o2,o3,o4,o5,o6,o7,o8,o9,o10]) rfl ⟨rfl,?_⟩
 iterate 11 (refine XI ?_ (by simp) _)
 exact uh B1
theorem EP {st be rk my gu lo hi hd ca ut wk:Int} {rank x:Int} {w:World} (hx:Zm rank=x) (x0:335<=x) (x1:x<=3125) (a0:0<=ca) (a1:ca<=3125) (hs:Zt (st,be,rk,my,gu,lo,hi,hd,ca,ut,wk)=true) (hst:(st ==0)=false) (hw:inB rank (-5) 5=true):cB 220 #[.agg (I11 st be rk my gu lo hi hd ca ut wk),.int .i64 rank] w (.tuple #[.agg (I11 st be rank my gu lo hi hd (ca%x) ut wk),.bool true]):=by
 have Hs:=Z9 hs;have Hx:=Z9 hx;have hne:¬ x=0:=by omega
 clear hx hs;go_enter func220,ntmps220;go_wp2_with fail;refine (Zn st be rk my gu lo hi hd ca ut wk _).mono ?_;rw [uh Hs];rintro e w1 ⟨rfl,hb⟩;have kb:Blk w1 w.heap.size 42 (I11 st be rk my gu lo hi hd ca ut wk):=((Blk.new w 42 (I11 st be rk my gu lo hi hd ca ut wk)).alloc _).below hb (by simp;omega)
 have ko:Blk w1 (w.heap.size+1) 42 E11:=by
  have k:=Blk.new (w.alloc (.cells (I11 st be rk my gu lo hi hd ca ut wk) 42)) 42 E11;rw [Yy] at k;exact k.below hb (by simp)
 have hsz:w.heap.size+2<=w1.heap.size:=by have:=hb.size;simp at this;omega
 have hl0:w.heap.size<w1.heap.size:=by omega
 have hl1:w.heap.size+1<w1.heap.size:=by omega
 have B1:=Z9 ((((ZZ w.heap.size w).alloc (Z0 _) _).alloc (by simp) _).trans (hb.mono (by simp;omega)));have Kb:=Z9 kb;have Ko:=Z9 ko;obtain ⟨c0,c1,c2,c3,c4,c5,c6,c7,c8,c9,c10⟩:=kb.c11;obtain ⟨o0,o1,o2,o3,o4,o5,o6,o7,o8,o9,o10⟩:=ko.c11;obtain ⟨of0,of1,of2,of3,of4,of5,of6,of7,of8,of9,of10⟩:=ko.f11;clear hb kb ko;have bf2:=(uh Kb).free 2;go_wp2_with (go_at_call 124;refine (YV _ _).mono ?_;rintro e w' ⟨rfl,h9⟩;subst w')
 have kb:Blk (w1.setCell ⟨w.heap.size,2,none⟩ (.int .i64 rank)) w.heap.size 42 (I11 st be rank my gu lo hi hd ca ut wk):=(uh Kb).set 2 (.int .i64 rank);have ko:Blk (w1.setCell ⟨w.heap.size,2,none⟩ (.int .i64 rank)) (w.heap.size+1) 42 E11:=(uh Ko).other (a:=⟨w.heap.size,2,none⟩) (by simp) _;have B2:=Z9 ((uh B1).setCell (p:=⟨w.heap.size,2,none⟩) (Z0 _) (.int .i64 rank));clear c0 o0 of0 c1 o1 of1 c2 o2 of2 c3 o3 of3 c4 o4 of4 c5 o5 of5 c6 o6 of6 c7 o7 of7 c8 o8 of8 c9 o9 of9 c10 o10 of10 bf2 Kb Ko B1 hsz hl0 hl1;generalize w1.setCell ⟨w.heap.size,2,none⟩ (.int .i64 rank)=W2 at *;obtain ⟨c0,c1,c2,c3,c4,c5,c6,c7,c8,c9,c10⟩:=kb.c11;obtain ⟨o0,o1,o2,o3,o4,o5,o6,o7,o8,o9,o10⟩:=ko.c11;obtain ⟨of0,of1,of2,of3,of4,of5,of6,of7,of8,of9,of10⟩:=ko.f11;have bf8:=kb.free 8;clear kb ko
 go_region_with (go_at_call 125;refine (YK (uh Hx) _).mono ?_;rintro e w' ⟨rfl,h9⟩;subst w')
 all_goals
  go_wp2_with fail;refine ZE (v:= .tuple #[.agg (I11 st be rank my gu lo hi hd (ca%x) ut wk),.bool true]) (by simp [results,results220,go_sem,o0,o1,o2,o3,o4,o5,o6,o7,o8,o9,o10]) rfl ⟨rfl,?_⟩;refine Below.drew ?_
  iterate 12 (refine XI ?_ (by simp) _)
  exact uh B2
theorem Ty {x:Z2} (h:YY x=true):Zt x=true:=by unfold Zt;rw [h,Bool.or_true]
theorem Pc {x:Z2} (rank:Int) (hg:Vk x=true):Yb x rank=(Ub,false):=by
 have e:=Vl hg;subst e;rfl
theorem Qh {x:Z2} (rank:Int) (hg:Vk x=false) (hp:YY x=false):Yb x rank=(Ub,false):=by unfold Yb;rw [hp,hg];rfl
theorem MQ {x:Z2} {rank:Int} (hp:YY x=true) (hw:inB rank (-5) 5=false):Yb x rank=(x,false):=by unfold Yb;rw [hp,hw];rfl
theorem On {x:Z2} {rank:Int} (hp:YY x=true) (hw:inB rank (-5) 5=true):Yb x rank=(Ok x rank,true):=by unfold Yb;rw [hp,hw];rfl
theorem Dy {st:Int} (h:1<=st):(st ==0)=false:=by simp;omega
theorem OG {x y:Z2} {rank:Int} {q:Bool} (h:Yb x rank=(y,q)) (w:World):cB 220 #[.agg (ZS x).toArray,.int .i64 rank] w (.tuple #[.agg (ZS y).toArray,.bool q]):=by
 obtain ⟨st,be,rk,my,gu,lo,hi,hd,ca,ut,wk⟩:=x;have hz:=Kj rank;cases hg:Vk (st,be,rk,my,gu,lo,hi,hd,ca,ut,wk)
 ·cases hp:YY (st,be,rk,my,gu,lo,hi,hd,ca,ut,wk)
  ·rw [Qh rank hg hp] at h
   obtain ⟨rfl,rfl⟩:=Prod.mk.inj h;exact J2 rank w (by unfold Zt;rw [hg,hp];rfl)
  ·cases hw:inB rank (-5) 5
   ·rw [MQ hp hw] at h
    obtain ⟨rfl,rfl⟩:=Prod.mk.inj h;exact Dx rank w (Ty hp) (Dy (Zd hp).1.1) hw
   ·rw [On hp hw] at h
    obtain ⟨rfl,rfl⟩:=Prod.mk.inj h;obtain ⟨⟨s0,s1⟩,_,hr,_,_,_,⟨d0,d1⟩,⟨a0,a1⟩,_,⟨k0,k1⟩⟩:=Zd hp;have hr0:=VI hr;have hr1:=(Ua rk).2;have a2:ca<=3125:=by omega
    have x0:=VI hw;have x1:=(Ua rank).2;have hs:Zt (Ok (st,be,rk,my,gu,lo,hi,hd,ca,ut,wk) rank)=true:=Ty (QW hp hw);exact EP rfl x0 x1 a0 a2 (Ty hp) (Dy s0) hw
 ·rw [Pc rank hg] at h
  obtain ⟨rfl,rfl⟩:=Prod.mk.inj h;cases Vl hg;exact G6 rank w
end Go.Proofs.YtlcpgkakdieeaaaGreat
