/- Part 29 of what the proof rests on. No condition but those that a theorem names. -/
import Derived.Test.YtjhijildaceadaaGreatDoorXg18
set_option maxHeartbeats 8000000
set_option maxRecDepth 100000
namespace Go.Proofs.YtjhijildaceadaaGreatDoor
open Go.ChangeShapes Go.WideShapes Go.ChangeAt Go.RowKit Go.Sort Go.Deep
set_option linter.unusedVariables false
set_option linter.unusedSimpArgs false
variable {w w' w0 w1 w2 w3 w₀ wr W W' X A B C : World} {v v0 v1 v2 v3 v4 u u0 u1 u2 u3 u4 : Value} {m : Z4}
theorem Jr (rank:Int) (w:World):Calls Tryz.prog 72 #[.agg E11,.int .i64 rank] w fun e w'=>e= .returned (.tuple #[.agg E11,.bool false])/\Below w.heap.size w w':=by
 have Hs:Hid (ZG (0,0,0,0,0,0,0,0,0,0,0)=true):=Z9 rfl
 go_enter Tryz.func72,Tryz.ntmps72
 go_wp2_with fail
 refine (Zz 0 0 0 0 0 0 0 0 0 0 0 _).mono ?_
 rw [uh Hs]
 rintro e w1 ⟨rfl,hb⟩
 have kb:Blk w1 w.heap.size 43 E11:=((Blk.new w 43 E11).alloc _).below hb (by simp;omega)
 have ko:Blk w1 (w.heap.size+1) 43 E11:=by
  have k:=Blk.new (w.alloc (.cells E11 43)) 43 E11
  rw [World.size_alloc] at k
  exact k.below hb (by simp)
 have hsz:w.heap.size+2<=w1.heap.size:=by have:=hb.size;simp at this;omega
 have hl0:w.heap.size<w1.heap.size:=by omega
 have hl1:w.heap.size+1<w1.heap.size:=by omega
 have B1:=Z9 ((((Below.refl w.heap.size w).alloc (Nat.le_refl _) _).alloc (by simp) _).trans (hb.mono (by simp;omega)))
 have Kb:=Z9 kb
 have Ko:=Z9 ko
 obtain ⟨c0,c1,c2,c3,c4,c5,c6,c7,c8,c9,c10⟩:=kb.c11
 obtain ⟨o0,o1,o2,o3,o4,o5,o6,o7,o8,o9,o10⟩:=ko.c11
 obtain ⟨of0,of1,of2,of3,of4,of5,of6,of7,of8,of9,of10⟩:=ko.f11
 clear hb kb ko
 go_wp2_with fail
 refine bodyPost_ret (v:= .tuple #[.agg E11,.bool false]) (by simp [results,Tryz.results72,go_sem,o0,o1,o2,o3,o4,o5,o6,o7,o8,o9,o10]) rfl ⟨rfl,?_⟩
 iterate 11 (refine Below.setCell ?_ (by simp) _)
 exact uh B1
theorem LA {st be rk my gu lo hi hd ca ut wk:Int} (rank:Int) (w:World) (hs:ZG (st,be,rk,my,gu,lo,hi,hd,ca,ut,wk)=false):Calls Tryz.prog 72 #[.agg (I11 st be rk my gu lo hi hd ca ut wk),.int .i64 rank] w fun e w'=>e= .returned (.tuple #[.agg E11,.bool false])/\Below w.heap.size w w':=by
 have Hs:=Z9 hs
 clear hs
 go_enter Tryz.func72,Tryz.ntmps72
 go_wp2_with fail
 refine (Zz st be rk my gu lo hi hd ca ut wk _).mono ?_
 rw [uh Hs]
 rintro e w1 ⟨rfl,hb⟩
 have kb:Blk w1 w.heap.size 43 (I11 st be rk my gu lo hi hd ca ut wk):=((Blk.new w 43 (I11 st be rk my gu lo hi hd ca ut wk)).alloc _).below hb (by simp;omega)
 have ko:Blk w1 (w.heap.size+1) 43 E11:=by
  have k:=Blk.new (w.alloc (.cells (I11 st be rk my gu lo hi hd ca ut wk) 43)) 43 E11
  rw [World.size_alloc] at k
  exact k.below hb (by simp)
 have hsz:w.heap.size+2<=w1.heap.size:=by have:=hb.size;simp at this;omega
 have hl0:w.heap.size<w1.heap.size:=by omega
 have hl1:w.heap.size+1<w1.heap.size:=by omega
 have B1:=Z9 ((((Below.refl w.heap.size w).alloc (Nat.le_refl _) _).alloc (by simp) _).trans (hb.mono (by simp;omega)))
 have Kb:=Z9 kb
 have Ko:=Z9 ko
 obtain ⟨c0,c1,c2,c3,c4,c5,c6,c7,c8,c9,c10⟩:=kb.c11
 obtain ⟨o0,o1,o2,o3,o4,o5,o6,o7,o8,o9,o10⟩:=ko.c11
 obtain ⟨of0,of1,of2,of3,of4,of5,of6,of7,of8,of9,of10⟩:=ko.f11
 clear hb kb ko
 go_wp2_with fail
 refine bodyPost_ret (v:= .tuple #[.agg E11,.bool false]) (by simp [results,Tryz.results72,go_sem,o0,o1,o2,o3,o4,o5,o6,o7,o8,o9,o10]) rfl ⟨rfl,?_⟩
 iterate 11 (refine Below.setCell ?_ (by simp) _)
 exact uh B1
theorem Fd {st be rk my gu lo hi hd ca ut wk:Int} (rank:Int) (w:World) (hs:ZG (st,be,rk,my,gu,lo,hi,hd,ca,ut,wk)=true) (hst:(st ==0)=false) (hw:inB rank (-5) 5=false):Calls Tryz.prog 72 #[.agg (I11 st be rk my gu lo hi hd ca ut wk),.int .i64 rank] w fun e w'=>e= .returned (.tuple #[.agg (I11 st be rk my gu lo hi hd ca ut wk),.bool false])/\Below w.heap.size w w':=by
 have Hs:=Z9 hs
 clear hs
 go_enter Tryz.func72,Tryz.ntmps72
 go_wp2_with fail
 refine (Zz st be rk my gu lo hi hd ca ut wk _).mono ?_
 rw [uh Hs]
 rintro e w1 ⟨rfl,hb⟩
 have kb:Blk w1 w.heap.size 43 (I11 st be rk my gu lo hi hd ca ut wk):=((Blk.new w 43 (I11 st be rk my gu lo hi hd ca ut wk)).alloc _).below hb (by simp;omega)
 have ko:Blk w1 (w.heap.size+1) 43 E11:=by
  have k:=Blk.new (w.alloc (.cells (I11 st be rk my gu lo hi hd ca ut wk) 43)) 43 E11
  rw [World.size_alloc] at k
  exact k.below hb (by simp)
 have hsz:w.heap.size+2<=w1.heap.size:=by have:=hb.size;simp at this;omega
 have hl0:w.heap.size<w1.heap.size:=by omega
 have hl1:w.heap.size+1<w1.heap.size:=by omega
 have B1:=Z9 ((((Below.refl w.heap.size w).alloc (Nat.le_refl _) _).alloc (by simp) _).trans (hb.mono (by simp;omega)))
 have Kb:=Z9 kb
 have Ko:=Z9 ko
 obtain ⟨c0,c1,c2,c3,c4,c5,c6,c7,c8,c9,c10⟩:=kb.c11
 obtain ⟨o0,o1,o2,o3,o4,o5,o6,o7,o8,o9,o10⟩:=ko.c11
 obtain ⟨of0,of1,of2,of3,of4,of5,of6,of7,of8,of9,of10⟩:=ko.f11
 clear hb kb ko
 go_wp2_with (go_at_call 153;refine (Zg _ _).mono ?_;rintro e w' ⟨rfl,h9⟩;subst w')
 refine bodyPost_ret (v:= .tuple #[.agg (I11 st be rk my gu lo hi hd ca ut wk),.bool false]) (by simp [results,Tryz.results72,go_sem,o0,o1,o2,o3,o4,o5,o6,o7,o8,o9,o10]) rfl ⟨rfl,?_⟩
 iterate 11 (refine Below.setCell ?_ (by simp) _)
 exact uh B1
theorem Gv {st be rk my gu lo hi hd ca ut wk:Int} {rank x:Int} (hx:Zx rank=x) (x0:335<=x) (x1:x<=3125) (a0:0<=ca) (a1:ca<=3125) (hs:ZG (st,be,rk,my,gu,lo,hi,hd,ca,ut,wk)=true) (hst:(st ==0)=false) (hw:inB rank (-5) 5=true):Calls Tryz.prog 72 #[.agg (I11 st be rk my gu lo hi hd ca ut wk),.int .i64 rank] w fun e w'=>e= .returned (.tuple #[.agg (I11 st be rank my gu lo hi hd (ca%x) ut wk),.bool true])/\Below w.heap.size w w':=by
 have Hs:=Z9 hs
 have Hx:=Z9 hx
 have hne:¬ x=0:=by omega
 clear hx hs
 go_enter Tryz.func72,Tryz.ntmps72
 go_wp2_with fail
 refine (Zz st be rk my gu lo hi hd ca ut wk _).mono ?_
 rw [uh Hs]
 rintro e w1 ⟨rfl,hb⟩
 have kb:Blk w1 w.heap.size 43 (I11 st be rk my gu lo hi hd ca ut wk):=((Blk.new w 43 (I11 st be rk my gu lo hi hd ca ut wk)).alloc _).below hb (by simp;omega)
 have ko:Blk w1 (w.heap.size+1) 43 E11:=by
  have k:=Blk.new (w.alloc (.cells (I11 st be rk my gu lo hi hd ca ut wk) 43)) 43 E11
  rw [World.size_alloc] at k
  exact k.below hb (by simp)
 have hsz:w.heap.size+2<=w1.heap.size:=by have:=hb.size;simp at this;omega
 have hl0:w.heap.size<w1.heap.size:=by omega
 have hl1:w.heap.size+1<w1.heap.size:=by omega
 have B1:=Z9 ((((Below.refl w.heap.size w).alloc (Nat.le_refl _) _).alloc (by simp) _).trans (hb.mono (by simp;omega)))
 have Kb:=Z9 kb
 have Ko:=Z9 ko
 obtain ⟨c0,c1,c2,c3,c4,c5,c6,c7,c8,c9,c10⟩:=kb.c11
 obtain ⟨o0,o1,o2,o3,o4,o5,o6,o7,o8,o9,o10⟩:=ko.c11
 obtain ⟨of0,of1,of2,of3,of4,of5,of6,of7,of8,of9,of10⟩:=ko.f11
 clear hb kb ko
 have bf2:=(uh Kb).free 2
 go_wp2_with (go_at_call 153;refine (Zg _ _).mono ?_;rintro e w' ⟨rfl,h9⟩;subst w')
 have kb:Blk (w1.setCell ⟨w.heap.size,2,none⟩ (.int .i64 rank)) w.heap.size 43 (I11 st be rank my gu lo hi hd ca ut wk):=(uh Kb).set 2 (.int .i64 rank)
 have ko:Blk (w1.setCell ⟨w.heap.size,2,none⟩ (.int .i64 rank)) (w.heap.size+1) 43 E11:=(uh Ko).other (a:=⟨w.heap.size,2,none⟩) (by simp) _
 have B2:=Z9 ((uh B1).setCell (p:=⟨w.heap.size,2,none⟩) (Nat.le_refl _) (.int .i64 rank))
 clear c0 o0 of0 c1 o1 of1 c2 o2 of2 c3 o3 of3 c4 o4 of4 c5 o5 of5 c6 o6 of6 c7 o7 of7 c8 o8 of8 c9 o9 of9 c10 o10 of10 bf2 Kb Ko B1 hsz hl0 hl1
 generalize w1.setCell ⟨w.heap.size,2,none⟩ (.int .i64 rank)=W2 at *
 obtain ⟨c0,c1,c2,c3,c4,c5,c6,c7,c8,c9,c10⟩:=kb.c11
 obtain ⟨o0,o1,o2,o3,o4,o5,o6,o7,o8,o9,o10⟩:=ko.c11
 obtain ⟨of0,of1,of2,of3,of4,of5,of6,of7,of8,of9,of10⟩:=ko.f11
 have bf8:=kb.free 8
 clear kb ko
 go_region_with (go_at_call 154;refine (Zb (uh Hx) _).mono ?_;rintro e w' ⟨rfl,h9⟩;subst w')
 all_goals
  go_wp2_with fail
  refine bodyPost_ret (v:= .tuple #[.agg (I11 st be rank my gu lo hi hd (ca%x) ut wk),.bool true]) (by simp [results,Tryz.results72,go_sem,o0,o1,o2,o3,o4,o5,o6,o7,o8,o9,o10]) rfl ⟨rfl,?_⟩
  refine Below.drew ?_
  iterate 12 (refine Below.setCell ?_ (by simp) _)
  exact uh B2
theorem Ut {x:Z3} (h:Zj x=true):ZG x=true:=by unfold ZG;rw [h,Bool.or_true]
theorem P7 {x:Z3} (rank:Int) (hg:V5 x=true):Yv x rank=(XC,false):=by
 have e:=V6 hg
 subst e
 rfl
theorem Rj {x:Z3} (rank:Int) (hg:V5 x=false) (hp:Zj x=false):Yv x rank=(XC,false):=by unfold Yv;rw [hp,hg];rfl
theorem N9 {x:Z3} {rank:Int} (hp:Zj x=true) (hw:inB rank (-5) 5=false):Yv x rank=(x,false):=by unfold Yv;rw [hp,hw];rfl
theorem Pm {x:Z3} {rank:Int} (hp:Zj x=true) (hw:inB rank (-5) 5=true):Yv x rank=(Pk x rank,true):=by unfold Yv;rw [hp,hw];rfl
theorem Fe {st:Int} (h:1<=st):(st ==0)=false:=by simp;omega
theorem PF {x y:Z3} {rank:Int} {q:Bool} (h:Yv x rank=(y,q)) (w:World):Calls Tryz.prog 72 #[.agg (Z0 x).toArray,.int .i64 rank] w fun e w'=>e= .returned (.tuple #[.agg (Z0 y).toArray,.bool q])/\Below w.heap.size w w':=by
 obtain ⟨st,be,rk,my,gu,lo,hi,hd,ca,ut,wk⟩:=x
 have hz:=LY rank
 cases hg:V5 (st,be,rk,my,gu,lo,hi,hd,ca,ut,wk)
 ·cases hp:Zj (st,be,rk,my,gu,lo,hi,hd,ca,ut,wk)
  ·rw [Rj rank hg hp] at h
   obtain ⟨rfl,rfl⟩:=Prod.mk.inj h
   exact LA rank w (by unfold ZG;rw [hg,hp];rfl)
  ·cases hw:inB rank (-5) 5
   ·rw [N9 hp hw] at h
    obtain ⟨rfl,rfl⟩:=Prod.mk.inj h
    exact Fd rank w (Ut hp) (Fe (Zn hp).1.1) hw
   ·rw [Pm hp hw] at h
    obtain ⟨rfl,rfl⟩:=Prod.mk.inj h
    obtain ⟨⟨s0,s1⟩,_,hr,_,_,_,⟨d0,d1⟩,⟨a0,a1⟩,_,⟨k0,k1⟩⟩:=Zn hp
    have hr0:=Wx hr
    have hr1:=(UW rk).2
    have a2:ca<=3125:=by omega
    have x0:=Wx hw
    have x1:=(UW rank).2
    have hs:ZG (Pk (st,be,rk,my,gu,lo,hi,hd,ca,ut,wk) rank)=true:=Ut (RX hp hw)
    exact Gv rfl x0 x1 a0 a2 (Ut hp) (Fe s0) hw
 ·rw [P7 rank hg] at h
  obtain ⟨rfl,rfl⟩:=Prod.mk.inj h
  cases V6 hg
  exact Jr rank w
open Go.ChangeShapes Go.WideShapes Go.ChangeAt Go.RowKit Go.Sort
theorem PE  (who:Int) (rank:Int) (h:Smy w v0 v1 v2 v3 v4 m) :
  Calls Tryz.prog 20 #[.agg #[v0,v1,v2,v3,v4,.int .i64 m.now],.int .i64 who,.int .i64 rank] w fun e w'=>TX w.heap.size (VA m who rank).1 (VA m who rank).2 e w'/\Below w.heap.size w w':=by
 obtain ⟨X,hX⟩:∃ x,VA m who rank=x:=⟨_,rfl⟩
 rw [hX]
 have HX:=Z9 hX
 clear hX
 have Hv0:=Z9 h
 obtain ⟨a0,p0,a1,p1,a2,p2,a3,p3,a4,p4,rfl,rfl,rfl,rfl,rfl,_,_,_,_,_,_,_,_,_,_⟩:=h.five
 clear h
 obtain ⟨ok,hok⟩:∃ q,ZP m=q:=⟨_,rfl⟩
 have Hok:=Z9 hok
 clear hok
 go_enter Tryz.func20,Tryz.ntmps20
 go_wp2_with fail
 obtain ⟨W,hW,kb,kr,BB⟩:=YQ w 32 (S6 a0 p0 a1 p1 a2 p2 a3 p3 a4 p4 m) 32 E6
 have Hv:=Z9 ((uh Hv0).below (uh BB))
 clear Hv0
 rw [hW]
 clear hW
 refine (Yb (uh Hok) (uh Hv)).mono ?_
 rintro e w1 ⟨rfl,hb⟩
 replace kb:=bl kb hb
 replace kr:=bl kr hb
 replace Hv:=Z9 ((uh Hv).below hb)
 replace BB:=bt BB hb
 clear hb
 cases ok
 ·
  obtain ⟨c0,c1,c2,c3,c4,c5⟩:=(uh kb).c6
  go_wp2_with fail
  clear c0 c1 c2 c3 c4 c5
  refine (YC (uh Hv)).mono ?_
  rintro e w2 ⟨rfl,hb⟩
  replace kb:=bl kb hb
  replace kr:=bl kr hb
  replace Hv:=Z9 ((uh Hv).below hb)
  replace BB:=bt BB hb
  clear hb
  obtain ⟨o0,o1,o2,o3,o4,o5⟩:=(uh kr).c6
  obtain ⟨f0,f1,f2,f3,f4,f5⟩:=(uh kr).f6
  go_wp2_with fail
  have hX0:X=(YM,3):=by rw [<-uh HX];unfold VA;rw [uh Hok];rfl
  refine bodyPost_ret (v:= .tuple #[.agg E6,.int .i64 3]) (by simp [results,Tryz.results20,go_sem, *]) rfl ⟨?_,?_⟩
  ·rw [hX0];exact ⟨_,_,_,_,_,[],rfl,Zd _ _⟩
  ·iterate 6 (refine Below.setCell ?_ (by show _<=w.heap.size+1;omega) _)
   exact uh BB
 have hlo:=ZU (uh Hok)
 have HLo:=Z9 hlo
 have HFew:=Z9 (XO hlo)
 clear hlo
 obtain ⟨c0,c1,c2,c3,c4,c5⟩:=(uh kb).c6
 go_wp2_with fail
 clear c0 c1 c2 c3 c4 c5
 have hWs:w.heap.size+2<=w1.heap.size:=by have:=(uh kr).lt;omega
 refine (ZB (uh Hv) (uh HFew)).mono ?_
 rintro e w2 ⟨y0,y1,y2,y3,y4,oq,rfl,ho,hb⟩
 have k9:=ho.smy
 obtain ⟨b0,q0,b1,q1,b2,q2,b3,q3,b4,q4,rfl,rfl,rfl,rfl,rfl,_,_,_,_,_,_,_,_,_,_⟩:=k9.five
 clear k9
 replace kb:=bl kb hb
 replace kr:=bl kr hb
 replace Hv:=Z9 ((uh Hv).below hb)
 replace BB:=bt BB hb
 have HO:=Z9 (ho.mono hWs)
 have LO:Hid (∀ k,YG (.slice b0 m.rooms.length q0) (.slice b1 m.guilds.length q1) (.slice b2 m.smiths.length q2) (.slice b3 m.desks.length q3) (.slice b4 m.paces.length q4) oq k->w.heap.size+2<=k/\k<w2.heap.size):=Z9 (fun k e=>(uh HO).own e)
 have hsz9:=hb.size
 clear ho hb
 go_upto_region 4 with fail
 obtain ⟨W2,hW2,hba,ko⟩:=ZA w2 32 (S6 b0 q0 b1 q1 b2 q2 b3 q3 b4 q4 m)
 replace kb:=bl kb hba
 replace kr:=bl kr hba
 replace Hv:=Z9 ((uh Hv).below hba)
 replace HO:=Z9 ((uh HO).below hba)
 replace BB:=bt BB hba
 have hob:w.heap.size+2<=w2.heap.size:=Nat.le_trans hWs hsz9
 clear hba hsz9 hWs
 rw [hW2]
 clear hW2
 generalize w2.heap.size=ob at *
 obtain ⟨qw,hqw⟩:∃ q,Xl m who=q:=⟨_,rfl⟩
 have Hqw:=Z9 hqw
 clear hqw
 obtain ⟨c0,c1,c2,c3,c4,c5⟩:=(uh kb).c6
 go_wp2_with fail
 clear c0 c1 c2 c3 c4 c5
 refine (Vs (uh Hqw) (uh Hv)).mono ?_
 rintro e w3 ⟨rfl,hb⟩
 replace kb:=bl kb hb
 replace kr:=bl kr hb
 replace Hv:=Z9 ((uh Hv).below hb)
 replace HO:=Z9 ((uh HO).below hb)
 replace ko:=bl ko hb
 replace BB:=bt BB hb
 clear hb
 cases qw
 ·
  obtain ⟨x0,x1,x2,x3,x4,x5⟩:=(uh ko).c6
  obtain ⟨o0,o1,o2,o3,o4,o5⟩:=(uh kr).c6
  obtain ⟨f0,f1,f2,f3,f4,f5⟩:=(uh kr).f6
  go_wp2_with fail
  have hX0:X=(m,1):=by rw [<-uh HX];unfold VA;rw [uh Hok,uh Hqw];rfl
  refine bodyPost_ret (v:= .tuple #[.agg (S6 b0 q0 b1 q1 b2 q2 b3 q3 b4 q4 m),.int .i64 1]) (by simp [results,Tryz.results20,go_sem, *]) rfl ⟨?_,?_⟩
  ·rw [hX0];refine ⟨_,_,_,_,_,oq,rfl,?_⟩
   iterate 6 (refine FullSmy.set_off ?_ (fun k e=>by have:=(uh LO k e).1;omega) _ _)
   exact (uh HO).mono (by omega)
  ·iterate 6 (refine Below.setCell ?_ (by show _<=w.heap.size+1;omega) _)
   exact uh BB
 obtain ⟨k,rfl,hk,hs0⟩:=Yz (uh Hqw)
 have hk1:(k:Int)<(m.smiths.length:Int):=by omega
 obtain ⟨_,_,hse,_,_,r2⟩:=(uh Hv).smiths
 cases hse
 rcases r2 with e0 | ⟨sb,off,rfl,hbw,hcl⟩
 ·rw [e0] at hk;simp at hk
 obtain ⟨d0,d1,d2,d3,d4,d5,d6,d7,d8,d9,d10⟩:=ZK hcl hk
 clear hcl
 obtain ⟨⟨⟨t0,t1,t2,t3,t4,t5,t6,t7,t8,t9,t10⟩,iq⟩,hre⟩:∃ q,Yv (Z8 m.smiths k) rank=q:=⟨_,rfl⟩
 have Hre:=Z9 hre
 obtain ⟨⟨st,be,rk,my,gu,lo,hi,hd,ca,ut,wk⟩,hrk⟩:∃ d,Z8 m.smiths k=d:=⟨_,rfl⟩
 rw [hrk] at d0 d1 d2 d3 d4 d5 d6 d7 d8 d9 d10 hre
 simp only at d0 d1 d2 d3 d4 d5 d6 d7 d8 d9 d10
 have c2:=(uh kb).cell (i:=2) (v:= .slice (some ⟨sb,off,none⟩) m.smiths.length p2) rfl
 have Hr2:=Z9 hre
 clear hre
 go_wp2_with fail
 refine (PF (uh Hr2) _).mono ?_
 rintro e w4 ⟨rfl,hb⟩
 replace kb:=bl kb hb
 replace kr:=bl kr hb
 replace Hv:=Z9 ((uh Hv).below hb)
 replace HO:=Z9 ((uh HO).below hb)
 replace ko:=bl ko hb
 replace BB:=bt BB hb
 clear hb d0 d1 d2 d3 d4 d5 d6 d7 d8 d9 d10 c2
 simp only [Z0]
 go_upto_region 7 with fail
 obtain ⟨W5,hW5,hba,ks⟩:=ZA w4 43 (I11 t0 t1 t2 t3 t4 t5 t6 t7 t8 t9 t10)
 replace kb:=bl kb hba
 replace kr:=bl kr hba
 replace Hv:=Z9 ((uh Hv).below hba)
 replace HO:=Z9 ((uh HO).below hba)
 replace ko:=bl ko hba
 replace BB:=bt BB hba
 clear hba
 rw [hW5]
 clear hW5
 generalize w4.heap.size=sb5 at *
 cases iq
 ·
  obtain ⟨x0,x1,x2,x3,x4,x5⟩:=(uh ko).c6
  obtain ⟨o0,o1,o2,o3,o4,o5⟩:=(uh kr).c6
  obtain ⟨f0,f1,f2,f3,f4,f5⟩:=(uh kr).f6
  go_wp2_with fail
  have hX0:X=(m,3):=by rw [<-uh HX];unfold VA;rw [uh Hok,uh Hqw];simp only [if_true,Int.toNat_natCast];rw [uh Hre];rfl
  refine bodyPost_ret (v:= .tuple #[.agg (S6 b0 q0 b1 q1 b2 q2 b3 q3 b4 q4 m),.int .i64 3]) (by simp [results,Tryz.results20,go_sem, *]) rfl ⟨?_,?_⟩
  ·rw [hX0];refine ⟨_,_,_,_,_,oq,rfl,?_⟩
   iterate 6 (refine FullSmy.set_off ?_ (fun k e=>by have:=(uh LO k e).1;omega) _ _)
   exact (uh HO).mono (by omega)
  ·iterate 6 (refine Below.setCell ?_ (by show _<=w.heap.size+1;omega) _)
   exact uh BB
 obtain ⟨z0,z1,z2,z3,z4,z5,z6,z7,z8,z9,z10⟩:=(uh ks).c11
 obtain ⟨g2,hga,_,_,hc2,hz2⟩:=RecAt.view ZZ (by omega) (uh HO).smiths rfl (by omega)
 cases hga
 have hg2o:=(uh LO g2 (.inr (.inr (.inr (.inl rfl)))))
 have x2:=(uh ko).cell (i:=2) (v:= .slice (some ⟨g2,0,none⟩) m.smiths.length q2) rfl
 have s0:=hc2 k hk 0 _ rfl
 have g0:=hz2 (k*11+0)
 have s1:=hc2 k hk 1 _ rfl
 have g1:=hz2 (k*11+1)
 have s2:=hc2 k hk 2 _ rfl
 have g2:=hz2 (k*11+2)
 have s3:=hc2 k hk 3 _ rfl
 have g3:=hz2 (k*11+3)
 have s4:=hc2 k hk 4 _ rfl
 have g4:=hz2 (k*11+4)
 have s5:=hc2 k hk 5 _ rfl
 have g5:=hz2 (k*11+5)
 have s6:=hc2 k hk 6 _ rfl
 have g6:=hz2 (k*11+6)
 have s7:=hc2 k hk 7 _ rfl
 have g7:=hz2 (k*11+7)
 have s8:=hc2 k hk 8 _ rfl
 have g8:=hz2 (k*11+8)
 have s9:=hc2 k hk 9 _ rfl
 have g9:=hz2 (k*11+9)
 have s10:=hc2 k hk 10 _ rfl
 have g10:=hz2 (k*11+10)
 simp only [Nat.add_zero] at s0 g0
 have hput:=(uh HO).putW rfl hk ((t0,t1,t2,t3,t4,t5,t6,t7,t8,t9,t10))
 rw [show Z0 ((t0,t1,t2,t3,t4,t5,t6,t7,t8,t9,t10))=[.int .i64 t0,.int .i64 t1,.int .i64 t2,.int .i64 t3,.int .i64 t4,.int .i64 t5,.int .i64 t6,.int .i64 t7,.int .i64 t8,.int .i64 t9,.int .i64 t10] from rfl,Sz] at hput
 have HP:=Z9 hput
 clear hput hc2 hz2 HO
 go_upto_region 10 with fail
 clear x2 s0 g0 s1 g1 s2 g2 s3 g3 s4 g4 s5 g5 s6 g6 s7 g7 s8 g8 s9 g9 s10 g10
 replace ko:Hid (Blk ((((((((((((W5).setCell ⟨g2,k*11,none⟩ (.int .i64 t0)).setCell ⟨g2,k*11+1,none⟩ (.int .i64 t1)).setCell ⟨g2,k*11+2,none⟩ (.int .i64 t2)).setCell ⟨g2,k*11+3,none⟩ (.int .i64 t3)).setCell ⟨g2,k*11+4,none⟩ (.int .i64 t4)).setCell ⟨g2,k*11+5,none⟩ (.int .i64 t5)).setCell ⟨g2,k*11+6,none⟩ (.int .i64 t6)).setCell ⟨g2,k*11+7,none⟩ (.int .i64 t7)).setCell ⟨g2,k*11+8,none⟩ (.int .i64 t8)).setCell ⟨g2,k*11+9,none⟩ (.int .i64 t9)).setCell ⟨g2,k*11+10,none⟩ (.int .i64 t10)) ob 32 (S6 b0 q0 b1 q1 (some ⟨g2,0,none⟩) q2 b3 q3 b4 q4 m)):=Z9 ((((((((((((uh ko).other (a:=⟨g2,k*11,none⟩) (by show ob ≠ g2;omega) (.int .i64 t0)).other (a:=⟨g2,k*11+1,none⟩) (by show ob ≠ g2;omega) (.int .i64 t1)).other (a:=⟨g2,k*11+2,none⟩) (by show ob ≠ g2;omega) (.int .i64 t2)).other (a:=⟨g2,k*11+3,none⟩) (by show ob ≠ g2;omega) (.int .i64 t3)).other (a:=⟨g2,k*11+4,none⟩) (by show ob ≠ g2;omega) (.int .i64 t4)).other (a:=⟨g2,k*11+5,none⟩) (by show ob ≠ g2;omega) (.int .i64 t5)).other (a:=⟨g2,k*11+6,none⟩) (by show ob ≠ g2;omega) (.int .i64 t6)).other (a:=⟨g2,k*11+7,none⟩) (by show ob ≠ g2;omega) (.int .i64 t7)).other (a:=⟨g2,k*11+8,none⟩) (by show ob ≠ g2;omega) (.int .i64 t8)).other (a:=⟨g2,k*11+9,none⟩) (by show ob ≠ g2;omega) (.int .i64 t9)).other (a:=⟨g2,k*11+10,none⟩) (by show ob ≠ g2;omega) (.int .i64 t10))
 replace kr:Hid (Blk ((((((((((((W5).setCell ⟨g2,k*11,none⟩ (.int .i64 t0)).setCell ⟨g2,k*11+1,none⟩ (.int .i64 t1)).setCell ⟨g2,k*11+2,none⟩ (.int .i64 t2)).setCell ⟨g2,k*11+3,none⟩ (.int .i64 t3)).setCell ⟨g2,k*11+4,none⟩ (.int .i64 t4)).setCell ⟨g2,k*11+5,none⟩ (.int .i64 t5)).setCell ⟨g2,k*11+6,none⟩ (.int .i64 t6)).setCell ⟨g2,k*11+7,none⟩ (.int .i64 t7)).setCell ⟨g2,k*11+8,none⟩ (.int .i64 t8)).setCell ⟨g2,k*11+9,none⟩ (.int .i64 t9)).setCell ⟨g2,k*11+10,none⟩ (.int .i64 t10)) (w.heap.size+1) 32 E6):=Z9 ((((((((((((uh kr).other (a:=⟨g2,k*11,none⟩) (by show w.heap.size+1 ≠ g2;omega) (.int .i64 t0)).other (a:=⟨g2,k*11+1,none⟩) (by show w.heap.size+1 ≠ g2;omega) (.int .i64 t1)).other (a:=⟨g2,k*11+2,none⟩) (by show w.heap.size+1 ≠ g2;omega) (.int .i64 t2)).other (a:=⟨g2,k*11+3,none⟩) (by show w.heap.size+1 ≠ g2;omega) (.int .i64 t3)).other (a:=⟨g2,k*11+4,none⟩) (by show w.heap.size+1 ≠ g2;omega) (.int .i64 t4)).other (a:=⟨g2,k*11+5,none⟩) (by show w.heap.size+1 ≠ g2;omega) (.int .i64 t5)).other (a:=⟨g2,k*11+6,none⟩) (by show w.heap.size+1 ≠ g2;omega) (.int .i64 t6)).other (a:=⟨g2,k*11+7,none⟩) (by show w.heap.size+1 ≠ g2;omega) (.int .i64 t7)).other (a:=⟨g2,k*11+8,none⟩) (by show w.heap.size+1 ≠ g2;omega) (.int .i64 t8)).other (a:=⟨g2,k*11+9,none⟩) (by show w.heap.size+1 ≠ g2;omega) (.int .i64 t9)).other (a:=⟨g2,k*11+10,none⟩) (by show w.heap.size+1 ≠ g2;omega) (.int .i64 t10))
 replace BB:Hid (Below w.heap.size w ((((((((((((W5).setCell ⟨g2,k*11,none⟩ (.int .i64 t0)).setCell ⟨g2,k*11+1,none⟩ (.int .i64 t1)).setCell ⟨g2,k*11+2,none⟩ (.int .i64 t2)).setCell ⟨g2,k*11+3,none⟩ (.int .i64 t3)).setCell ⟨g2,k*11+4,none⟩ (.int .i64 t4)).setCell ⟨g2,k*11+5,none⟩ (.int .i64 t5)).setCell ⟨g2,k*11+6,none⟩ (.int .i64 t6)).setCell ⟨g2,k*11+7,none⟩ (.int .i64 t7)).setCell ⟨g2,k*11+8,none⟩ (.int .i64 t8)).setCell ⟨g2,k*11+9,none⟩ (.int .i64 t9)).setCell ⟨g2,k*11+10,none⟩ (.int .i64 t10))):=Z9 ((((((((((((uh BB).setCell (p:=⟨g2,k*11,none⟩) (by show w.heap.size<=g2;omega) (.int .i64 t0)).setCell (p:=⟨g2,k*11+1,none⟩) (by show w.heap.size<=g2;omega) (.int .i64 t1)).setCell (p:=⟨g2,k*11+2,none⟩) (by show w.heap.size<=g2;omega) (.int .i64 t2)).setCell (p:=⟨g2,k*11+3,none⟩) (by show w.heap.size<=g2;omega) (.int .i64 t3)).setCell (p:=⟨g2,k*11+4,none⟩) (by show w.heap.size<=g2;omega) (.int .i64 t4)).setCell (p:=⟨g2,k*11+5,none⟩) (by show w.heap.size<=g2;omega) (.int .i64 t5)).setCell (p:=⟨g2,k*11+6,none⟩) (by show w.heap.size<=g2;omega) (.int .i64 t6)).setCell (p:=⟨g2,k*11+7,none⟩) (by show w.heap.size<=g2;omega) (.int .i64 t7)).setCell (p:=⟨g2,k*11+8,none⟩) (by show w.heap.size<=g2;omega) (.int .i64 t8)).setCell (p:=⟨g2,k*11+9,none⟩) (by show w.heap.size<=g2;omega) (.int .i64 t9)).setCell (p:=⟨g2,k*11+10,none⟩) (by show w.heap.size<=g2;omega) (.int .i64 t10))
 clear kb Hv
 generalize (((((((((((W5).setCell ⟨g2,k*11,none⟩ (.int .i64 t0)).setCell ⟨g2,k*11+1,none⟩ (.int .i64 t1)).setCell ⟨g2,k*11+2,none⟩ (.int .i64 t2)).setCell ⟨g2,k*11+3,none⟩ (.int .i64 t3)).setCell ⟨g2,k*11+4,none⟩ (.int .i64 t4)).setCell ⟨g2,k*11+5,none⟩ (.int .i64 t5)).setCell ⟨g2,k*11+6,none⟩ (.int .i64 t6)).setCell ⟨g2,k*11+7,none⟩ (.int .i64 t7)).setCell ⟨g2,k*11+8,none⟩ (.int .i64 t8)).setCell ⟨g2,k*11+9,none⟩ (.int .i64 t9)).setCell ⟨g2,k*11+10,none⟩ (.int .i64 t10)=W3 at *
 have hfw:=uh HFew
 go_wp2_with fail
 have hofR:∀ k,YG (.slice b0 m.rooms.length q0) (.slice b1 m.guilds.length q1) (.slice (some ⟨g2,0,none⟩) m.smiths.length q2) (.slice b3 m.desks.length q3) (.slice b4 m.paces.length q4) oq k->k ≠ ob:=fun k e=>by have:=(uh LO k e).2;omega
 refine (Zf (m:=setS m k (t0,t1,t2,t3,t4,t5,t6,t7,t8,t9,t10)) (uh ko) (uh HP) (fun e=>hofR _ (.inr (.inr (.inr (.inl e)))) rfl) (fun e=>hofR _ (.inr (.inr (.inr (.inr (.inl e))))) rfl) (by show (m.smiths.set k _).length<=800;have:=hfw.smiths;simp;omega) hfw.desks).mono ?_
 rintro e w5 ⟨rfl,hf9,ht9⟩
 replace kr:=Z9 ((uh kr).two ht9 (fun e=>by have:=(uh LO _ (.inr (.inr (.inr (.inl e))))).1;omega) (fun e=>by have:=(uh LO _ (.inr (.inr (.inr (.inr (.inl e)))))).1;omega))
 replace BB:=Z9 ((uh BB).trans (ht9.below (uh BB).size (fun k e=>by have:=(uh LO k (.inr (.inr (.inr (.inl e))))).1;omega) (fun k e=>by have:=(uh LO k (.inr (.inr (.inr (.inr (.inl e)))))).1;omega)))
 have HF9:=Z9 hf9
 clear hf9 ht9 hofR
 obtain ⟨o0,o1,o2,o3,o4,o5⟩:=(uh kr).c6
 obtain ⟨f0,f1,f2,f3,f4,f5⟩:=(uh kr).f6
 go_wp2_with fail
 have hX0:X=(ZV (setS m k (t0,t1,t2,t3,t4,t5,t6,t7,t8,t9,t10)),0):=by rw [<-uh HX];unfold VA;rw [uh Hok,uh Hqw];simp only [if_true,Int.toNat_natCast];rw [uh Hre];rfl
 have hnow:(ZV (setS m k (t0,t1,t2,t3,t4,t5,t6,t7,t8,t9,t10))).now=m.now:=(ZQ _ _).2.2.2.1
 refine bodyPost_ret (v:= .tuple #[.agg (S6 b0 q0 b1 q1 (some ⟨g2,0,none⟩) q2 b3 q3 b4 q4 m),.int .i64 0]) (by simp [results,Tryz.results20,go_sem,setS,U4,YJ,pushS, *]) rfl ⟨?_,?_⟩
 ·rw [hX0];refine ⟨_,_,_,_,_,oq,by rw [hnow],?_⟩
  iterate 6 (refine FullSmy.set_off ?_ (fun k e=>by have:=(uh LO k e).1;omega) _ _)
  exact (uh HF9).mono (by omega)
 ·iterate 6 (refine Below.setCell ?_ (by show _<=w.heap.size+1;omega) _)
  exact uh BB
end Go.Proofs.YtjhijildaceadaaGreatDoor
