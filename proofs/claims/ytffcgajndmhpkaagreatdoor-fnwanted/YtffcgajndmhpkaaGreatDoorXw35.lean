/- Part 35 of what the proof rests on. No condition but those that a theorem names. -/
import Derived.Test.YtffcgajndmhpkaaGreatDoorXw16
set_option maxHeartbeats 8000000
set_option maxRecDepth 100000
namespace Go.Proofs.YtffcgajndmhpkaaGreatDoor
open Go.ChangeShapes Go.WideShapes Go.ChangeAt Go.RowKit Go.Sort
set_option linter.unusedVariables false
set_option linter.unusedSimpArgs false
variable {w w' w0 w1 w2 w3 w₀ wr W W' X A B C : World} {v v0 v1 v2 v3 v4 u u0 u1 u2 u3 u4 : Value} {m : Z4}
theorem Ns  (who:Int) (h:Smy w v0 v1 v2 v3 v4 m) :
  Calls Tryz.prog 246 #[.agg #[v0,v1,v2,v3,v4,.int .i64 m.now],.int .i64 who] w fun e w'=>TC w.heap.size (UK m who).1 (UK m who).2 e w'/\Below w.heap.size w w':=by
 obtain ⟨X,hX⟩:∃ x,UK m who=x:=⟨_,rfl⟩
 rw [hX]
 have HX:=Z9 hX
 clear hX
 have Hv0:=Z9 h
 obtain ⟨a0,p0,a1,p1,a2,p2,a3,p3,a4,p4,rfl,rfl,rfl,rfl,rfl,_,_,_,_,_,_,_,_,_,_⟩:=h.five
 clear h
 obtain ⟨ok,hok⟩:∃ q,ZP m=q:=⟨_,rfl⟩
 have Hok:=Z9 hok
 clear hok
 go_enter Tryz.func246,Tryz.ntmps246
 go_wp2_with fail
 obtain ⟨W,hW,kb,kr,BB⟩:=YS w 32 (S6 a0 p0 a1 p1 a2 p2 a3 p3 a4 p4 m) 32 E6
 have Hv:=Z9 ((uh Hv0).below (uh BB))
 clear Hv0
 rw [hW]
 clear hW
 refine ck (XX (uh Hok) (uh Hv)) fun w1 hb=> ?_
 replace kb:=bl kb hb
 replace kr:=bl kr hb
 replace Hv:=Z9 ((uh Hv).below hb)
 replace BB:=bt BB hb
 clear hb
 cases ok
 ·
  obtain ⟨c0,c1,c2,c3,c4,c5⟩:=(uh kb).c6
  go_wp2_with fail
  clear c0 c1 c2 c3 c4 c5
  refine ck (Yy (uh Hv)) fun w2 hb=> ?_
  replace kb:=bl kb hb
  replace kr:=bl kr hb
  replace Hv:=Z9 ((uh Hv).below hb)
  replace BB:=bt BB hb
  clear hb
  obtain ⟨o0,o1,o2,o3,o4,o5⟩:=(uh kr).c6
  obtain ⟨f0,f1,f2,f3,f4,f5⟩:=(uh kr).f6
  go_wp2_with fail
  have hX0:X=(YJ,3):=by rw [<-uh HX];unfold UK;rw [uh Hok];rfl
  exact bodyPost_ret (v:= .tuple #[.agg E6,.int .i64 3]) (by simp [results,Tryz.results246,go_sem, *]) rfl (Zr hX0 rfl (Y1 _ _) (uh BB))
 have hlo:=ZY (uh Hok)
 have HLo:=Z9 hlo
 have HFew:=Z9 (XJ hlo)
 clear hlo
 obtain ⟨c0,c1,c2,c3,c4,c5⟩:=(uh kb).c6
 go_wp2_with fail
 clear c0 c1 c2 c3 c4 c5
 refine (U2 (uh Hv) (uh HFew) (uh kb) (uh kr) (uh BB)).mono ?_
 clear kb kr Hv BB
 rintro e w2 ⟨b0,q0,b1,q1,b2,q2,b3,q3,b4,q4,oq,rfl,W2,ob,hW2,hob2,kb,kr,Hv,HO,ko,LO,hob,BB⟩
 go_upto_region 4 with fail
 (try rw [hW2])
 (try rw [hob2])
 clear hW2 hob2
 obtain ⟨qw,hqw⟩:∃ q,UP m who=q:=⟨_,rfl⟩
 have Hqw:=Z9 hqw
 clear hqw
 obtain ⟨c0,c1,c2,c3,c4,c5⟩:=(uh kb).c6
 go_wp2_with fail
 clear c0 c1 c2 c3 c4 c5
 refine ck (Va (uh Hqw) (uh Hv)) fun w3 hb=> ?_
 replace kb:=bl kb hb
 replace kr:=bl kr hb
 replace Hv:=Z9 ((uh Hv).below hb)
 replace HO:=Z9 ((uh HO).below hb)
 replace ko:=bl ko hb
 replace BB:=bt BB hb
 clear hb
 cases qw
 ·
  obtain ⟨x0,x1,x2,x3,x4,x5⟩:=(uh ko).c6
  obtain ⟨o0,o1,o2,o3,o4,o5⟩:=(uh kr).c6
  obtain ⟨f0,f1,f2,f3,f4,f5⟩:=(uh kr).f6
  go_wp2_with fail
  have hX0:X=(m,1):=by rw [<-uh HX];unfold UK;rw [uh Hok,uh Hqw];rfl
  exact bodyPost_ret (v:= .tuple #[.agg (S6 b0 q0 b1 q1 b2 q2 b3 q3 b4 q4 m),.int .i64 1]) (by simp [results,Tryz.results246,go_sem, *]) rfl (Zr hX0 rfl (uh HO) (uh BB))
 obtain ⟨k,rfl,hk,hs0⟩:=Xj (uh Hqw)
 have hk1:(k:Int)<(m.smiths.length:Int):=by omega
 obtain ⟨g2,hga,_,_,hc2,hz2⟩:=RecAt.view ZT (by omega) (uh HO).smiths rfl (by omega)
 cases hga
 have hg2o:=(uh LO g2 (.inr (.inr (.inr (.inl rfl)))))
 have x2:=(uh ko).cell (i:=2) (v:= .slice (some ⟨g2,0,none⟩) m.smiths.length q2) rfl
 have s0:=hc2 k hk 0 _ rfl
 have g0:=hz2 (k*11+0)
 have s1:=hc2 k hk 1 _ rfl
 have g1:=hz2 (k*11+1)
 have s2:=hc2 k hk 2 _ rfl
 have g2:=hz2 (k*11+2)
 have s3:=hc2 k hk 3 _ rfl
 have g3:=hz2 (k*11+3)
 have s4:=hc2 k hk 4 _ rfl
 have g4:=hz2 (k*11+4)
 have s5:=hc2 k hk 5 _ rfl
 have g5:=hz2 (k*11+5)
 have s6:=hc2 k hk 6 _ rfl
 have g6:=hz2 (k*11+6)
 have s7:=hc2 k hk 7 _ rfl
 have g7:=hz2 (k*11+7)
 have s8:=hc2 k hk 8 _ rfl
 have g8:=hz2 (k*11+8)
 have s9:=hc2 k hk 9 _ rfl
 have g9:=hz2 (k*11+9)
 have s10:=hc2 k hk 10 _ rfl
 have g10:=hz2 (k*11+10)
 simp only [Nat.add_zero] at s0 g0
 have hput:=(uh HO).putW rfl hk (V8)
 rw [show ZV (V8)=[.int .i64 0,.int .i64 0,.int .i64 0,.int .i64 0,.int .i64 0,.int .i64 0,.int .i64 0,.int .i64 0,.int .i64 0,.int .i64 0,.int .i64 0] from rfl,QQ] at hput
 have HP:=Z9 hput
 clear hput hc2 hz2 HO
 go_upto_region 7 with fail
 clear x2 s0 g0 s1 g1 s2 g2 s3 g3 s4 g4 s5 g5 s6 g6 s7 g7 s8 g8 s9 g9 s10 g10
 replace ko:Hid (Blk ((((((((((((w3).setCell ⟨g2,k*11,none⟩ (.int .i64 0)).setCell ⟨g2,k*11+1,none⟩ (.int .i64 0)).setCell ⟨g2,k*11+2,none⟩ (.int .i64 0)).setCell ⟨g2,k*11+3,none⟩ (.int .i64 0)).setCell ⟨g2,k*11+4,none⟩ (.int .i64 0)).setCell ⟨g2,k*11+5,none⟩ (.int .i64 0)).setCell ⟨g2,k*11+6,none⟩ (.int .i64 0)).setCell ⟨g2,k*11+7,none⟩ (.int .i64 0)).setCell ⟨g2,k*11+8,none⟩ (.int .i64 0)).setCell ⟨g2,k*11+9,none⟩ (.int .i64 0)).setCell ⟨g2,k*11+10,none⟩ (.int .i64 0)) ob 32 (S6 b0 q0 b1 q1 (some ⟨g2,0,none⟩) q2 b3 q3 b4 q4 m)):=Z9 ((((((((((((uh ko).other (a:=⟨g2,k*11,none⟩) (by show ob ≠ g2;omega) (.int .i64 0)).other (a:=⟨g2,k*11+1,none⟩) (by show ob ≠ g2;omega) (.int .i64 0)).other (a:=⟨g2,k*11+2,none⟩) (by show ob ≠ g2;omega) (.int .i64 0)).other (a:=⟨g2,k*11+3,none⟩) (by show ob ≠ g2;omega) (.int .i64 0)).other (a:=⟨g2,k*11+4,none⟩) (by show ob ≠ g2;omega) (.int .i64 0)).other (a:=⟨g2,k*11+5,none⟩) (by show ob ≠ g2;omega) (.int .i64 0)).other (a:=⟨g2,k*11+6,none⟩) (by show ob ≠ g2;omega) (.int .i64 0)).other (a:=⟨g2,k*11+7,none⟩) (by show ob ≠ g2;omega) (.int .i64 0)).other (a:=⟨g2,k*11+8,none⟩) (by show ob ≠ g2;omega) (.int .i64 0)).other (a:=⟨g2,k*11+9,none⟩) (by show ob ≠ g2;omega) (.int .i64 0)).other (a:=⟨g2,k*11+10,none⟩) (by show ob ≠ g2;omega) (.int .i64 0))
 replace kr:Hid (Blk ((((((((((((w3).setCell ⟨g2,k*11,none⟩ (.int .i64 0)).setCell ⟨g2,k*11+1,none⟩ (.int .i64 0)).setCell ⟨g2,k*11+2,none⟩ (.int .i64 0)).setCell ⟨g2,k*11+3,none⟩ (.int .i64 0)).setCell ⟨g2,k*11+4,none⟩ (.int .i64 0)).setCell ⟨g2,k*11+5,none⟩ (.int .i64 0)).setCell ⟨g2,k*11+6,none⟩ (.int .i64 0)).setCell ⟨g2,k*11+7,none⟩ (.int .i64 0)).setCell ⟨g2,k*11+8,none⟩ (.int .i64 0)).setCell ⟨g2,k*11+9,none⟩ (.int .i64 0)).setCell ⟨g2,k*11+10,none⟩ (.int .i64 0)) (w.heap.size+1) 32 E6):=Z9 ((((((((((((uh kr).other (a:=⟨g2,k*11,none⟩) (by show w.heap.size+1 ≠ g2;omega) (.int .i64 0)).other (a:=⟨g2,k*11+1,none⟩) (by show w.heap.size+1 ≠ g2;omega) (.int .i64 0)).other (a:=⟨g2,k*11+2,none⟩) (by show w.heap.size+1 ≠ g2;omega) (.int .i64 0)).other (a:=⟨g2,k*11+3,none⟩) (by show w.heap.size+1 ≠ g2;omega) (.int .i64 0)).other (a:=⟨g2,k*11+4,none⟩) (by show w.heap.size+1 ≠ g2;omega) (.int .i64 0)).other (a:=⟨g2,k*11+5,none⟩) (by show w.heap.size+1 ≠ g2;omega) (.int .i64 0)).other (a:=⟨g2,k*11+6,none⟩) (by show w.heap.size+1 ≠ g2;omega) (.int .i64 0)).other (a:=⟨g2,k*11+7,none⟩) (by show w.heap.size+1 ≠ g2;omega) (.int .i64 0)).other (a:=⟨g2,k*11+8,none⟩) (by show w.heap.size+1 ≠ g2;omega) (.int .i64 0)).other (a:=⟨g2,k*11+9,none⟩) (by show w.heap.size+1 ≠ g2;omega) (.int .i64 0)).other (a:=⟨g2,k*11+10,none⟩) (by show w.heap.size+1 ≠ g2;omega) (.int .i64 0))
 replace BB:Hid (Below w.heap.size w ((((((((((((w3).setCell ⟨g2,k*11,none⟩ (.int .i64 0)).setCell ⟨g2,k*11+1,none⟩ (.int .i64 0)).setCell ⟨g2,k*11+2,none⟩ (.int .i64 0)).setCell ⟨g2,k*11+3,none⟩ (.int .i64 0)).setCell ⟨g2,k*11+4,none⟩ (.int .i64 0)).setCell ⟨g2,k*11+5,none⟩ (.int .i64 0)).setCell ⟨g2,k*11+6,none⟩ (.int .i64 0)).setCell ⟨g2,k*11+7,none⟩ (.int .i64 0)).setCell ⟨g2,k*11+8,none⟩ (.int .i64 0)).setCell ⟨g2,k*11+9,none⟩ (.int .i64 0)).setCell ⟨g2,k*11+10,none⟩ (.int .i64 0))):=Z9 ((((((((((((uh BB).setCell (p:=⟨g2,k*11,none⟩) (by show w.heap.size<=g2;omega) (.int .i64 0)).setCell (p:=⟨g2,k*11+1,none⟩) (by show w.heap.size<=g2;omega) (.int .i64 0)).setCell (p:=⟨g2,k*11+2,none⟩) (by show w.heap.size<=g2;omega) (.int .i64 0)).setCell (p:=⟨g2,k*11+3,none⟩) (by show w.heap.size<=g2;omega) (.int .i64 0)).setCell (p:=⟨g2,k*11+4,none⟩) (by show w.heap.size<=g2;omega) (.int .i64 0)).setCell (p:=⟨g2,k*11+5,none⟩) (by show w.heap.size<=g2;omega) (.int .i64 0)).setCell (p:=⟨g2,k*11+6,none⟩) (by show w.heap.size<=g2;omega) (.int .i64 0)).setCell (p:=⟨g2,k*11+7,none⟩) (by show w.heap.size<=g2;omega) (.int .i64 0)).setCell (p:=⟨g2,k*11+8,none⟩) (by show w.heap.size<=g2;omega) (.int .i64 0)).setCell (p:=⟨g2,k*11+9,none⟩) (by show w.heap.size<=g2;omega) (.int .i64 0)).setCell (p:=⟨g2,k*11+10,none⟩) (by show w.heap.size<=g2;omega) (.int .i64 0))
 clear kb Hv
 generalize (((((((((((w3).setCell ⟨g2,k*11,none⟩ (.int .i64 0)).setCell ⟨g2,k*11+1,none⟩ (.int .i64 0)).setCell ⟨g2,k*11+2,none⟩ (.int .i64 0)).setCell ⟨g2,k*11+3,none⟩ (.int .i64 0)).setCell ⟨g2,k*11+4,none⟩ (.int .i64 0)).setCell ⟨g2,k*11+5,none⟩ (.int .i64 0)).setCell ⟨g2,k*11+6,none⟩ (.int .i64 0)).setCell ⟨g2,k*11+7,none⟩ (.int .i64 0)).setCell ⟨g2,k*11+8,none⟩ (.int .i64 0)).setCell ⟨g2,k*11+9,none⟩ (.int .i64 0)).setCell ⟨g2,k*11+10,none⟩ (.int .i64 0)=W3 at *
 have hfw:=uh HFew
 go_wp2_with fail
 refine (VP (m:=setS m k V8) (uh ko) (uh HP) (fun k e=>by have:=(uh LO k e).2;omega) (uh kr) (uh BB) (by show (m.smiths.set k _).length<=800;have:=hfw.smiths;simp;omega) hfw.desks).mono ?_
 clear kr BB
 rintro e w4 ⟨rfl,HF9,kr,BB⟩
 obtain ⟨o0,o1,o2,o3,o4,o5⟩:=(uh kr).c6
 obtain ⟨f0,f1,f2,f3,f4,f5⟩:=(uh kr).f6
 go_wp2_with fail
 have hX0:X=(ZX (setS m k V8),0):=by rw [<-uh HX];unfold UK;rw [uh Hok,uh Hqw];simp only [if_true,Int.toNat_natCast]
 have hnow:(ZX (setS m k V8)).now=m.now:=(ZQ _ _).2.2.2.1
 exact bodyPost_ret (v:= .tuple #[.agg (S6 b0 q0 b1 q1 (some ⟨g2,0,none⟩) q2 b3 q3 b4 q4 m),.int .i64 0]) (by simp [results,Tryz.results246,go_sem,setS,Xq,YH,pushS, *]) rfl (Zr hX0 hnow (uh HF9) (uh BB))
open Go.ChangeShapes Go.WideShapes Go.ChangeAt Go.RowKit Go.Sort Go.Deep
theorem IA (rank:Int) (w:World):Calls Tryz.prog 281 #[.agg E11,.int .i64 rank] w fun e w'=>e= .returned (.tuple #[.agg E11,.bool false])/\Below w.heap.size w w':=by
 have Hs:Hid (ZE (0,0,0,0,0,0,0,0,0,0,0)=true):=Z9 rfl
 go_enter Tryz.func281,Tryz.ntmps281
 go_wp2_with fail
 refine (ZA 0 0 0 0 0 0 0 0 0 0 0 _).mono ?_
 rw [uh Hs]
 rintro e w1 ⟨rfl,hb⟩
 have kb:Blk w1 w.heap.size 39 E11:=((Blk.new w 39 E11).alloc _).below hb (by simp;omega)
 have ko:Blk w1 (w.heap.size+1) 39 E11:=by
  have k:=Blk.new (w.alloc (.cells E11 39)) 39 E11
  rw [World.size_alloc] at k
  exact k.below hb (by simp)
 have hsz:w.heap.size+2<=w1.heap.size:=by have:=hb.size;simp at this;omega
 have hl0:w.heap.size<w1.heap.size:=by omega
 have hl1:w.heap.size+1<w1.heap.size:=by omega
 have B1:=Z9 ((((Below.refl w.heap.size w).alloc (Nat.le_refl _) _).alloc (by simp) _).trans (hb.mono (by simp;omega)))
 have Kb:=Z9 kb
 have Ko:=Z9 ko
 obtain ⟨c0,c1,c2,c3,c4,c5,c6,c7,c8,c9,c10⟩:=kb.c11
 obtain ⟨o0,o1,o2,o3,o4,o5,o6,o7,o8,o9,o10⟩:=ko.c11
 obtain ⟨of0,of1,of2,of3,of4,of5,of6,of7,of8,of9,of10⟩:=ko.f11
 clear hb kb ko
 go_wp2_with fail
 refine bodyPost_ret (v:= .tuple #[.agg E11,.bool false]) (by simp [results,Tryz.results281,go_sem,o0,o1,o2,o3,o4,o5,o6,o7,o8,o9,o10]) rfl ⟨rfl,?_⟩
 iterate 11 (refine Below.setCell ?_ (by simp) _)
 exact uh B1
theorem KE {st be rk my gu lo hi hd ca ut wk:Int} (rank:Int) (w:World) (hs:ZE (st,be,rk,my,gu,lo,hi,hd,ca,ut,wk)=false):Calls Tryz.prog 281 #[.agg (I11 st be rk my gu lo hi hd ca ut wk),.int .i64 rank] w fun e w'=>e= .returned (.tuple #[.agg E11,.bool false])/\Below w.heap.size w w':=by
 have Hs:=Z9 hs
 clear hs
 go_enter Tryz.func281,Tryz.ntmps281
 go_wp2_with fail
 refine (ZA st be rk my gu lo hi hd ca ut wk _).mono ?_
 rw [uh Hs]
 rintro e w1 ⟨rfl,hb⟩
 have kb:Blk w1 w.heap.size 39 (I11 st be rk my gu lo hi hd ca ut wk):=((Blk.new w 39 (I11 st be rk my gu lo hi hd ca ut wk)).alloc _).below hb (by simp;omega)
 have ko:Blk w1 (w.heap.size+1) 39 E11:=by
  have k:=Blk.new (w.alloc (.cells (I11 st be rk my gu lo hi hd ca ut wk) 39)) 39 E11
  rw [World.size_alloc] at k
  exact k.below hb (by simp)
 have hsz:w.heap.size+2<=w1.heap.size:=by have:=hb.size;simp at this;omega
 have hl0:w.heap.size<w1.heap.size:=by omega
 have hl1:w.heap.size+1<w1.heap.size:=by omega
 have B1:=Z9 ((((Below.refl w.heap.size w).alloc (Nat.le_refl _) _).alloc (by simp) _).trans (hb.mono (by simp;omega)))
 have Kb:=Z9 kb
 have Ko:=Z9 ko
 obtain ⟨c0,c1,c2,c3,c4,c5,c6,c7,c8,c9,c10⟩:=kb.c11
 obtain ⟨o0,o1,o2,o3,o4,o5,o6,o7,o8,o9,o10⟩:=ko.c11
 obtain ⟨of0,of1,of2,of3,of4,of5,of6,of7,of8,of9,of10⟩:=ko.f11
 clear hb kb ko
 go_wp2_with fail
 refine bodyPost_ret (v:= .tuple #[.agg E11,.bool false]) (by simp [results,Tryz.results281,go_sem,o0,o1,o2,o3,o4,o5,o6,o7,o8,o9,o10]) rfl ⟨rfl,?_⟩
 iterate 11 (refine Below.setCell ?_ (by simp) _)
 exact uh B1
theorem D7 {st be rk my gu lo hi hd ca ut wk:Int} (rank:Int) (w:World) (hs:ZE (st,be,rk,my,gu,lo,hi,hd,ca,ut,wk)=true) (hst:(st ==0)=false) (hw:inB rank (-5) 5=false):Calls Tryz.prog 281 #[.agg (I11 st be rk my gu lo hi hd ca ut wk),.int .i64 rank] w fun e w'=>e= .returned (.tuple #[.agg (I11 st be rk my gu lo hi hd ca ut wk),.bool false])/\Below w.heap.size w w':=by
 have Hs:=Z9 hs
 clear hs
 go_enter Tryz.func281,Tryz.ntmps281
 go_wp2_with fail
 refine (ZA st be rk my gu lo hi hd ca ut wk _).mono ?_
 rw [uh Hs]
 rintro e w1 ⟨rfl,hb⟩
 have kb:Blk w1 w.heap.size 39 (I11 st be rk my gu lo hi hd ca ut wk):=((Blk.new w 39 (I11 st be rk my gu lo hi hd ca ut wk)).alloc _).below hb (by simp;omega)
 have ko:Blk w1 (w.heap.size+1) 39 E11:=by
  have k:=Blk.new (w.alloc (.cells (I11 st be rk my gu lo hi hd ca ut wk) 39)) 39 E11
  rw [World.size_alloc] at k
  exact k.below hb (by simp)
 have hsz:w.heap.size+2<=w1.heap.size:=by have:=hb.size;simp at this;omega
 have hl0:w.heap.size<w1.heap.size:=by omega
 have hl1:w.heap.size+1<w1.heap.size:=by omega
 have B1:=Z9 ((((Below.refl w.heap.size w).alloc (Nat.le_refl _) _).alloc (by simp) _).trans (hb.mono (by simp;omega)))
 have Kb:=Z9 kb
 have Ko:=Z9 ko
 obtain ⟨c0,c1,c2,c3,c4,c5,c6,c7,c8,c9,c10⟩:=kb.c11
 obtain ⟨o0,o1,o2,o3,o4,o5,o6,o7,o8,o9,o10⟩:=ko.c11
 obtain ⟨of0,of1,of2,of3,of4,of5,of6,of7,of8,of9,of10⟩:=ko.f11
 clear hb kb ko
 go_wp2_with (go_at_call 159;refine (Zc _ _).mono ?_;rintro e w' ⟨rfl,h9⟩;subst w')
 refine bodyPost_ret (v:= .tuple #[.agg (I11 st be rk my gu lo hi hd ca ut wk),.bool false]) (by simp [results,Tryz.results281,go_sem,o0,o1,o2,o3,o4,o5,o6,o7,o8,o9,o10]) rfl ⟨rfl,?_⟩
 iterate 11 (refine Below.setCell ?_ (by simp) _)
 exact uh B1
theorem Fm {st be rk my gu lo hi hd ca ut wk:Int} {rank x:Int} (hx:Zx rank=x) (x0:335<=x) (x1:x<=3125) (a0:0<=ca) (a1:ca<=3125) (hs:ZE (st,be,rk,my,gu,lo,hi,hd,ca,ut,wk)=true) (hst:(st ==0)=false) (hw:inB rank (-5) 5=true):Calls Tryz.prog 281 #[.agg (I11 st be rk my gu lo hi hd ca ut wk),.int .i64 rank] w fun e w'=>e= .returned (.tuple #[.agg (I11 st be rank my gu lo hi hd (ca%x) ut wk),.bool true])/\Below w.heap.size w w':=by
 have Hs:=Z9 hs
 have Hx:=Z9 hx
 have hne:¬ x=0:=by omega
 clear hx hs
 go_enter Tryz.func281,Tryz.ntmps281
 go_wp2_with fail
 refine (ZA st be rk my gu lo hi hd ca ut wk _).mono ?_
 rw [uh Hs]
 rintro e w1 ⟨rfl,hb⟩
 have kb:Blk w1 w.heap.size 39 (I11 st be rk my gu lo hi hd ca ut wk):=((Blk.new w 39 (I11 st be rk my gu lo hi hd ca ut wk)).alloc _).below hb (by simp;omega)
 have ko:Blk w1 (w.heap.size+1) 39 E11:=by
  have k:=Blk.new (w.alloc (.cells (I11 st be rk my gu lo hi hd ca ut wk) 39)) 39 E11
  rw [World.size_alloc] at k
  exact k.below hb (by simp)
 have hsz:w.heap.size+2<=w1.heap.size:=by have:=hb.size;simp at this;omega
 have hl0:w.heap.size<w1.heap.size:=by omega
 have hl1:w.heap.size+1<w1.heap.size:=by omega
 have B1:=Z9 ((((Below.refl w.heap.size w).alloc (Nat.le_refl _) _).alloc (by simp) _).trans (hb.mono (by simp;omega)))
 have Kb:=Z9 kb
 have Ko:=Z9 ko
 obtain ⟨c0,c1,c2,c3,c4,c5,c6,c7,c8,c9,c10⟩:=kb.c11
 obtain ⟨o0,o1,o2,o3,o4,o5,o6,o7,o8,o9,o10⟩:=ko.c11
 obtain ⟨of0,of1,of2,of3,of4,of5,of6,of7,of8,of9,of10⟩:=ko.f11
 clear hb kb ko
 have bf2:=(uh Kb).free 2
 go_wp2_with (go_at_call 159;refine (Zc _ _).mono ?_;rintro e w' ⟨rfl,h9⟩;subst w')
 have kb:Blk (w1.setCell ⟨w.heap.size,2,none⟩ (.int .i64 rank)) w.heap.size 39 (I11 st be rank my gu lo hi hd ca ut wk):=(uh Kb).set 2 (.int .i64 rank)
 have ko:Blk (w1.setCell ⟨w.heap.size,2,none⟩ (.int .i64 rank)) (w.heap.size+1) 39 E11:=(uh Ko).other (a:=⟨w.heap.size,2,none⟩) (by simp) _
 have B2:=Z9 ((uh B1).setCell (p:=⟨w.heap.size,2,none⟩) (Nat.le_refl _) (.int .i64 rank))
 clear c0 o0 of0 c1 o1 of1 c2 o2 of2 c3 o3 of3 c4 o4 of4 c5 o5 of5 c6 o6 of6 c7 o7 of7 c8 o8 of8 c9 o9 of9 c10 o10 of10 bf2 Kb Ko B1 hsz hl0 hl1
 generalize w1.setCell ⟨w.heap.size,2,none⟩ (.int .i64 rank)=W2 at *
 obtain ⟨c0,c1,c2,c3,c4,c5,c6,c7,c8,c9,c10⟩:=kb.c11
 obtain ⟨o0,o1,o2,o3,o4,o5,o6,o7,o8,o9,o10⟩:=ko.c11
 obtain ⟨of0,of1,of2,of3,of4,of5,of6,of7,of8,of9,of10⟩:=ko.f11
 have bf8:=kb.free 8
 clear kb ko
 go_region_with (go_at_call 102;refine (YY (uh Hx) _).mono ?_;rintro e w' ⟨rfl,h9⟩;subst w')
 all_goals
  go_wp2_with fail
  refine bodyPost_ret (v:= .tuple #[.agg (I11 st be rank my gu lo hi hd (ca%x) ut wk),.bool true]) (by simp [results,Tryz.results281,go_sem,o0,o1,o2,o3,o4,o5,o6,o7,o8,o9,o10]) rfl ⟨rfl,?_⟩
  refine Below.drew ?_
  iterate 12 (refine Below.setCell ?_ (by simp) _)
  exact uh B2
theorem T6 {x:Z3} (h:Zf x=true):ZE x=true:=by unfold ZE;rw [h,Bool.or_true]
theorem Px {x:Z3} (rank:Int) (hg:VX x=true):Yn x rank=(V8,false):=by
 have e:=VY hg
 subst e
 rfl
theorem QK {x:Z3} (rank:Int) (hg:VX x=false) (hp:Zf x=false):Yn x rank=(V8,false):=by unfold Yn;rw [hp,hg];rfl
theorem Nl {x:Z3} {rank:Int} (hp:Zf x=true) (hw:inB rank (-5) 5=false):Yn x rank=(x,false):=by unfold Yn;rw [hp,hw];rfl
theorem OI {x:Z3} {rank:Int} (hp:Zf x=true) (hw:inB rank (-5) 5=true):Yn x rank=(OG x rank,true):=by unfold Yn;rw [hp,hw];rfl
theorem D8 {st:Int} (h:1<=st):(st ==0)=false:=by simp;omega
theorem O0 {x y:Z3} {rank:Int} {q:Bool} (h:Yn x rank=(y,q)) (w:World):Calls Tryz.prog 281 #[.agg (ZV x).toArray,.int .i64 rank] w fun e w'=>e= .returned (.tuple #[.agg (ZV y).toArray,.bool q])/\Below w.heap.size w w':=by
 obtain ⟨st,be,rk,my,gu,lo,hi,hd,ca,ut,wk⟩:=x
 have hz:=KT rank
 cases hg:VX (st,be,rk,my,gu,lo,hi,hd,ca,ut,wk)
 ·cases hp:Zf (st,be,rk,my,gu,lo,hi,hd,ca,ut,wk)
  ·rw [QK rank hg hp] at h
   obtain ⟨rfl,rfl⟩:=Prod.mk.inj h
   exact KE rank w (by unfold ZE;rw [hg,hp];rfl)
  ·cases hw:inB rank (-5) 5
   ·rw [Nl hp hw] at h
    obtain ⟨rfl,rfl⟩:=Prod.mk.inj h
    exact D7 rank w (T6 hp) (D8 (Zi hp).1.1) hw
   ·rw [OI hp hw] at h
    obtain ⟨rfl,rfl⟩:=Prod.mk.inj h
    obtain ⟨⟨s0,s1⟩,_,hr,_,_,_,⟨d0,d1⟩,⟨a0,a1⟩,_,⟨k0,k1⟩⟩:=Zi hp
    have hr0:=Wr hr
    have hr1:=(UE rk).2
    have a2:ca<=3125:=by omega
    have x0:=Wr hw
    have x1:=(UE rank).2
    have hs:ZE (OG (st,be,rk,my,gu,lo,hi,hd,ca,ut,wk) rank)=true:=T6 (Rr hp hw)
    exact Fm rfl x0 x1 a0 a2 (T6 hp) (D8 s0) hw
 ·rw [Px rank hg] at h
  obtain ⟨rfl,rfl⟩:=Prod.mk.inj h
  cases VY hg
  exact IA rank w
theorem OZ  (who:Int) (rank:Int) (h:Smy w v0 v1 v2 v3 v4 m) :
  Calls Tryz.prog 247 #[.agg #[v0,v1,v2,v3,v4,.int .i64 m.now],.int .i64 who,.int .i64 rank] w fun e w'=>TC w.heap.size (Vk m who rank).1 (Vk m who rank).2 e w'/\Below w.heap.size w w':=by
 obtain ⟨X,hX⟩:∃ x,Vk m who rank=x:=⟨_,rfl⟩
 rw [hX]
 have HX:=Z9 hX
 clear hX
 have Hv0:=Z9 h
 obtain ⟨a0,p0,a1,p1,a2,p2,a3,p3,a4,p4,rfl,rfl,rfl,rfl,rfl,_,_,_,_,_,_,_,_,_,_⟩:=h.five
 clear h
 obtain ⟨ok,hok⟩:∃ q,ZP m=q:=⟨_,rfl⟩
 have Hok:=Z9 hok
 clear hok
 go_enter Tryz.func247,Tryz.ntmps247
 go_wp2_with fail
 obtain ⟨W,hW,kb,kr,BB⟩:=YS w 32 (S6 a0 p0 a1 p1 a2 p2 a3 p3 a4 p4 m) 32 E6
 have Hv:=Z9 ((uh Hv0).below (uh BB))
 clear Hv0
 rw [hW]
 clear hW
 refine ck (XX (uh Hok) (uh Hv)) fun w1 hb=> ?_
 replace kb:=bl kb hb
 replace kr:=bl kr hb
 replace Hv:=Z9 ((uh Hv).below hb)
 replace BB:=bt BB hb
 clear hb
 cases ok
 ·
  obtain ⟨c0,c1,c2,c3,c4,c5⟩:=(uh kb).c6
  go_wp2_with fail
  clear c0 c1 c2 c3 c4 c5
  refine ck (Yy (uh Hv)) fun w2 hb=> ?_
  replace kb:=bl kb hb
  replace kr:=bl kr hb
  replace Hv:=Z9 ((uh Hv).below hb)
  replace BB:=bt BB hb
  clear hb
  obtain ⟨o0,o1,o2,o3,o4,o5⟩:=(uh kr).c6
  obtain ⟨f0,f1,f2,f3,f4,f5⟩:=(uh kr).f6
  go_wp2_with fail
  have hX0:X=(YJ,3):=by rw [<-uh HX];unfold Vk;rw [uh Hok];rfl
  exact bodyPost_ret (v:= .tuple #[.agg E6,.int .i64 3]) (by simp [results,Tryz.results247,go_sem, *]) rfl (Zr hX0 rfl (Y1 _ _) (uh BB))
 have hlo:=ZY (uh Hok)
 have HLo:=Z9 hlo
 have HFew:=Z9 (XJ hlo)
 clear hlo
 obtain ⟨c0,c1,c2,c3,c4,c5⟩:=(uh kb).c6
 go_wp2_with fail
 clear c0 c1 c2 c3 c4 c5
 refine (U2 (uh Hv) (uh HFew) (uh kb) (uh kr) (uh BB)).mono ?_
 clear kb kr Hv BB
 rintro e w2 ⟨b0,q0,b1,q1,b2,q2,b3,q3,b4,q4,oq,rfl,W2,ob,hW2,hob2,kb,kr,Hv,HO,ko,LO,hob,BB⟩
 go_upto_region 4 with fail
 (try rw [hW2])
 (try rw [hob2])
 clear hW2 hob2
 obtain ⟨qw,hqw⟩:∃ q,UP m who=q:=⟨_,rfl⟩
 have Hqw:=Z9 hqw
 clear hqw
 obtain ⟨c0,c1,c2,c3,c4,c5⟩:=(uh kb).c6
 go_wp2_with fail
 clear c0 c1 c2 c3 c4 c5
 refine ck (Va (uh Hqw) (uh Hv)) fun w3 hb=> ?_
 replace kb:=bl kb hb
 replace kr:=bl kr hb
 replace Hv:=Z9 ((uh Hv).below hb)
 replace HO:=Z9 ((uh HO).below hb)
 replace ko:=bl ko hb
 replace BB:=bt BB hb
 clear hb
 cases qw
 ·
  obtain ⟨x0,x1,x2,x3,x4,x5⟩:=(uh ko).c6
  obtain ⟨o0,o1,o2,o3,o4,o5⟩:=(uh kr).c6
  obtain ⟨f0,f1,f2,f3,f4,f5⟩:=(uh kr).f6
  go_wp2_with fail
  have hX0:X=(m,1):=by rw [<-uh HX];unfold Vk;rw [uh Hok,uh Hqw];rfl
  exact bodyPost_ret (v:= .tuple #[.agg (S6 b0 q0 b1 q1 b2 q2 b3 q3 b4 q4 m),.int .i64 1]) (by simp [results,Tryz.results247,go_sem, *]) rfl (Zr hX0 rfl (uh HO) (uh BB))
 obtain ⟨k,rfl,hk,hs0⟩:=Xj (uh Hqw)
 have hk1:(k:Int)<(m.smiths.length:Int):=by omega
 obtain ⟨_,_,hse,_,_,r2⟩:=(uh Hv).smiths
 cases hse
 rcases r2 with e0 | ⟨sb,off,rfl,hbw,hcl⟩
 ·rw [e0] at hk;simp at hk
 obtain ⟨d0,d1,d2,d3,d4,d5,d6,d7,d8,d9,d10⟩:=ZC hcl hk
 clear hcl
 obtain ⟨⟨⟨t0,t1,t2,t3,t4,t5,t6,t7,t8,t9,t10⟩,iq⟩,hre⟩:∃ q,Yn (Z8 m.smiths k) rank=q:=⟨_,rfl⟩
 have Hre:=Z9 hre
 obtain ⟨⟨st,be,rk,my,gu,lo,hi,hd,ca,ut,wk⟩,hrk⟩:∃ d,Z8 m.smiths k=d:=⟨_,rfl⟩
 rw [hrk] at d0 d1 d2 d3 d4 d5 d6 d7 d8 d9 d10 hre
 simp only at d0 d1 d2 d3 d4 d5 d6 d7 d8 d9 d10
 have c2:=(uh kb).cell (i:=2) (v:= .slice (some ⟨sb,off,none⟩) m.smiths.length p2) rfl
 have Hr2:=Z9 hre
 clear hre
 go_wp2_with fail
 refine ck (O0 (uh Hr2) _) fun w4 hb=> ?_
 replace kb:=bl kb hb
 replace kr:=bl kr hb
 replace Hv:=Z9 ((uh Hv).below hb)
 replace HO:=Z9 ((uh HO).below hb)
 replace ko:=bl ko hb
 replace BB:=bt BB hb
 clear hb d0 d1 d2 d3 d4 d5 d6 d7 d8 d9 d10 c2
 simp only [ZV]
 go_upto_region 7 with fail
 obtain ⟨W5,hW5,hba,ks⟩:=YO w4 39 (I11 t0 t1 t2 t3 t4 t5 t6 t7 t8 t9 t10)
 replace kb:=bl kb hba
 replace kr:=bl kr hba
 replace Hv:=Z9 ((uh Hv).below hba)
 replace HO:=Z9 ((uh HO).below hba)
 replace ko:=bl ko hba
 replace BB:=bt BB hba
 clear hba
 rw [hW5]
 clear hW5
 generalize w4.heap.size=sb5 at *
 cases iq
 ·
  obtain ⟨x0,x1,x2,x3,x4,x5⟩:=(uh ko).c6
  obtain ⟨o0,o1,o2,o3,o4,o5⟩:=(uh kr).c6
  obtain ⟨f0,f1,f2,f3,f4,f5⟩:=(uh kr).f6
  go_wp2_with fail
  have hX0:X=(m,3):=by rw [<-uh HX];unfold Vk;rw [uh Hok,uh Hqw];simp only [if_true,Int.toNat_natCast];rw [uh Hre];rfl
  exact bodyPost_ret (v:= .tuple #[.agg (S6 b0 q0 b1 q1 b2 q2 b3 q3 b4 q4 m),.int .i64 3]) (by simp [results,Tryz.results247,go_sem, *]) rfl (Zr hX0 rfl (uh HO) (uh BB))
 obtain ⟨z0,z1,z2,z3,z4,z5,z6,z7,z8,z9,z10⟩:=(uh ks).c11
 obtain ⟨g2,hga,_,_,hc2,hz2⟩:=RecAt.view ZT (by omega) (uh HO).smiths rfl (by omega)
 cases hga
 have hg2o:=(uh LO g2 (.inr (.inr (.inr (.inl rfl)))))
 have x2:=(uh ko).cell (i:=2) (v:= .slice (some ⟨g2,0,none⟩) m.smiths.length q2) rfl
 have s0:=hc2 k hk 0 _ rfl
 have g0:=hz2 (k*11+0)
 have s1:=hc2 k hk 1 _ rfl
 have g1:=hz2 (k*11+1)
 have s2:=hc2 k hk 2 _ rfl
 have g2:=hz2 (k*11+2)
 have s3:=hc2 k hk 3 _ rfl
 have g3:=hz2 (k*11+3)
 have s4:=hc2 k hk 4 _ rfl
 have g4:=hz2 (k*11+4)
 have s5:=hc2 k hk 5 _ rfl
 have g5:=hz2 (k*11+5)
 have s6:=hc2 k hk 6 _ rfl
 have g6:=hz2 (k*11+6)
 have s7:=hc2 k hk 7 _ rfl
 have g7:=hz2 (k*11+7)
 have s8:=hc2 k hk 8 _ rfl
 have g8:=hz2 (k*11+8)
 have s9:=hc2 k hk 9 _ rfl
 have g9:=hz2 (k*11+9)
 have s10:=hc2 k hk 10 _ rfl
 have g10:=hz2 (k*11+10)
 simp only [Nat.add_zero] at s0 g0
 have hput:=(uh HO).putW rfl hk ((t0,t1,t2,t3,t4,t5,t6,t7,t8,t9,t10))
 rw [show ZV ((t0,t1,t2,t3,t4,t5,t6,t7,t8,t9,t10))=[.int .i64 t0,.int .i64 t1,.int .i64 t2,.int .i64 t3,.int .i64 t4,.int .i64 t5,.int .i64 t6,.int .i64 t7,.int .i64 t8,.int .i64 t9,.int .i64 t10] from rfl,QQ] at hput
 have HP:=Z9 hput
 clear hput hc2 hz2 HO
 go_upto_region 10 with fail
 clear x2 s0 g0 s1 g1 s2 g2 s3 g3 s4 g4 s5 g5 s6 g6 s7 g7 s8 g8 s9 g9 s10 g10
 replace ko:Hid (Blk ((((((((((((W5).setCell ⟨g2,k*11,none⟩ (.int .i64 t0)).setCell ⟨g2,k*11+1,none⟩ (.int .i64 t1)).setCell ⟨g2,k*11+2,none⟩ (.int .i64 t2)).setCell ⟨g2,k*11+3,none⟩ (.int .i64 t3)).setCell ⟨g2,k*11+4,none⟩ (.int .i64 t4)).setCell ⟨g2,k*11+5,none⟩ (.int .i64 t5)).setCell ⟨g2,k*11+6,none⟩ (.int .i64 t6)).setCell ⟨g2,k*11+7,none⟩ (.int .i64 t7)).setCell ⟨g2,k*11+8,none⟩ (.int .i64 t8)).setCell ⟨g2,k*11+9,none⟩ (.int .i64 t9)).setCell ⟨g2,k*11+10,none⟩ (.int .i64 t10)) ob 32 (S6 b0 q0 b1 q1 (some ⟨g2,0,none⟩) q2 b3 q3 b4 q4 m)):=Z9 ((((((((((((uh ko).other (a:=⟨g2,k*11,none⟩) (by show ob ≠ g2;omega) (.int .i64 t0)).other (a:=⟨g2,k*11+1,none⟩) (by show ob ≠ g2;omega) (.int .i64 t1)).other (a:=⟨g2,k*11+2,none⟩) (by show ob ≠ g2;omega) (.int .i64 t2)).other (a:=⟨g2,k*11+3,none⟩) (by show ob ≠ g2;omega) (.int .i64 t3)).other (a:=⟨g2,k*11+4,none⟩) (by show ob ≠ g2;omega) (.int .i64 t4)).other (a:=⟨g2,k*11+5,none⟩) (by show ob ≠ g2;omega) (.int .i64 t5)).other (a:=⟨g2,k*11+6,none⟩) (by show ob ≠ g2;omega) (.int .i64 t6)).other (a:=⟨g2,k*11+7,none⟩) (by show ob ≠ g2;omega) (.int .i64 t7)).other (a:=⟨g2,k*11+8,none⟩) (by show ob ≠ g2;omega) (.int .i64 t8)).other (a:=⟨g2,k*11+9,none⟩) (by show ob ≠ g2;omega) (.int .i64 t9)).other (a:=⟨g2,k*11+10,none⟩) (by show ob ≠ g2;omega) (.int .i64 t10))
 replace kr:Hid (Blk ((((((((((((W5).setCell ⟨g2,k*11,none⟩ (.int .i64 t0)).setCell ⟨g2,k*11+1,none⟩ (.int .i64 t1)).setCell ⟨g2,k*11+2,none⟩ (.int .i64 t2)).setCell ⟨g2,k*11+3,none⟩ (.int .i64 t3)).setCell ⟨g2,k*11+4,none⟩ (.int .i64 t4)).setCell ⟨g2,k*11+5,none⟩ (.int .i64 t5)).setCell ⟨g2,k*11+6,none⟩ (.int .i64 t6)).setCell ⟨g2,k*11+7,none⟩ (.int .i64 t7)).setCell ⟨g2,k*11+8,none⟩ (.int .i64 t8)).setCell ⟨g2,k*11+9,none⟩ (.int .i64 t9)).setCell ⟨g2,k*11+10,none⟩ (.int .i64 t10)) (w.heap.size+1) 32 E6):=Z9 ((((((((((((uh kr).other (a:=⟨g2,k*11,none⟩) (by show w.heap.size+1 ≠ g2;omega) (.int .i64 t0)).other (a:=⟨g2,k*11+1,none⟩) (by show w.heap.size+1 ≠ g2;omega) (.int .i64 t1)).other (a:=⟨g2,k*11+2,none⟩) (by show w.heap.size+1 ≠ g2;omega) (.int .i64 t2)).other (a:=⟨g2,k*11+3,none⟩) (by show w.heap.size+1 ≠ g2;omega) (.int .i64 t3)).other (a:=⟨g2,k*11+4,none⟩) (by show w.heap.size+1 ≠ g2;omega) (.int .i64 t4)).other (a:=⟨g2,k*11+5,none⟩) (by show w.heap.size+1 ≠ g2;omega) (.int .i64 t5)).other (a:=⟨g2,k*11+6,none⟩) (by show w.heap.size+1 ≠ g2;omega) (.int .i64 t6)).other (a:=⟨g2,k*11+7,none⟩) (by show w.heap.size+1 ≠ g2;omega) (.int .i64 t7)).other (a:=⟨g2,k*11+8,none⟩) (by show w.heap.size+1 ≠ g2;omega) (.int .i64 t8)).other (a:=⟨g2,k*11+9,none⟩) (by show w.heap.size+1 ≠ g2;omega) (.int .i64 t9)).other (a:=⟨g2,k*11+10,none⟩) (by show w.heap.size+1 ≠ g2;omega) (.int .i64 t10))
 replace BB:Hid (Below w.heap.size w ((((((((((((W5).setCell ⟨g2,k*11,none⟩ (.int .i64 t0)).setCell ⟨g2,k*11+1,none⟩ (.int .i64 t1)).setCell ⟨g2,k*11+2,none⟩ (.int .i64 t2)).setCell ⟨g2,k*11+3,none⟩ (.int .i64 t3)).setCell ⟨g2,k*11+4,none⟩ (.int .i64 t4)).setCell ⟨g2,k*11+5,none⟩ (.int .i64 t5)).setCell ⟨g2,k*11+6,none⟩ (.int .i64 t6)).setCell ⟨g2,k*11+7,none⟩ (.int .i64 t7)).setCell ⟨g2,k*11+8,none⟩ (.int .i64 t8)).setCell ⟨g2,k*11+9,none⟩ (.int .i64 t9)).setCell ⟨g2,k*11+10,none⟩ (.int .i64 t10))):=Z9 ((((((((((((uh BB).setCell (p:=⟨g2,k*11,none⟩) (by show w.heap.size<=g2;omega) (.int .i64 t0)).setCell (p:=⟨g2,k*11+1,none⟩) (by show w.heap.size<=g2;omega) (.int .i64 t1)).setCell (p:=⟨g2,k*11+2,none⟩) (by show w.heap.size<=g2;omega) (.int .i64 t2)).setCell (p:=⟨g2,k*11+3,none⟩) (by show w.heap.size<=g2;omega) (.int .i64 t3)).setCell (p:=⟨g2,k*11+4,none⟩) (by show w.heap.size<=g2;omega) (.int .i64 t4)).setCell (p:=⟨g2,k*11+5,none⟩) (by show w.heap.size<=g2;omega) (.int .i64 t5)).setCell (p:=⟨g2,k*11+6,none⟩) (by show w.heap.size<=g2;omega) (.int .i64 t6)).setCell (p:=⟨g2,k*11+7,none⟩) (by show w.heap.size<=g2;omega) (.int .i64 t7)).setCell (p:=⟨g2,k*11+8,none⟩) (by show w.heap.size<=g2;omega) (.int .i64 t8)).setCell (p:=⟨g2,k*11+9,none⟩) (by show w.heap.size<=g2;omega) (.int .i64 t9)).setCell (p:=⟨g2,k*11+10,none⟩) (by show w.heap.size<=g2;omega) (.int .i64 t10))
 clear kb Hv
 generalize (((((((((((W5).setCell ⟨g2,k*11,none⟩ (.int .i64 t0)).setCell ⟨g2,k*11+1,none⟩ (.int .i64 t1)).setCell ⟨g2,k*11+2,none⟩ (.int .i64 t2)).setCell ⟨g2,k*11+3,none⟩ (.int .i64 t3)).setCell ⟨g2,k*11+4,none⟩ (.int .i64 t4)).setCell ⟨g2,k*11+5,none⟩ (.int .i64 t5)).setCell ⟨g2,k*11+6,none⟩ (.int .i64 t6)).setCell ⟨g2,k*11+7,none⟩ (.int .i64 t7)).setCell ⟨g2,k*11+8,none⟩ (.int .i64 t8)).setCell ⟨g2,k*11+9,none⟩ (.int .i64 t9)).setCell ⟨g2,k*11+10,none⟩ (.int .i64 t10)=W3 at *
 have hfw:=uh HFew
 go_wp2_with fail
 refine (VP (m:=setS m k (t0,t1,t2,t3,t4,t5,t6,t7,t8,t9,t10)) (uh ko) (uh HP) (fun k e=>by have:=(uh LO k e).2;omega) (uh kr) (uh BB) (by show (m.smiths.set k _).length<=800;have:=hfw.smiths;simp;omega) hfw.desks).mono ?_
 clear kr BB
 rintro e w5 ⟨rfl,HF9,kr,BB⟩
 obtain ⟨o0,o1,o2,o3,o4,o5⟩:=(uh kr).c6
 obtain ⟨f0,f1,f2,f3,f4,f5⟩:=(uh kr).f6
 go_wp2_with fail
 have hX0:X=(ZX (setS m k (t0,t1,t2,t3,t4,t5,t6,t7,t8,t9,t10)),0):=by rw [<-uh HX];unfold Vk;rw [uh Hok,uh Hqw];simp only [if_true,Int.toNat_natCast];rw [uh Hre];rfl
 have hnow:(ZX (setS m k (t0,t1,t2,t3,t4,t5,t6,t7,t8,t9,t10))).now=m.now:=(ZQ _ _).2.2.2.1
 exact bodyPost_ret (v:= .tuple #[.agg (S6 b0 q0 b1 q1 (some ⟨g2,0,none⟩) q2 b3 q3 b4 q4 m),.int .i64 0]) (by simp [results,Tryz.results247,go_sem,setS,Xq,YH,pushS, *]) rfl (Zr hX0 hnow (uh HF9) (uh BB))
end Go.Proofs.YtffcgajndmhpkaaGreatDoor
