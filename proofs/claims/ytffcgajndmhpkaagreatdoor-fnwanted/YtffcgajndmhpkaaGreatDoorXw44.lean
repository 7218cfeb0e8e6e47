/- Part 44 of what the proof rests on. No condition but those that a theorem names. -/
import Derived.Test.YtffcgajndmhpkaaGreatDoorXw43
set_option maxHeartbeats 8000000
set_option maxRecDepth 100000
namespace Go.Proofs.YtffcgajndmhpkaaGreatDoor
open Go.ChangeShapes Go.WideShapes Go.ChangeAt Go.RowKit Go.Sort
open Draw (St Off Row Cur)
set_option linter.unusedVariables false
set_option linter.unusedSimpArgs false
set_option maxRecDepth 100000
variable {w w' w0 w1 w2 w3 w₀ wr W W' X A B C : World} {v v0 v1 v2 v3 v4 u u0 u1 u2 u3 u4 : Value} {m : Z4}
theorem NU (a:Option Addr) (len cap:Nat) (w:World) (hr:Row w.heap.size w a len) :
  Calls Tryz.prog 16 #[.slice a len cap] w fun e w'=> ∃ M u0 u1 u2 u3 u4 x rq,e= .returned (.tuple #[.agg #[u0,u1,u2,u3,u4,.int .i64 M.now],.int .i64 x])/\FullSmy (w.heap.size+1) w' u0 u1 u2 u3 u4 M rq/\Below w.heap.size w w':=by
 have Hr:=Z9 (Draw.row_later hr ((Below.refl _ _).alloc (Nat.le_refl _) (.cells E6 32)))
 clear hr
 go_enter Tryz.func16,Tryz.ntmps16
 go_wp2_with fail
 have kr:Hid (Blk (w.alloc (.cells E6 32)) w.heap.size 32 E6):=Z9 (Blk.new _ _ _)
 have BB:Hid (Below w.heap.size w (w.alloc (.cells E6 32))):=Z9 ((ba _ _))
 have hzW:w.heap.size<(w.alloc (.cells E6 32)).heap.size:=by simp
 generalize w.alloc (.cells E6 32)=W at *
 refine (NT a len cap _ (uh Hr)).mono ?_
 rintro e w2 ⟨M,u0,u1,u2,u3,u4,x,rq,rfl,hm,hb⟩
 have HF:=Z9 hm
 have k6:=hm.smy
 obtain ⟨b0,q0,b1,q1,b2,q2,b3,q3,b4,q4,rfl,rfl,rfl,rfl,rfl,_,_,_,_,_,_,_,_,_,_⟩:=k6.five
 replace kr:=Z9 ((uh kr).below hb hzW)
 replace BB:=bt BB hb
 clear hm hb Hr k6
 generalize W.heap.size=cb at *
 obtain ⟨o0,o1,o2,o3,o4,o5⟩:=(uh kr).c6
 obtain ⟨f0,f1,f2,f3,f4,f5⟩:=(uh kr).f6
 go_wp2_with fail
 refine bodyPost_ret (v:= .tuple #[.agg (S6 b0 q0 b1 q1 b2 q2 b3 q3 b4 q4 M),.int .i64 x]) (by simp [results,Tryz.results16,go_sem, *]) rfl ⟨M,_,_,_,_,_,x,rq,rfl,?_,?_⟩
 ·refine FullSmy.mono (n₀:=cb+1) ?_ (by omega)
  iterate 6 (refine FullSmy.set ?_ _ _ _ (by omega))
  exact uh HF
 ·iterate 6 (refine Below.setCell ?_ (by show w.heap.size<=w.heap.size;omega) _)
  exact uh BB
theorem Pr (a:Option Addr) (len cap:Nat) (w:World) (hr:Row w.heap.size w a len) :
  Calls Tryz.prog 18 #[.slice a len cap] w fun e w'=> ∃ M u0 u1 u2 u3 u4 x y rq,e= .returned (.tuple #[.agg #[u0,u1,u2,u3,u4,.int .i64 M.now],.int .i64 x,.int .i64 y])/\FullSmy (w.heap.size+1) w' u0 u1 u2 u3 u4 M rq/\Below w.heap.size w w':=by
 have Hr:=Z9 (Draw.row_later hr ((Below.refl _ _).alloc (Nat.le_refl _) (.cells E6 32)))
 clear hr
 go_enter Tryz.func18,Tryz.ntmps18
 go_wp2_with fail
 have kr:Hid (Blk (w.alloc (.cells E6 32)) w.heap.size 32 E6):=Z9 (Blk.new _ _ _)
 have BB:Hid (Below w.heap.size w (w.alloc (.cells E6 32))):=Z9 ((ba _ _))
 have hzW:w.heap.size<(w.alloc (.cells E6 32)).heap.size:=by simp
 generalize w.alloc (.cells E6 32)=W at *
 refine (Draw.new_any a len cap _ (uh Hr)).mono ?_
 rintro e w1 ⟨rfl,s1,o1⟩
 have Hs:=Z9 s1
 replace kr:=Z9 ((uh kr).away o1 (by omega))
 replace BB:=Z9 ((uh BB).trans (o1.below (by omega) (uh BB).size))
 clear s1 o1 Hr
 generalize W.heap.size=cb at *
 go_wp2_with fail
 refine (SS a len cap cb _ (uh Hs)).mono ?_
 rintro e w2 ⟨M,u0,u1,u2,u3,u4,rq,rfl,hm2,hm3,hf,s2,o2⟩
 have hc1:=Xc (uh Hs)
 have k6:=hf.smy
 obtain ⟨b0,q0,b1,q1,b2,q2,b3,q3,b4,q4,rfl,rfl,rfl,rfl,rfl,_,_,_,_,_,_,_,_,_,_⟩:=k6.five
 have hb:Below w2.heap.size w2 (w2.alloc (.cells (S6 b0 q0 b1 q1 b2 q2 b3 q3 b4 q4 M) 32)):=ba _ _
 have HW:Hid (Wbox a len cap cb w.heap.size w2.heap.size w (w2.alloc (.cells (S6 b0 q0 b1 q1 b2 q2 b3 q3 b4 q4 M) 32)) M (.slice b0 M.rooms.length q0) (.slice b1 M.guilds.length q1) (.slice b2 M.smiths.length q2) (.slice b3 M.desks.length q3) (.slice b4 M.paces.length q4) rq):=Z9 ⟨s2.alloc _,((uh kr).away o2 (by omega)).alloc _,Blk.new _ _ _,(hf.mono (n₁:=cb+1) (by omega)).below hb,((uh BB).trans (o2.below (by omega) (uh BB).size)).trans (hb.mono (by have:=(uh BB).size;have:=o2.size;omega)),by omega,Xc s2,Nat.le_refl _⟩
 have Hm2:=Z9 hm2
 have Hm3:=Z9 hm3
 clear hm2 hm3 hf s2 o2 k6 hb kr BB Hs hc1 hzW
 go_upto_region 3 with fail
 generalize w2.alloc (.cells (S6 b0 q0 b1 q1 b2 q2 b3 q3 b4 q4 M) 32)=W2 at *
 generalize w2.heap.size=mb at *
 have hkl:0<(M.rooms.length:Int)/\(M.rooms.length:Int)<=4611686018427387904:=by have:=uh Hm3;have:=(uh Hm2).2;omega
 obtain ⟨hkl0,hkl1⟩:=hkl
 obtain ⟨x0,_,_,_,_,_⟩:=(uh HW).km.c6
 go_wp2_with fail
 refine (Draw.below_any a len cap cb (M.rooms.length:Int) hkl0 hkl1 _ (uh HW).st).mono ?_
 rintro e w3 ⟨x,rfl,_,_,s9,p9⟩
 replace HW:=Z9 ((uh HW).step s9 p9)
 clear s9 p9 x0 hkl0 hkl1
 go_wp2_with fail
 refine (Draw.once_any a len cap cb 10 (by omega) (by omega) _ (uh HW).st).mono ?_
 rintro e w4 ⟨bq,rfl,s9,p9⟩
 replace HW:=Z9 ((uh HW).step s9 p9)
 clear s9 p9
 go_upto_if 19 with fail
 go_cut [7] (fun s wc=> ∃ x:Int,s= .int .i64 x/\Wbox a len cap cb w.heap.size mb w wc M (.slice b0 M.rooms.length q0) (.slice b1 M.guilds.length q1) (.slice b2 M.smiths.length q2) (.slice b3 M.desks.length q3) (.slice b4 M.paces.length q4) rq)
 case first=>
  cases bq
  ·go_wp2_with fail
   go_meet
   exact ⟨_,rfl,uh HW⟩
  ·have HW0:=HW
   have hbz:Below w4.heap.size w4 (w4.alloc (.cells #[.int .i64 (-1),.int .i64 3] 2)):=ba _ _
   have KL:Hid (Blk (w4.alloc (.cells #[.int .i64 (-1),.int .i64 3] 2)) w4.heap.size 2 #[.int .i64 (-1),.int .i64 3]):=Z9 (Blk.new _ _ _)
   replace HW:=Z9 ((uh HW).below hbz)
   have hlb:w4.heap.size ≠ cb:=by have:=Xc (uh HW0).st;omega
   clear hbz
   go_wp2_with fail
   generalize w4.alloc (.cells #[.int .i64 (-1),.int .i64 3] 2)=X1 at *
   generalize w4.heap.size=lb at *
   refine (Draw.below_any a len cap cb 2 (by omega) (by omega) _ (uh HW).st).mono ?_
   rintro e w9 ⟨v,rfl,v0,v1,s9,p9⟩
   replace KL:=Z9 ((uh KL).away p9 hlb)
   replace HW:=Z9 ((uh HW).step s9 p9)
   clear s9 p9
   rcases (show v=0\/v=1 by omega) with rfl | rfl
   ·have l0:=(uh KL).cell (i:=0) (v:= .int .i64 (-1)) rfl
    go_wp2_with fail
    go_meet
    exact ⟨_,rfl,uh HW⟩
   ·have l1:=(uh KL).cell (i:=1) (v:= .int .i64 3) rfl
    go_wp2_with fail
    go_meet
    exact ⟨_,rfl,uh HW⟩
 case rest=>
  obtain ⟨x9,rfl,hw⟩:=hcut
  replace HW:=Z9 hw
  clear hw
  obtain ⟨x0,x1,x2,x3,x4,x5⟩:=(uh HW).km.c6
  go_wp2_with fail
  go_region_with (go_at_call 55;go_must (refine (Draw.from_any a len cap cb (-1) 3 ?_ ?_ ?_ _ ?_).mono ?_);go_must (omega);go_must (omega);go_must (omega);go_must (exact (uh HW).drew.st);go_must (rintro e w8 ⟨z,rfl,_,_,s9,p9⟩;have HW8:=Z9 ((uh HW).drew.step s9 p9);clear s9 p9;obtain ⟨y0,y1,y2,y3,y4,y5⟩:=(uh HW8).km.c6;have o0:=(uh HW8).kr.cell (i:=0) (v:= .slice none 0 0) rfl;have f0:=(uh HW8).kr.free 0;have o1:=(uh HW8).kr.cell (i:=1) (v:= .slice none 0 0) rfl;have f1:=(uh HW8).kr.free 1;have o2:=(uh HW8).kr.cell (i:=2) (v:= .slice none 0 0) rfl;have f2:=(uh HW8).kr.free 2;have o3:=(uh HW8).kr.cell (i:=3) (v:= .slice none 0 0) rfl;have f3:=(uh HW8).kr.free 3;have o4:=(uh HW8).kr.cell (i:=4) (v:= .slice none 0 0) rfl;have f4:=(uh HW8).kr.free 4;have o5:=(uh HW8).kr.cell (i:=5) (v:= .int .i64 0) rfl;have f5:=(uh HW8).kr.free 5;obtain ⟨F9,B9,_⟩:=(uh HW8).end (.slice b0 M.rooms.length q0) (.slice b1 M.guilds.length q1) (.slice b2 M.smiths.length q2) (.slice b3 M.desks.length q3) (.slice b4 M.paces.length q4) (.int .i64 M.now);have HF9:=Z9 F9;have HB9:=Z9 B9;clear F9 B9))
  all_goals
   go_wp2_with fail
   exact bodyPost_ret (v:= .tuple #[.agg (S6 b0 q0 b1 q1 b2 q2 b3 q3 b4 q4 M),.int .i64 x9,.int .i64 z]) (by simp [results,Tryz.results18,go_sem, *]) rfl ⟨M,_,_,_,_,_,x9,z,rq,rfl,uh HF9,uh HB9⟩
set_option maxRecDepth 100000
theorem O5 (w:World) (v0 v1 v2 v3 v4:Value) (m:Z4) (h:Smy w v0 v1 v2 v3 v4 m) :
  Calls Tryz.prog 22 #[.agg #[v0,v1,v2,v3,v4,.int .i64 m.now]] w fun e w'=> ∃ u0 u1 u2 u3 u4 rs,e= .returned (.agg #[u0,u1,u2,u3,u4,.int .i64 (Zz m).now])/\FullSmy w.heap.size w' u0 u1 u2 u3 u4 (Zz m) rs/\Below w.heap.size w w':=by
 obtain ⟨M,hM⟩:∃ x,Zz m=x:=⟨_,rfl⟩
 rw [hM]
 have HM:=Z9 hM
 clear hM
 have Hv0:=Z9 h
 obtain ⟨a0,p0,a1,p1,a2,p2,a3,p3,a4,p4,rfl,rfl,rfl,rfl,rfl,_,_,_,_,_,_,_,_,_,_⟩:=h.five
 clear h
 obtain ⟨ok,hok⟩:∃ q,Y0 m=q:=⟨_,rfl⟩
 have Hok:=Z9 hok
 clear hok
 go_enter Tryz.func22,Tryz.ntmps22
 go_wp2_with fail
 obtain ⟨W,hW,kb,kr,BB⟩:=YS w 32 (S6 a0 p0 a1 p1 a2 p2 a3 p3 a4 p4 m) 32 E6
 have Hv:=Z9 ((uh Hv0).below (uh BB))
 rw [hW]
 clear hW
 refine (VC (uh Hv)).mono ?_
 rw [uh Hok]
 rintro e w1 ⟨rfl,hb⟩
 replace Hv:=Z9 ((uh Hv).below hb)
 replace kb:=bl kb hb
 replace kr:=bl kr hb
 replace BB:=bt BB hb
 clear hb
 cases ok
 ·
  obtain rfl:M=YJ:=by rw [<-uh HM];unfold Zz;rw [uh Hok];rfl
  obtain ⟨o0,o1,o2,o3,o4,o5⟩:=(uh kr).c6
  obtain ⟨f0,f1,f2,f3,f4,f5⟩:=(uh kr).f6
  go_wp2_with fail
  refine bodyPost_ret (v:= .agg E6) (by simp [results,Tryz.results22,go_sem, *]) rfl ⟨_,_,_,_,_,[],rfl,Y1 _ _,?_⟩
  iterate 6 (refine Below.setCell ?_ (by show _<=w.heap.size+1;omega) _)
  exact uh BB
 obtain rfl:M=ZX m:=by rw [<-uh HM];unfold Zz;rw [uh Hok];rfl
 have hlo:=S7 (uh Hok)
 have HFew:=Z9 (XJ hlo)
 clear hlo
 obtain ⟨c0,c1,c2,c3,c4,c5⟩:=(uh kb).c6
 go_wp2_with fail
 clear c0 c1 c2 c3 c4 c5
 have hWs:w.heap.size+2<=w1.heap.size:=by have:=(uh kr).lt;omega
 refine (YE (uh Hv) (uh HFew)).mono ?_
 rintro e w2 ⟨y0,y1,y2,y3,y4,oq,rfl,ho,hb⟩
 have k9:=ho.smy
 obtain ⟨b0,q0,b1,q1,b2,q2,b3,q3,b4,q4,rfl,rfl,rfl,rfl,rfl,_,_,_,_,_,_,_,_,_,_⟩:=k9.five
 replace Hv:=Z9 ((uh Hv).below hb)
 replace kb:=bl kb hb
 replace kr:=bl kr hb
 replace BB:=bt BB hb
 have HO:=Z9 (ho.mono hWs)
 have LO:Hid (∀ k,WW (.slice b0 m.rooms.length q0) (.slice b1 m.guilds.length q1) (.slice b2 m.smiths.length q2) (.slice b3 m.desks.length q3) (.slice b4 m.paces.length q4) oq k->w.heap.size+2<=k/\k<w2.heap.size):=Z9 (fun k e=>(uh HO).own e)
 have hsz9:=hb.size
 clear ho hb k9
 go_upto_region 4 with fail
 obtain ⟨W2,hW2,hb,ko⟩:=YO w2 32 (S6 b0 q0 b1 q1 b2 q2 b3 q3 b4 q4 m)
 replace Hv:=Z9 ((uh Hv).below hb)
 replace kb:=bl kb hb
 replace kr:=bl kr hb
 replace BB:=bt BB hb
 replace HO:=Z9 ((uh HO).below hb)
 have hob:w.heap.size+2<=w2.heap.size:=Nat.le_trans hWs hsz9
 clear hb hsz9 hWs
 rw [hW2]
 clear hW2
 generalize w2.heap.size=ob at *
 go_wp2_with fail
 have H2:(Value.slice b2 m.smiths.length q2).ownBlock ≠ some ob:=fun e=>by have:=(uh LO _ (.inr (.inr (.inr (.inl e))))).2;omega
 have H3:(Value.slice b3 m.desks.length q3).ownBlock ≠ some ob:=fun e=>by have:=(uh LO _ (.inr (.inr (.inr (.inr (.inl e)))))).2;omega
 refine (UR (uh ko) (uh HO) H2 H3 (uh HFew).smiths (uh HFew).desks).mono ?_
 rintro e w3 ⟨rfl,hf3,ht3⟩
 have ko1:=Z9 ((uh ko).two ht3 H2 H3)
 have HF1:=Z9 hf3
 have Tw:=Z9 ht3
 clear hf3 ht3 H2 H3
 replace kr:=Z9 ((uh kr).two (uh Tw) (fun e=>by have:=(uh LO _ (.inr (.inr (.inr (.inl e))))).1;omega) (fun e=>by have:=(uh LO _ (.inr (.inr (.inr (.inr (.inl e)))))).1;omega))
 replace BB:=Z9 ((uh BB).trans ((uh Tw).below (uh BB).size (fun k e=>by have:=(uh LO k (.inr (.inr (.inr (.inl e))))).1;omega) (fun k e=>by have:=(uh LO k (.inr (.inr (.inr (.inr (.inl e)))))).1;omega)))
 obtain ⟨x0,x1,x2,x3,x4,x5⟩:=(uh ko1).c6
 obtain ⟨o0,o1,o2,o3,o4,o5⟩:=(uh kr).c6
 obtain ⟨f0,f1,f2,f3,f4,f5⟩:=(uh kr).f6
 have Hnow:Hid ((ZX m).now=m.now):=Z9 (ZQ m _).2.2.2.1
 go_wp2_with fail
 refine bodyPost_ret (v:= .agg (S6 b0 q0 b1 q1 b2 q2 b3 q3 b4 q4 m)) (by simp [results,Tryz.results22,go_sem, *]) rfl ⟨_,_,_,_,_,oq,by rw [uh Hnow],?_,?_⟩
 ·iterate 6 (refine FullSmy.set_off ?_ (fun k e=>by have:=(uh LO k e).1;omega) _ _)
  exact (uh HF1).mono (by omega)
 ·iterate 6 (refine Below.setCell ?_ (by show _<=w.heap.size+1;omega) _)
  exact uh BB
set_option maxRecDepth 100000
theorem O6  {b q:Int} (hq:SA m b=q) (h:Smy w v0 v1 v2 v3 v4 m):Calls Tryz.prog 23 #[.agg #[v0,v1,v2,v3,v4,.int .i64 m.now],.int .i64 b] w fun e w'=>e= .returned (.int .i64 q)/\Below w.heap.size w w':=by
 have Hq:=Z9 hq
 clear hq
 have Hv:=Z9 (h.alloc (.cells #[v0,v1,v2,v3,v4,.int .i64 m.now] 32))
 obtain ⟨a0,p0,a1,p1,a2,p2,a3,p3,a4,p4,rfl,rfl,rfl,rfl,rfl,_,_,_,_,_,_,_,_,_,_⟩:=h.five
 clear h
 have kb:Hid (Blk (w.alloc (.cells (S6 a0 p0 a1 p1 a2 p2 a3 p3 a4 p4 m) 32)) w.heap.size 32 (S6 a0 p0 a1 p1 a2 p2 a3 p3 a4 p4 m)):=Z9 (Blk.new w _ _)
 have BB:Hid (Below w.heap.size w (w.alloc (.cells (S6 a0 p0 a1 p1 a2 p2 a3 p3 a4 p4 m) 32))):=Z9 ((ba _ _))
 obtain ⟨ok,hok⟩:∃ q,ZP m=q:=⟨_,rfl⟩
 have Hok:=Z9 hok
 clear hok
 go_enter Tryz.func23,Tryz.ntmps23
 go_wp2_with fail
 generalize w.alloc (.cells (S6 a0 p0 a1 p1 a2 p2 a3 p3 a4 p4 m) 32)=W at *
 refine ck (O3 (uh Hok) (uh Hv)) fun w1 hb=> ?_
 replace Hv:=Z9 ((uh Hv).below hb)
 replace kb:=bl kb hb
 replace BB:=bt BB hb
 clear hb
 cases ok
 ·obtain rfl:q= -1:=by rw [<-uh Hq];unfold SA;rw [uh Hok];rfl
  go_wp2_with fail
  go_ret
  exact ⟨rfl,uh BB⟩
 obtain ⟨qw,hqw⟩:∃ q,WX m b=q:=⟨_,rfl⟩
 have Hw:=Z9 hqw
 clear hqw
 obtain ⟨c0,c1,c2,c3,c4,c5⟩:=(uh kb).c6
 go_wp2_with fail
 refine ck (RR (uh Hw) (uh Hv)) fun w2 hb=> ?_
 replace Hv:=Z9 ((uh Hv).below hb)
 replace kb:=bl kb hb
 replace BB:=bt BB hb
 clear hb c0 c1 c2 c3 c4 c5
 cases qw
 ·obtain rfl:q= -1:=by rw [<-uh Hq];unfold SA;rw [uh Hw];simp
  go_wp2_with fail
  go_ret
  exact ⟨rfl,uh BB⟩
 obtain rfl:q=Ze m b (-1):=by rw [<-uh Hq];unfold SA;rw [uh Hw,uh Hok];rfl
 have HS:=Z9 (ZY (uh Hok)).sane
 obtain ⟨c0,c1,c2,c3,c4,c5⟩:=(uh kb).c6
 go_wp2_with fail
 refine ck (V2 b (-1) (uh Hv) (uh HS).guilded (by have:=(uh HS).few;omega)) fun w3 hb=> ?_
 replace Hv:=Z9 ((uh Hv).below hb)
 replace kb:=bl kb hb
 replace BB:=bt BB hb
 clear hb c0 c1 c2 c3 c4 c5
 go_wp2_with fail
 go_ret
 exact ⟨rfl,uh BB⟩
open Go.ChangeShapes Go.WideShapes Go.ChangeAt Go.RowKit
theorem LK  {rs:List Z2} (hv:IsRooms w v rs) (hu:IsRooms w u rs) :
  Calls Tryz.prog 45 #[.agg #[v],.agg #[u]] w fun e w'=>e= .returned (.bool true)/\Below w.heap.size w w':=by
 have Hv:=Z9 hv
 have Hu:=Z9 hu
 obtain ⟨a,cap,rfl,hc,hm,hr⟩:=hv
 obtain ⟨a',cap',rfl,hc',hm',hr'⟩:=hu
 clear hr hr'
 go_enter Tryz.func45,Tryz.ntmps45
 go_wp2_with fail
 have B0:Hid (Below w.heap.size w ((w.alloc (.cells #[.slice a rs.length cap] 26)).alloc (.cells #[.slice a' rs.length cap'] 26))):=Z9 (((ba _ _)).alloc (by simp) _)
 go_loopw [5] (fun i wr=> ∃ k:Nat,k<=rs.length/\i= .int .i64 k/\Below (w.heap.size+2) ((w.alloc (.cells #[.slice a rs.length cap] 26)).alloc (.cells #[.slice a' rs.length cap'] 26)) wr) (fun i _=>rs.length-(intOf i).toNat)
 case atStart=>exact ⟨0,Nat.zero_le _,rfl,Below.refl _ _⟩
 case round=>
  obtain ⟨k,hk,rfl,hb⟩:=hrel
  have Hb:=Z9 hb
  have hzr:w.heap.size+2<=wr.heap.size:=by have:=hb.size;simpa using this
  have c0:wr.cell? ⟨w.heap.size,0,none⟩=some (.slice a rs.length cap):=(hb.cell (p:=⟨w.heap.size,0,none⟩) (by show w.heap.size<w.heap.size+2;omega)).trans (by simp)
  have c1:wr.cell? ⟨w.heap.size+1,0,none⟩=some (.slice a' rs.length cap'):=(hb.cell (p:=⟨w.heap.size+1,0,none⟩) (by show w.heap.size+1<w.heap.size+2;omega)).trans (by simp)
  have BW:Hid (Below w.heap.size w wr):=Z9 ((uh B0).trans (hb.mono (by omega)))
  clear hb
  by_cases hlt:k<rs.length
  ·obtain ⟨_,_,e1,_,_,hr⟩:=uh Hv
   obtain ⟨_,_,e2,_,_,hr'⟩:=uh Hu
   cases e1
   cases e2
   rcases hr with h0 | ⟨b,off,rfl,hbw,hcl⟩
   ·rw [h0] at hlt;simp at hlt
   rcases hr' with h0 | ⟨b',off',rfl,hbw',hcl'⟩
   ·rw [h0] at hlt;simp at hlt
   obtain ⟨d0,pv,d1,hip⟩:=hcl k hlt
   obtain ⟨d2,pu,d3,hiu⟩:=hcl' k hlt
   rw [<-(uh BW).cell (p:=⟨b,off+k*2,none⟩) hbw] at d0
   rw [<-(uh BW).cell (p:=⟨b,off+k*2+1,none⟩) hbw] at d1
   rw [<-(uh BW).cell (p:=⟨b',off'+k*2,none⟩) hbw'] at d2
   rw [<-(uh BW).cell (p:=⟨b',off'+k*2+1,none⟩) hbw'] at d3
   have Hip:=Z9 (hip.below (uh BW))
   have Hiu:=Z9 (hiu.below (uh BW))
   obtain ⟨pa,pcap,rfl,hpc,hpm,_⟩:=hip
   obtain ⟨pa',pcap',rfl,hpc',hpm',_⟩:=hiu
   generalize (Z0 rs k).1=f at *
   generalize (Z0 rs k).2=ps at *
   clear hcl hcl'
   have k0:=cell_regrown c0
   have k1:=cell_regrown c1
   have k2:=cell_regrown d0
   have k3:=cell_regrown d1
   have k4:=cell_regrown d2
   have k5:=cell_regrown d3
   go_wp2_with fail
   refine wq ?_
   repeat (go_big_quiet_step (fail))
   refine wpQuiet_nil ?_
   intro _ hw'
   obtain ⟨⟨dq,osq⟩,hw''⟩:=hw'
   subst hw''
   have Hbq:=Z9 (below_regrown wr dq osq)
   have e0:=k0 dq osq
   have e1:=k1 dq osq
   have e2:=k2 dq osq
   have e3:=k3 dq osq
   have e4:=k4 dq osq
   have e5:=k5 dq osq
   clear k0 k1 k2 k3 k4 k5 c0 c1 d0 d1 d2 d3
   obtain ⟨w1,hw1⟩:∃ w1,w1=Go.Sort.grow (Go.redrawn wr dq) osq:=⟨_,rfl⟩
   rw [<-hw1] at Hbq e0 e1 e2 e3 e4 e5 ⊢
   clear hw1
   have HB1:=Z9 ((uh BW).trans ((uh Hbq).mono (uh BW).size))
   go_wp2_with fail
   obtain ⟨wo,hwo⟩:∃ wo,wo=wr:=⟨wr,rfl⟩
   rw [<-hwo] at *
   clear hwo
   go_loopw [6] (fun i wr=> ∃ j:Nat,j<=ps.length/\i= .int .i64 j/\Below w1.heap.size w1 wr) (fun i _=>ps.length-(intOf i).toNat)
   case atStart=>exact ⟨0,Nat.zero_le _,rfl,Below.refl _ _⟩
   case round=>
    obtain ⟨j,hj,rfl,hbr⟩:=hrel
    have Hbr:=Z9 hbr
    have HBr:=Z9 ((uh HB1).trans (hbr.mono (uh HB1).size))
    have hz1:=(uh Hbq).size
    have f0:=(hbr.cell (World.block_lt_of_cell? _ _ e0)).trans e0
    have f1:=(hbr.cell (World.block_lt_of_cell? _ _ e1)).trans e1
    have f3:=(hbr.cell (World.block_lt_of_cell? _ _ e3)).trans e3
    have f5:=(hbr.cell (World.block_lt_of_cell? _ _ e5)).trans e5
    clear hbr
    by_cases hjl:j<ps.length
    ·obtain ⟨_,_,g1,_,_,hr⟩:=(uh Hip).below ((uh Hbq).trans ((uh Hbr).mono hz1))
     obtain ⟨_,_,g2,_,_,hr'⟩:=(uh Hiu).below ((uh Hbq).trans ((uh Hbr).mono hz1))
     cases g1
     cases g2
     rcases hr with h0 | ⟨pb,poff,rfl,hpbw,hpl⟩
     ·rw [h0] at hjl;simp at hjl
     rcases hr' with h0 | ⟨pb',poff',rfl,hpbw',hpl'⟩
     ·rw [h0] at hjl;simp at hjl
     obtain ⟨c0,c1⟩:=hpl j hjl
     obtain ⟨d0,d1⟩:=hpl' j hjl
     generalize (Z7 ps j).1=x at *
     generalize (Z7 ps j).2=y at *
     have k0:=cell_regrown f0
     have k1:=cell_regrown f1
     have k3:=cell_regrown f3
     have k5:=cell_regrown f5
     have k6:=cell_regrown c0
     have k7:=cell_regrown c1
     have k8:=cell_regrown d0
     have k9:=cell_regrown d1
     clear hpl hpl' e0 e1 e2 e3 e4 e5
     go_wp2_with fail
     refine wq ?_
     repeat (go_big_quiet_step (fail))
     refine wpQuiet_nil ?_
     intro _ hw'
     obtain ⟨⟨dr,osr⟩,hw''⟩:=hw'
     subst hw''
     go_wp2_with fail
     go_roundw
     case rel=>exact ⟨j+1,by omega,by go_num,(uh Hbr).trans ((below_regrown _ _ _).mono (uh Hbr).size)⟩
     case measure=>exact ms
    ·go_wp2_with fail
     go_roundw
     case rel=>exact ⟨k+1,by omega,by go_num,(uh Hb).trans (((uh Hbq).trans ((uh Hbr).mono hz1)).mono hzr)⟩
     case measure=>exact ms
  ·go_wp2_with fail
   go_ret
   exact ⟨rfl,uh BW⟩
set_option maxRecDepth 100000
theorem Ju (a b c:Int) (w:World):(Op.equalIn 10000 88 (.agg #[.int .i64 a,.int .i64 b,.int .i64 c]) (.agg #[.int .i64 a,.int .i64 b,.int .i64 c])).run Tryz.prog w= .ok true w:=by
 have u:=Tryz.underlying2
 have g:=Tryz.isAgg2
 have z:=Tryz.sizeOf2
 have hS:Tryz.prog.underlying 88=some (.struct (Tryz.prog.fieldsOf 88)):=by kernel_rfl
 have hp:Tryz.prog.stoodInHeld 88=false:=by kernel_rfl
 rw [show (10000:Nat)=9999+1 from rfl,run_equalIn_agg w 9999 88 _ _ hS hp]
 simp only [Program.fieldsOf,Tryz.underlying88]
 go_simp
theorem EC (a b c:Int) (w:World):(binOp .neq 88 (.agg #[.int .i64 a,.int .i64 b,.int .i64 c]) (.agg #[.int .i64 a,.int .i64 b,.int .i64 c])).run Tryz.prog w= .ok (.bool false) w:=by
 rw [run_neq_struct,Ju];rfl
theorem Gz (o:Bool) (b c:Int) (w:World):(Op.equalIn 10000 53 (.agg #[.bool o,.int .i64 b,.int .i64 c]) (.agg #[.bool o,.int .i64 b,.int .i64 c])).run Tryz.prog w= .ok true w:=by
 have u:=Tryz.underlying2
 have g:=Tryz.isAgg2
 have z:=Tryz.sizeOf2
 have u2:=Tryz.underlying4
 have g2:=Tryz.isAgg4
 have z2:=Tryz.sizeOf4
 have hS:Tryz.prog.underlying 53=some (.struct (Tryz.prog.fieldsOf 53)):=by kernel_rfl
 have hp:Tryz.prog.stoodInHeld 53=false:=by kernel_rfl
 rw [show (10000:Nat)=9999+1 from rfl,run_equalIn_agg w 9999 53 _ _ hS hp]
 simp only [Program.fieldsOf,Tryz.underlying53]
 go_simp
theorem C4 (o:Bool) (b c:Int) (w:World):(binOp .neq 53 (.agg #[.bool o,.int .i64 b,.int .i64 c]) (.agg #[.bool o,.int .i64 b,.int .i64 c])).run Tryz.prog w= .ok (.bool false) w:=by
 rw [run_neq_struct,Gz];rfl
theorem OO (st be rk my gu lo hi hd ca ut wk:Int) (w:World):(binOp .neq 39 (.agg (I11 st be rk my gu lo hi hd ca ut wk)) (.agg (I11 st be rk my gu lo hi hd ca ut wk))).run Tryz.prog w= .ok (.bool false) w:=by
 rw [QR,OL];rfl
theorem LL  {zs:List Int} (hv:Qg w v zs) (hu:Qg w u zs) :
  Calls Tryz.prog 46 #[v,u] w fun e w'=>e= .returned (.bool true)/\Below w.heap.size w w':=by
 obtain ⟨a,cap,rfl,hc,hm,hr⟩:=hv
 obtain ⟨a',cap',rfl,hc',hm',hr'⟩:=hu
 have Hr:=Z9 hr
 have Hr':=Z9 hr'
 clear hr hr'
 go_enter Tryz.func46,Tryz.ntmps46
 go_wp2_with fail
 go_loopw [5] (fun i wr=> ∃ k:Nat,k<=zs.length/\i= .int .i64 k/\Below w.heap.size w wr) (fun i _=>zs.length-(intOf i).toNat)
 case atStart=>exact ⟨0,Nat.zero_le _,rfl,Below.refl _ _⟩
 case round=>
  obtain ⟨k,hk,rfl,hb⟩:=hrel
  have Hb:=Z9 hb
  by_cases hlt:k<zs.length
  ·rcases uh Hr with h0 | ⟨b,off,rfl,hbw,hcl⟩
   ·rw [h0] at hlt;simp at hlt
   rcases uh Hr' with h0 | ⟨b',off',rfl,hbw',hcl'⟩
   ·rw [h0] at hlt;simp at hlt
   have c0:=Ow hcl hlt
   have d0:=Ow hcl' hlt
   rw [<-hb.cell (p:=⟨b,off+k,none⟩) hbw] at c0
   rw [<-hb.cell (p:=⟨b',off'+k,none⟩) hbw'] at d0
   generalize Z8 zs k=z at *
   clear hcl hcl' hb
   go_wp2_with fail
   go_quiet (fail)
   go_wp2_with fail
   go_roundw
   case rel=>exact ⟨k+1,by omega,by go_num,⟨(uh Hb).os,(uh Hb).tape,(uh Hb).output,(uh Hb).size,(uh Hb).block⟩⟩
   case measure=>exact ms
  ·go_wp2_with fail
   go_ret
   exact ⟨rfl,hb⟩
attribute [local go_sem ↓] EC C4 OO
theorem Ve  (h:Smy w v0 v1 v2 v3 v4 m) (g:Smy w u0 u1 u2 u3 u4 m) :
  Calls Tryz.prog 11 #[.agg #[v0,v1,v2,v3,v4,.int .i64 m.now],.agg #[u0,u1,u2,u3,u4,.int .i64 m.now]] w fun e w'=>e= .returned (.bool true)/\Below w.heap.size w w':=by
 have Hv:=Z9 h
 have Hu:=Z9 g
 obtain ⟨a0,p0,rfl,_,_⟩:=IsRooms.shape h.rooms
 obtain ⟨b0,q0,rfl,_,_⟩:=IsRooms.shape g.rooms
 obtain ⟨a1,p1,rfl,_,_⟩:=IsRec.shape h.guilds
 obtain ⟨b1,q1,rfl,_,_⟩:=IsRec.shape g.guilds
 obtain ⟨a2,p2,rfl,_,_⟩:=IsRec.shape h.smiths
 obtain ⟨b2,q2,rfl,_,_⟩:=IsRec.shape g.smiths
 obtain ⟨a3,p3,rfl,_,_⟩:=IsRec.shape h.desks
 obtain ⟨b3,q3,rfl,_,_⟩:=IsRec.shape g.desks
 obtain ⟨a4,p4,rfl,_,_⟩:=IsRec.shape h.paces
 obtain ⟨b4,q4,rfl,_,_⟩:=IsRec.shape g.paces
 clear h g
 have ka:Hid (Blk ((w.alloc (.cells (S6 a0 p0 a1 p1 a2 p2 a3 p3 a4 p4 m) 32)).alloc (.cells (S6 b0 q0 b1 q1 b2 q2 b3 q3 b4 q4 m) 32)) w.heap.size 32 (S6 a0 p0 a1 p1 a2 p2 a3 p3 a4 p4 m)):=Z9 ((Blk.new w _ _).alloc _)
 have kb:Hid (Blk ((w.alloc (.cells (S6 a0 p0 a1 p1 a2 p2 a3 p3 a4 p4 m) 32)).alloc (.cells (S6 b0 q0 b1 q1 b2 q2 b3 q3 b4 q4 m) 32)) (w.heap.size+1) 32 (S6 b0 q0 b1 q1 b2 q2 b3 q3 b4 q4 m)):=Z9 (by
  have k:=Blk.new (w.alloc (.cells (S6 a0 p0 a1 p1 a2 p2 a3 p3 a4 p4 m) 32)) 32 (S6 b0 q0 b1 q1 b2 q2 b3 q3 b4 q4 m)
  rw [World.size_alloc] at k
  exact k)
 have BB:Hid (Below w.heap.size w ((w.alloc (.cells (S6 a0 p0 a1 p1 a2 p2 a3 p3 a4 p4 m) 32)).alloc (.cells (S6 b0 q0 b1 q1 b2 q2 b3 q3 b4 q4 m) 32))):=Z9 (((ba _ _)).alloc (by simp) _)
 go_enter Tryz.func11,Tryz.ntmps11
 go_wp2_with fail
 generalize ((w.alloc (.cells (S6 a0 p0 a1 p1 a2 p2 a3 p3 a4 p4 m) 32)).alloc (.cells (S6 b0 q0 b1 q1 b2 q2 b3 q3 b4 q4 m) 32))=W at *
 refine ck (LK ((uh Hv).below (uh BB)).rooms ((uh Hu).below (uh BB)).rooms) fun w1 hb=> ?_
 replace ka:=bl ka hb
 replace kb:=bl kb hb
 replace BB:=bt BB hb
 clear hb
 obtain ⟨c0,c1,c2,c3,c4,c5⟩:=(uh ka).c6
 obtain ⟨d0,d1,d2,d3,d4,d5⟩:=(uh kb).c6
 go_wp2_with fail
 refine ck (LL ((uh Hv).below (uh BB)).paces ((uh Hu).below (uh BB)).paces) fun w2 hb=> ?_
 replace ka:=bl ka hb
 replace kb:=bl kb hb
 replace BB:=bt BB hb
 clear hb c0 c1 c2 c3 c4 c5 d0 d1 d2 d3 d4 d5
 obtain ⟨c0,c1,c2,c3,c4,c5⟩:=(uh ka).c6
 obtain ⟨d0,d1,d2,d3,d4,d5⟩:=(uh kb).c6
 go_wp2_with fail
 clear c0 c1 c2 c3 c4 c5 d0 d1 d2 d3 d4 d5
 go_loopw [5] (fun i wr=> ∃ k:Nat,k<=m.guilds.length/\i= .int .i64 k/\Blk wr w.heap.size 32 (S6 a0 p0 a1 p1 a2 p2 a3 p3 a4 p4 m)/\Blk wr (w.heap.size+1) 32 (S6 b0 q0 b1 q1 b2 q2 b3 q3 b4 q4 m)/\Below w.heap.size w wr) (fun i _=>m.guilds.length-(intOf i).toNat)
 case atStart=>exact ⟨0,Nat.zero_le _,rfl,uh ka,uh kb,uh BB⟩
 case round=>
  obtain ⟨k,hk,rfl,hka,hkb,hb⟩:=hrel
  have c1:=hka.cell (i:=1) rfl
  have d1:=hkb.cell (i:=1) rfl
  by_cases hlt:k<m.guilds.length
  ·have hlt1:(k:Int)<(m.guilds.length:Int):=by omega
   obtain ⟨_,_,he,_,hmx,r1⟩:=(uh Hv).guilds
   cases he
   obtain ⟨_,_,he,_,hmy,r2⟩:=(uh Hu).guilds
   cases he
   rcases r1 with e0 | ⟨b,off,rfl,hbw,hcl⟩
   ·rw [e0] at hlt;simp at hlt
   rcases r2 with e0 | ⟨b',off',rfl,hbw',hcl'⟩
   ·rw [e0] at hlt;simp at hlt
   obtain ⟨x0,x1,x2⟩:=WH hcl hlt
   obtain ⟨y0,y1,y2⟩:=WH hcl' hlt
   rw [<-hb.cell (p:=⟨b,off+k*3,none⟩) hbw] at x0
   rw [<-hb.cell (p:=⟨b',off'+k*3,none⟩) hbw'] at y0
   rw [<-hb.cell (p:=⟨b,off+k*3+1,none⟩) hbw] at x1
   rw [<-hb.cell (p:=⟨b',off'+k*3+1,none⟩) hbw'] at y1
   rw [<-hb.cell (p:=⟨b,off+k*3+2,none⟩) hbw] at x2
   rw [<-hb.cell (p:=⟨b',off'+k*3+2,none⟩) hbw'] at y2
   generalize Z8 m.guilds k=rr at *
   obtain ⟨ga,gb,gc⟩:=rr
   simp only at x0 x1 x2 y0 y1 y2
   have Ka:=Z9 hka
   have Kb:=Z9 hkb
   have Hb:=Z9 hb
   clear hcl hcl' hka hkb hb
   go_wp2_with fail
   go_quiet (fail)
   go_wp2_with fail
   go_roundw
   case rel=>exact ⟨k+1,by omega,by go_num,(uh Ka).same rfl,(uh Kb).same rfl,⟨(uh Hb).os,(uh Hb).tape,(uh Hb).output,(uh Hb).size,(uh Hb).block⟩⟩
   case measure=>exact ms
  ·obtain rfl:k=m.guilds.length:=by omega
   replace ka:=Z9 hka
   replace kb:=Z9 hkb
   replace BB:=Z9 hb
   clear hka hkb hb
   go_wp2_with fail
   go_loopw [6] (fun i wr=> ∃ k:Nat,k<=m.smiths.length/\i= .int .i64 k/\Blk wr w.heap.size 32 (S6 a0 p0 a1 p1 a2 p2 a3 p3 a4 p4 m)/\Blk wr (w.heap.size+1) 32 (S6 b0 q0 b1 q1 b2 q2 b3 q3 b4 q4 m)/\Below w.heap.size w wr) (fun i _=>m.smiths.length-(intOf i).toNat)
   case atStart=>exact ⟨0,Nat.zero_le _,rfl,uh ka,uh kb,uh BB⟩
   case round=>
    obtain ⟨k,hk,rfl,hka,hkb,hb⟩:=hrel
    have c2:=hka.cell (i:=2) rfl
    have d2:=hkb.cell (i:=2) rfl
    by_cases hlt:k<m.smiths.length
    ·have hlt1:(k:Int)<(m.smiths.length:Int):=by omega
     obtain ⟨_,_,he,_,hmx,r1⟩:=(uh Hv).smiths
     cases he
     obtain ⟨_,_,he,_,hmy,r2⟩:=(uh Hu).smiths
     cases he
     rcases r1 with e0 | ⟨b,off,rfl,hbw,hcl⟩
     ·rw [e0] at hlt;simp at hlt
     rcases r2 with e0 | ⟨b',off',rfl,hbw',hcl'⟩
     ·rw [e0] at hlt;simp at hlt
     obtain ⟨x0,x1,x2,x3,x4,x5,x6,x7,x8,x9,x10⟩:=ZC hcl hlt
     obtain ⟨y0,y1,y2,y3,y4,y5,y6,y7,y8,y9,y10⟩:=ZC hcl' hlt
     rw [<-hb.cell (p:=⟨b,off+k*11,none⟩) hbw] at x0
     rw [<-hb.cell (p:=⟨b',off'+k*11,none⟩) hbw'] at y0
     rw [<-hb.cell (p:=⟨b,off+k*11+1,none⟩) hbw] at x1
     rw [<-hb.cell (p:=⟨b',off'+k*11+1,none⟩) hbw'] at y1
     rw [<-hb.cell (p:=⟨b,off+k*11+2,none⟩) hbw] at x2
     rw [<-hb.cell (p:=⟨b',off'+k*11+2,none⟩) hbw'] at y2
     rw [<-hb.cell (p:=⟨b,off+k*11+3,none⟩) hbw] at x3
     rw [<-hb.cell (p:=⟨b',off'+k*11+3,none⟩) hbw'] at y3
     rw [<-hb.cell (p:=⟨b,off+k*11+4,none⟩) hbw] at x4
     rw [<-hb.cell (p:=⟨b',off'+k*11+4,none⟩) hbw'] at y4
     rw [<-hb.cell (p:=⟨b,off+k*11+5,none⟩) hbw] at x5
     rw [<-hb.cell (p:=⟨b',off'+k*11+5,none⟩) hbw'] at y5
     rw [<-hb.cell (p:=⟨b,off+k*11+6,none⟩) hbw] at x6
     rw [<-hb.cell (p:=⟨b',off'+k*11+6,none⟩) hbw'] at y6
     rw [<-hb.cell (p:=⟨b,off+k*11+7,none⟩) hbw] at x7
     rw [<-hb.cell (p:=⟨b',off'+k*11+7,none⟩) hbw'] at y7
     rw [<-hb.cell (p:=⟨b,off+k*11+8,none⟩) hbw] at x8
     rw [<-hb.cell (p:=⟨b',off'+k*11+8,none⟩) hbw'] at y8
     rw [<-hb.cell (p:=⟨b,off+k*11+9,none⟩) hbw] at x9
     rw [<-hb.cell (p:=⟨b',off'+k*11+9,none⟩) hbw'] at y9
     rw [<-hb.cell (p:=⟨b,off+k*11+10,none⟩) hbw] at x10
     rw [<-hb.cell (p:=⟨b',off'+k*11+10,none⟩) hbw'] at y10
     generalize Z8 m.smiths k=rr at *
     obtain ⟨st,be,rk,my,gu,lo,hi,hd,ca,ut,wk⟩:=rr
     simp only at x0 x1 x2 x3 x4 x5 x6 x7 x8 x9 x10 y0 y1 y2 y3 y4 y5 y6 y7 y8 y9 y10
     have Ka:=Z9 hka
     have Kb:=Z9 hkb
     have Hb:=Z9 hb
     clear hcl hcl' hka hkb hb
     go_wp2_with fail
     go_quiet (fail)
     go_wp2_with fail
     go_roundw
     case rel=>exact ⟨k+1,by omega,by go_num,(uh Ka).same rfl,(uh Kb).same rfl,⟨(uh Hb).os,(uh Hb).tape,(uh Hb).output,(uh Hb).size,(uh Hb).block⟩⟩
     case measure=>exact ms
    ·obtain rfl:k=m.smiths.length:=by omega
     replace ka:=Z9 hka
     replace kb:=Z9 hkb
     replace BB:=Z9 hb
     clear hka hkb hb
     go_wp2_with fail
     go_loopw [7] (fun i wr=> ∃ k:Nat,k<=m.desks.length/\i= .int .i64 k/\Blk wr w.heap.size 32 (S6 a0 p0 a1 p1 a2 p2 a3 p3 a4 p4 m)/\Blk wr (w.heap.size+1) 32 (S6 b0 q0 b1 q1 b2 q2 b3 q3 b4 q4 m)/\Below w.heap.size w wr) (fun i _=>m.desks.length-(intOf i).toNat)
     case atStart=>exact ⟨0,Nat.zero_le _,rfl,uh ka,uh kb,uh BB⟩
     case round=>
      obtain ⟨k,hk,rfl,hka,hkb,hb⟩:=hrel
      have c3:=hka.cell (i:=3) rfl
      have d3:=hkb.cell (i:=3) rfl
      by_cases hlt:k<m.desks.length
      ·have hlt1:(k:Int)<(m.desks.length:Int):=by omega
       obtain ⟨_,_,he,_,hmx,r1⟩:=(uh Hv).desks
       cases he
       obtain ⟨_,_,he,_,hmy,r2⟩:=(uh Hu).desks
       cases he
       rcases r1 with e0 | ⟨b,off,rfl,hbw,hcl⟩
       ·rw [e0] at hlt;simp at hlt
       rcases r2 with e0 | ⟨b',off',rfl,hbw',hcl'⟩
       ·rw [e0] at hlt;simp at hlt
       obtain ⟨x0,x1,x2⟩:=Zp hcl hlt
       obtain ⟨y0,y1,y2⟩:=Zp hcl' hlt
       rw [<-hb.cell (p:=⟨b,off+k*3,none⟩) hbw] at x0
       rw [<-hb.cell (p:=⟨b',off'+k*3,none⟩) hbw'] at y0
       rw [<-hb.cell (p:=⟨b,off+k*3+1,none⟩) hbw] at x1
       rw [<-hb.cell (p:=⟨b',off'+k*3+1,none⟩) hbw'] at y1
       rw [<-hb.cell (p:=⟨b,off+k*3+2,none⟩) hbw] at x2
       rw [<-hb.cell (p:=⟨b',off'+k*3+2,none⟩) hbw'] at y2
       generalize Z8 m.desks k=rr at *
       obtain ⟨op,who,mk⟩:=rr
       simp only at x0 x1 x2 y0 y1 y2
       have Ka:=Z9 hka
       have Kb:=Z9 hkb
       have Hb:=Z9 hb
       clear hcl hcl' hka hkb hb
       go_wp2_with fail
       go_quiet (fail)
       go_wp2_with fail
       go_roundw
       case rel=>exact ⟨k+1,by omega,by go_num,(uh Ka).same rfl,(uh Kb).same rfl,⟨(uh Hb).os,(uh Hb).tape,(uh Hb).output,(uh Hb).size,(uh Hb).block⟩⟩
       case measure=>exact ms
      ·obtain rfl:k=m.desks.length:=by omega
       replace ka:=Z9 hka
       replace kb:=Z9 hkb
       replace BB:=Z9 hb
       clear hka hkb hb
       go_wp2_with fail
       go_ret
       exact ⟨rfl,uh BB⟩
end Go.Proofs.YtffcgajndmhpkaaGreatDoor
