/- Part 35 of what the proof rests on. No condition but those that a theorem names. -/
import Derived.Test.YthbbahagpmdooaaGreatXq27
import Derived.Test.YthbbahagpmdooaaGreatXq29
import Derived.Test.YthbbahagpmdooaaGreatXq31
import Derived.Test.YthbbahagpmdooaaGreatXq33
import Derived.Test.YthbbahagpmdooaaGreatXq34
set_option maxHeartbeats 8000000
set_option maxRecDepth 100000
namespace Go.Proofs.YthbbahagpmdooaaGreat
open Go.ChangeShapes Go.WideShapes Go.ChangeAt Go.RowKit Go.Sort
set_option linter.unusedVariables false
set_option linter.unusedSimpArgs false
set_option maxRecDepth 100000
variable {w w' w0 w1 w2 w3 w₀ wr W W' X A B C : World} {v v0 v1 v2 v3 v4 u u0 u1 u2 u3 u4 : Value} {m : Z4}
theorem JK  (k who a b:Int) (hok:ZO m=false) (h:Smy w v0 v1 v2 v3 v4 m) :
  Calls Tryz.prog 145 #[.agg #[v0,v1,v2,v3,v4,.int .i64 m.now],.agg #[.int .i64 k,.int .i64 who,.int .i64 a,.int .i64 b]] w fun e w'=>WS w.heap.size ((Yp,(3:Int))).1 ((Yp,(3:Int))).2 e w'/\Below w.heap.size w w':=by
 have Hv0:=Z9 h
 have Hok:=Z9 hok
 clear hok
 obtain ⟨a0,p0,a1,p1,a2,p2,a3,p3,a4,p4,rfl,rfl,rfl,rfl,rfl,_,_,_,_,_,_,_,_,_,_⟩:=h.five
 clear h
 go_enter Tryz.func145,Tryz.ntmps145
 go_wp2_with fail
 obtain ⟨W,hW,kb,ka,kr,BB⟩:=Zq w 32 (S6 a0 p0 a1 p1 a2 p2 a3 p3 a4 p4 m) 168 #[.int .i64 k,.int .i64 who,.int .i64 a,.int .i64 b] 32 E6
 have Hv:=Z9 ((uh Hv0).below (uh BB))
 rw [hW]
 clear hW
 refine (Zi (uh Hok) (uh Hv)).mono ?_
 rintro e w1 ⟨rfl,hb⟩
 replace Hv:=Z9 ((uh Hv).below hb)
 replace kb:=bl kb hb
 replace ka:=bl ka hb
 replace kr:=bl kr hb
 replace BB:=bt BB hb
 clear hb
 obtain ⟨c0,c1,c2,c3,c4,c5⟩:=(uh kb).c6
 go_wp2_with fail
 clear c0 c1 c2 c3 c4 c5
 refine (Yz (uh Hv)).mono ?_
 rintro e w2 ⟨rfl,hb⟩
 replace Hv:=Z9 ((uh Hv).below hb)
 replace kb:=bl kb hb
 replace ka:=bl ka hb
 replace kr:=bl kr hb
 replace BB:=bt BB hb
 clear hb
 obtain ⟨o0,o1,o2,o3,o4,o5⟩:=(uh kr).c6
 obtain ⟨f0,f1,f2,f3,f4,f5⟩:=(uh kr).f6
 go_wp2_with fail
 refine bodyPost_ret (v:= .tuple #[.agg #[.slice none 0 0,.slice none 0 0,.slice none 0 0,.slice none 0 0,.slice none 0 0,.int .i64 0],.int .i64 3]) (by simp [results,Tryz.results145,go_sem, *]) rfl ⟨⟨_,_,_,_,_,[],rfl,YC _ _⟩,?_⟩
 iterate 6 (refine Below.setCell ?_ (by show _<=w.heap.size+1+1;omega) _)
 exact uh BB
theorem GN  (who a b:Int) (hok:ZO m=true) (h:Smy w v0 v1 v2 v3 v4 m) :
  Calls Tryz.prog 145 #[.agg #[v0,v1,v2,v3,v4,.int .i64 m.now],.agg #[.int .i64 1,.int .i64 who,.int .i64 a,.int .i64 b]] w fun e w'=>WS w.heap.size (VQ m a b (-1)).1 (VQ m a b (-1)).2 e w'/\Below w.heap.size w w':=by
 have Hok:=Z9 hok
 clear hok
 obtain ⟨Y,hY⟩:∃ y,VQ m a b (-1)=y:=⟨_,rfl⟩
 rw [hY]
 have HY:=Z9 hY
 clear hY
 have Hv0:=Z9 h
 obtain ⟨a0,p0,a1,p1,a2,p2,a3,p3,a4,p4,rfl,rfl,rfl,rfl,rfl,_,_,_,_,_,_,_,_,_,_⟩:=h.five
 clear h
 go_enter Tryz.func145,Tryz.ntmps145
 go_wp2_with fail
 obtain ⟨W,hW,kb,ka,kr,BB⟩:=Zq w 32 (S6 a0 p0 a1 p1 a2 p2 a3 p3 a4 p4 m) 168 #[.int .i64 1,.int .i64 who,.int .i64 a,.int .i64 b] 32 E6
 have Hv:=Z9 ((uh Hv0).below (uh BB))
 rw [hW]
 clear hW
 refine (Zi (uh Hok) (uh Hv)).mono ?_
 rintro e w1 ⟨rfl,hb⟩
 replace Hv:=Z9 ((uh Hv).below hb)
 replace kb:=bl kb hb
 replace ka:=bl ka hb
 replace kr:=bl kr hb
 replace BB:=bt BB hb
 clear hb
 obtain ⟨c0,c1,c2,c3,c4,c5⟩:=(uh kb).c6
 obtain ⟨d0,d1,d2,d3⟩:=(uh ka).c4
 go_wp2_with fail
 clear c0 c1 c2 c3 c4 c5
 clear d0 d1 d2 d3
 refine (NK a b (-1) (uh Hv)).mono ?_
 rw [uh HY]
 obtain ⟨M,cd⟩:=Y
 rintro e w2 ⟨⟨y0,y1,y2,y3,y4,oq,rfl,ho⟩,hb⟩
 dsimp only at ho ⊢
 have k9:=ho.smy
 obtain ⟨b0,q0,b1,q1,b2,q2,b3,q3,b4,q4,rfl,rfl,rfl,rfl,rfl,_,_,_,_,_,_,_,_,_,_⟩:=k9.five
 have hW3:w.heap.size+3<=w1.heap.size:=by have:=(uh kr).lt;omega
 have HO:=Z9 (ho.mono hW3)
 clear ho k9 hW3
 replace Hv:=Z9 ((uh Hv).below hb)
 replace kb:=bl kb hb
 replace ka:=bl ka hb
 replace kr:=bl kr hb
 replace BB:=bt BB hb
 clear hb
 obtain ⟨o0,o1,o2,o3,o4,o5⟩:=(uh kr).c6
 obtain ⟨f0,f1,f2,f3,f4,f5⟩:=(uh kr).f6
 go_wp2_with fail
 refine bodyPost_ret (v:= .tuple #[.agg #[.slice b0 M.rooms.length q0,.slice b1 M.guilds.length q1,.slice b2 M.smiths.length q2,.slice b3 M.desks.length q3,.slice b4 M.paces.length q4,.int .i64 M.now],.int .i64 cd]) (by simp [results,Tryz.results145,go_sem, *]) rfl ⟨⟨_,_,_,_,_,oq,rfl,?_⟩,?_⟩
 ·refine FullSmy.mono (n₀:=w.heap.size+3) ?_ (by omega)
  iterate 6 (refine FullSmy.set ?_ _ _ _ (by omega))
  exact uh HO
 ·iterate 6 (refine Below.setCell ?_ (by show _<=w.heap.size+1+1;omega) _)
  exact uh BB
theorem GO  (who a b:Int) (hok:ZO m=true) (h:Smy w v0 v1 v2 v3 v4 m) :
  Calls Tryz.prog 145 #[.agg #[v0,v1,v2,v3,v4,.int .i64 m.now],.agg #[.int .i64 2,.int .i64 who,.int .i64 a,.int .i64 b]] w fun e w'=>WS w.heap.size (Vg m who).1 (Vg m who).2 e w'/\Below w.heap.size w w':=by
 have Hok:=Z9 hok
 clear hok
 obtain ⟨Y,hY⟩:∃ y,Vg m who=y:=⟨_,rfl⟩
 rw [hY]
 have HY:=Z9 hY
 clear hY
 have Hv0:=Z9 h
 obtain ⟨a0,p0,a1,p1,a2,p2,a3,p3,a4,p4,rfl,rfl,rfl,rfl,rfl,_,_,_,_,_,_,_,_,_,_⟩:=h.five
 clear h
 go_enter Tryz.func145,Tryz.ntmps145
 go_wp2_with fail
 obtain ⟨W,hW,kb,ka,kr,BB⟩:=Zq w 32 (S6 a0 p0 a1 p1 a2 p2 a3 p3 a4 p4 m) 168 #[.int .i64 2,.int .i64 who,.int .i64 a,.int .i64 b] 32 E6
 have Hv:=Z9 ((uh Hv0).below (uh BB))
 rw [hW]
 clear hW
 refine (Zi (uh Hok) (uh Hv)).mono ?_
 rintro e w1 ⟨rfl,hb⟩
 replace Hv:=Z9 ((uh Hv).below hb)
 replace kb:=bl kb hb
 replace ka:=bl ka hb
 replace kr:=bl kr hb
 replace BB:=bt BB hb
 clear hb
 obtain ⟨c0,c1,c2,c3,c4,c5⟩:=(uh kb).c6
 obtain ⟨d0,d1,d2,d3⟩:=(uh ka).c4
 go_wp2_with fail
 clear c0 c1 c2 c3 c4 c5
 clear d0 d1 d2 d3
 refine (NL who (uh Hv)).mono ?_
 rw [uh HY]
 obtain ⟨M,cd⟩:=Y
 rintro e w2 ⟨⟨y0,y1,y2,y3,y4,oq,rfl,ho⟩,hb⟩
 dsimp only at ho ⊢
 have k9:=ho.smy
 obtain ⟨b0,q0,b1,q1,b2,q2,b3,q3,b4,q4,rfl,rfl,rfl,rfl,rfl,_,_,_,_,_,_,_,_,_,_⟩:=k9.five
 have hW3:w.heap.size+3<=w1.heap.size:=by have:=(uh kr).lt;omega
 have HO:=Z9 (ho.mono hW3)
 clear ho k9 hW3
 replace Hv:=Z9 ((uh Hv).below hb)
 replace kb:=bl kb hb
 replace ka:=bl ka hb
 replace kr:=bl kr hb
 replace BB:=bt BB hb
 clear hb
 obtain ⟨o0,o1,o2,o3,o4,o5⟩:=(uh kr).c6
 obtain ⟨f0,f1,f2,f3,f4,f5⟩:=(uh kr).f6
 go_wp2_with fail
 refine bodyPost_ret (v:= .tuple #[.agg #[.slice b0 M.rooms.length q0,.slice b1 M.guilds.length q1,.slice b2 M.smiths.length q2,.slice b3 M.desks.length q3,.slice b4 M.paces.length q4,.int .i64 M.now],.int .i64 cd]) (by simp [results,Tryz.results145,go_sem, *]) rfl ⟨⟨_,_,_,_,_,oq,rfl,?_⟩,?_⟩
 ·refine FullSmy.mono (n₀:=w.heap.size+3) ?_ (by omega)
  iterate 6 (refine FullSmy.set ?_ _ _ _ (by omega))
  exact uh HO
 ·iterate 6 (refine Below.setCell ?_ (by show _<=w.heap.size+1+1;omega) _)
  exact uh BB
theorem GP  (who a b:Int) (hok:ZO m=true) (h:Smy w v0 v1 v2 v3 v4 m) :
  Calls Tryz.prog 145 #[.agg #[v0,v1,v2,v3,v4,.int .i64 m.now],.agg #[.int .i64 3,.int .i64 who,.int .i64 a,.int .i64 b]] w fun e w'=>WS w.heap.size (VT m who).1 (VT m who).2 e w'/\Below w.heap.size w w':=by
 have Hok:=Z9 hok
 clear hok
 obtain ⟨Y,hY⟩:∃ y,VT m who=y:=⟨_,rfl⟩
 rw [hY]
 have HY:=Z9 hY
 clear hY
 have Hv0:=Z9 h
 obtain ⟨a0,p0,a1,p1,a2,p2,a3,p3,a4,p4,rfl,rfl,rfl,rfl,rfl,_,_,_,_,_,_,_,_,_,_⟩:=h.five
 clear h
 go_enter Tryz.func145,Tryz.ntmps145
 go_wp2_with fail
 obtain ⟨W,hW,kb,ka,kr,BB⟩:=Zq w 32 (S6 a0 p0 a1 p1 a2 p2 a3 p3 a4 p4 m) 168 #[.int .i64 3,.int .i64 who,.int .i64 a,.int .i64 b] 32 E6
 have Hv:=Z9 ((uh Hv0).below (uh BB))
 rw [hW]
 clear hW
 refine (Zi (uh Hok) (uh Hv)).mono ?_
 rintro e w1 ⟨rfl,hb⟩
 replace Hv:=Z9 ((uh Hv).below hb)
 replace kb:=bl kb hb
 replace ka:=bl ka hb
 replace kr:=bl kr hb
 replace BB:=bt BB hb
 clear hb
 obtain ⟨c0,c1,c2,c3,c4,c5⟩:=(uh kb).c6
 obtain ⟨d0,d1,d2,d3⟩:=(uh ka).c4
 go_wp2_with fail
 clear c0 c1 c2 c3 c4 c5
 clear d0 d1 d2 d3
 refine (NM who (uh Hv)).mono ?_
 rw [uh HY]
 obtain ⟨M,cd⟩:=Y
 rintro e w2 ⟨⟨y0,y1,y2,y3,y4,oq,rfl,ho⟩,hb⟩
 dsimp only at ho ⊢
 have k9:=ho.smy
 obtain ⟨b0,q0,b1,q1,b2,q2,b3,q3,b4,q4,rfl,rfl,rfl,rfl,rfl,_,_,_,_,_,_,_,_,_,_⟩:=k9.five
 have hW3:w.heap.size+3<=w1.heap.size:=by have:=(uh kr).lt;omega
 have HO:=Z9 (ho.mono hW3)
 clear ho k9 hW3
 replace Hv:=Z9 ((uh Hv).below hb)
 replace kb:=bl kb hb
 replace ka:=bl ka hb
 replace kr:=bl kr hb
 replace BB:=bt BB hb
 clear hb
 obtain ⟨o0,o1,o2,o3,o4,o5⟩:=(uh kr).c6
 obtain ⟨f0,f1,f2,f3,f4,f5⟩:=(uh kr).f6
 go_wp2_with fail
 refine bodyPost_ret (v:= .tuple #[.agg #[.slice b0 M.rooms.length q0,.slice b1 M.guilds.length q1,.slice b2 M.smiths.length q2,.slice b3 M.desks.length q3,.slice b4 M.paces.length q4,.int .i64 M.now],.int .i64 cd]) (by simp [results,Tryz.results145,go_sem, *]) rfl ⟨⟨_,_,_,_,_,oq,rfl,?_⟩,?_⟩
 ·refine FullSmy.mono (n₀:=w.heap.size+3) ?_ (by omega)
  iterate 6 (refine FullSmy.set ?_ _ _ _ (by omega))
  exact uh HO
 ·iterate 6 (refine Below.setCell ?_ (by show _<=w.heap.size+1+1;omega) _)
  exact uh BB
theorem GQ  (who a b:Int) (hok:ZO m=true) (h:Smy w v0 v1 v2 v3 v4 m) :
  Calls Tryz.prog 145 #[.agg #[v0,v1,v2,v3,v4,.int .i64 m.now],.agg #[.int .i64 4,.int .i64 who,.int .i64 a,.int .i64 b]] w fun e w'=>WS w.heap.size (Wu m who).1 (Wu m who).2 e w'/\Below w.heap.size w w':=by
 have Hok:=Z9 hok
 clear hok
 obtain ⟨Y,hY⟩:∃ y,Wu m who=y:=⟨_,rfl⟩
 rw [hY]
 have HY:=Z9 hY
 clear hY
 have Hv0:=Z9 h
 obtain ⟨a0,p0,a1,p1,a2,p2,a3,p3,a4,p4,rfl,rfl,rfl,rfl,rfl,_,_,_,_,_,_,_,_,_,_⟩:=h.five
 clear h
 go_enter Tryz.func145,Tryz.ntmps145
 go_wp2_with fail
 obtain ⟨W,hW,kb,ka,kr,BB⟩:=Zq w 32 (S6 a0 p0 a1 p1 a2 p2 a3 p3 a4 p4 m) 168 #[.int .i64 4,.int .i64 who,.int .i64 a,.int .i64 b] 32 E6
 have Hv:=Z9 ((uh Hv0).below (uh BB))
 rw [hW]
 clear hW
 refine (Zi (uh Hok) (uh Hv)).mono ?_
 rintro e w1 ⟨rfl,hb⟩
 replace Hv:=Z9 ((uh Hv).below hb)
 replace kb:=bl kb hb
 replace ka:=bl ka hb
 replace kr:=bl kr hb
 replace BB:=bt BB hb
 clear hb
 obtain ⟨c0,c1,c2,c3,c4,c5⟩:=(uh kb).c6
 obtain ⟨d0,d1,d2,d3⟩:=(uh ka).c4
 go_wp2_with fail
 clear c0 c1 c2 c3 c4 c5
 clear d0 d1 d2 d3
 refine (OV who (uh Hv)).mono ?_
 rw [uh HY]
 obtain ⟨M,cd⟩:=Y
 rintro e w2 ⟨⟨y0,y1,y2,y3,y4,oq,rfl,ho⟩,hb⟩
 dsimp only at ho ⊢
 have k9:=ho.smy
 obtain ⟨b0,q0,b1,q1,b2,q2,b3,q3,b4,q4,rfl,rfl,rfl,rfl,rfl,_,_,_,_,_,_,_,_,_,_⟩:=k9.five
 have hW3:w.heap.size+3<=w1.heap.size:=by have:=(uh kr).lt;omega
 have HO:=Z9 (ho.mono hW3)
 clear ho k9 hW3
 replace Hv:=Z9 ((uh Hv).below hb)
 replace kb:=bl kb hb
 replace ka:=bl ka hb
 replace kr:=bl kr hb
 replace BB:=bt BB hb
 clear hb
 obtain ⟨o0,o1,o2,o3,o4,o5⟩:=(uh kr).c6
 obtain ⟨f0,f1,f2,f3,f4,f5⟩:=(uh kr).f6
 go_wp2_with fail
 refine bodyPost_ret (v:= .tuple #[.agg #[.slice b0 M.rooms.length q0,.slice b1 M.guilds.length q1,.slice b2 M.smiths.length q2,.slice b3 M.desks.length q3,.slice b4 M.paces.length q4,.int .i64 M.now],.int .i64 cd]) (by simp [results,Tryz.results145,go_sem, *]) rfl ⟨⟨_,_,_,_,_,oq,rfl,?_⟩,?_⟩
 ·refine FullSmy.mono (n₀:=w.heap.size+3) ?_ (by omega)
  iterate 6 (refine FullSmy.set ?_ _ _ _ (by omega))
  exact uh HO
 ·iterate 6 (refine Below.setCell ?_ (by show _<=w.heap.size+1+1;omega) _)
  exact uh BB
theorem GR  (who a b:Int) (hok:ZO m=true) (h:Smy w v0 v1 v2 v3 v4 m) :
  Calls Tryz.prog 145 #[.agg #[v0,v1,v2,v3,v4,.int .i64 m.now],.agg #[.int .i64 5,.int .i64 who,.int .i64 a,.int .i64 b]] w fun e w'=>WS w.heap.size (WJ m who a).1 (WJ m who a).2 e w'/\Below w.heap.size w w':=by
 have Hok:=Z9 hok
 clear hok
 obtain ⟨Y,hY⟩:∃ y,WJ m who a=y:=⟨_,rfl⟩
 rw [hY]
 have HY:=Z9 hY
 clear hY
 have Hv0:=Z9 h
 obtain ⟨a0,p0,a1,p1,a2,p2,a3,p3,a4,p4,rfl,rfl,rfl,rfl,rfl,_,_,_,_,_,_,_,_,_,_⟩:=h.five
 clear h
 go_enter Tryz.func145,Tryz.ntmps145
 go_wp2_with fail
 obtain ⟨W,hW,kb,ka,kr,BB⟩:=Zq w 32 (S6 a0 p0 a1 p1 a2 p2 a3 p3 a4 p4 m) 168 #[.int .i64 5,.int .i64 who,.int .i64 a,.int .i64 b] 32 E6
 have Hv:=Z9 ((uh Hv0).below (uh BB))
 rw [hW]
 clear hW
 refine (Zi (uh Hok) (uh Hv)).mono ?_
 rintro e w1 ⟨rfl,hb⟩
 replace Hv:=Z9 ((uh Hv).below hb)
 replace kb:=bl kb hb
 replace ka:=bl ka hb
 replace kr:=bl kr hb
 replace BB:=bt BB hb
 clear hb
 obtain ⟨c0,c1,c2,c3,c4,c5⟩:=(uh kb).c6
 obtain ⟨d0,d1,d2,d3⟩:=(uh ka).c4
 go_wp2_with fail
 clear c0 c1 c2 c3 c4 c5
 clear d0 d1 d2 d3
 refine (P8 who a (uh Hv)).mono ?_
 rw [uh HY]
 obtain ⟨M,cd⟩:=Y
 rintro e w2 ⟨⟨y0,y1,y2,y3,y4,oq,rfl,ho⟩,hb⟩
 dsimp only at ho ⊢
 have k9:=ho.smy
 obtain ⟨b0,q0,b1,q1,b2,q2,b3,q3,b4,q4,rfl,rfl,rfl,rfl,rfl,_,_,_,_,_,_,_,_,_,_⟩:=k9.five
 have hW3:w.heap.size+3<=w1.heap.size:=by have:=(uh kr).lt;omega
 have HO:=Z9 (ho.mono hW3)
 clear ho k9 hW3
 replace Hv:=Z9 ((uh Hv).below hb)
 replace kb:=bl kb hb
 replace ka:=bl ka hb
 replace kr:=bl kr hb
 replace BB:=bt BB hb
 clear hb
 obtain ⟨o0,o1,o2,o3,o4,o5⟩:=(uh kr).c6
 obtain ⟨f0,f1,f2,f3,f4,f5⟩:=(uh kr).f6
 go_wp2_with fail
 refine bodyPost_ret (v:= .tuple #[.agg #[.slice b0 M.rooms.length q0,.slice b1 M.guilds.length q1,.slice b2 M.smiths.length q2,.slice b3 M.desks.length q3,.slice b4 M.paces.length q4,.int .i64 M.now],.int .i64 cd]) (by simp [results,Tryz.results145,go_sem, *]) rfl ⟨⟨_,_,_,_,_,oq,rfl,?_⟩,?_⟩
 ·refine FullSmy.mono (n₀:=w.heap.size+3) ?_ (by omega)
  iterate 6 (refine FullSmy.set ?_ _ _ _ (by omega))
  exact uh HO
 ·iterate 6 (refine Below.setCell ?_ (by show _<=w.heap.size+1+1;omega) _)
  exact uh BB
theorem GS  (who a b:Int) (hok:ZO m=true) (h:Smy w v0 v1 v2 v3 v4 m) :
  Calls Tryz.prog 145 #[.agg #[v0,v1,v2,v3,v4,.int .i64 m.now],.agg #[.int .i64 6,.int .i64 who,.int .i64 a,.int .i64 b]] w fun e w'=>WS w.heap.size (Xv m who a).1 (Xv m who a).2 e w'/\Below w.heap.size w w':=by
 have Hok:=Z9 hok
 clear hok
 obtain ⟨Y,hY⟩:∃ y,Xv m who a=y:=⟨_,rfl⟩
 rw [hY]
 have HY:=Z9 hY
 clear hY
 have Hv0:=Z9 h
 obtain ⟨a0,p0,a1,p1,a2,p2,a3,p3,a4,p4,rfl,rfl,rfl,rfl,rfl,_,_,_,_,_,_,_,_,_,_⟩:=h.five
 clear h
 go_enter Tryz.func145,Tryz.ntmps145
 go_wp2_with fail
 obtain ⟨W,hW,kb,ka,kr,BB⟩:=Zq w 32 (S6 a0 p0 a1 p1 a2 p2 a3 p3 a4 p4 m) 168 #[.int .i64 6,.int .i64 who,.int .i64 a,.int .i64 b] 32 E6
 have Hv:=Z9 ((uh Hv0).below (uh BB))
 rw [hW]
 clear hW
 refine (Zi (uh Hok) (uh Hv)).mono ?_
 rintro e w1 ⟨rfl,hb⟩
 replace Hv:=Z9 ((uh Hv).below hb)
 replace kb:=bl kb hb
 replace ka:=bl ka hb
 replace kr:=bl kr hb
 replace BB:=bt BB hb
 clear hb
 obtain ⟨c0,c1,c2,c3,c4,c5⟩:=(uh kb).c6
 obtain ⟨d0,d1,d2,d3⟩:=(uh ka).c4
 go_wp2_with fail
 clear c0 c1 c2 c3 c4 c5
 clear d0 d1 d2 d3
 refine (QB who a (uh Hv)).mono ?_
 rw [uh HY]
 obtain ⟨M,cd⟩:=Y
 rintro e w2 ⟨⟨y0,y1,y2,y3,y4,oq,rfl,ho⟩,hb⟩
 dsimp only at ho ⊢
 have k9:=ho.smy
 obtain ⟨b0,q0,b1,q1,b2,q2,b3,q3,b4,q4,rfl,rfl,rfl,rfl,rfl,_,_,_,_,_,_,_,_,_,_⟩:=k9.five
 have hW3:w.heap.size+3<=w1.heap.size:=by have:=(uh kr).lt;omega
 have HO:=Z9 (ho.mono hW3)
 clear ho k9 hW3
 replace Hv:=Z9 ((uh Hv).below hb)
 replace kb:=bl kb hb
 replace ka:=bl ka hb
 replace kr:=bl kr hb
 replace BB:=bt BB hb
 clear hb
 obtain ⟨o0,o1,o2,o3,o4,o5⟩:=(uh kr).c6
 obtain ⟨f0,f1,f2,f3,f4,f5⟩:=(uh kr).f6
 go_wp2_with fail
 refine bodyPost_ret (v:= .tuple #[.agg #[.slice b0 M.rooms.length q0,.slice b1 M.guilds.length q1,.slice b2 M.smiths.length q2,.slice b3 M.desks.length q3,.slice b4 M.paces.length q4,.int .i64 M.now],.int .i64 cd]) (by simp [results,Tryz.results145,go_sem, *]) rfl ⟨⟨_,_,_,_,_,oq,rfl,?_⟩,?_⟩
 ·refine FullSmy.mono (n₀:=w.heap.size+3) ?_ (by omega)
  iterate 6 (refine FullSmy.set ?_ _ _ _ (by omega))
  exact uh HO
 ·iterate 6 (refine Below.setCell ?_ (by show _<=w.heap.size+1+1;omega) _)
  exact uh BB
theorem GU  (who a b:Int) (hok:ZO m=true) (h:Smy w v0 v1 v2 v3 v4 m) :
  Calls Tryz.prog 145 #[.agg #[v0,v1,v2,v3,v4,.int .i64 m.now],.agg #[.int .i64 7,.int .i64 who,.int .i64 a,.int .i64 b]] w fun e w'=>WS w.heap.size (WH m who a b).1 (WH m who a b).2 e w'/\Below w.heap.size w w':=by
 have Hok:=Z9 hok
 clear hok
 obtain ⟨Y,hY⟩:∃ y,WH m who a b=y:=⟨_,rfl⟩
 rw [hY]
 have HY:=Z9 hY
 clear hY
 have Hv0:=Z9 h
 obtain ⟨a0,p0,a1,p1,a2,p2,a3,p3,a4,p4,rfl,rfl,rfl,rfl,rfl,_,_,_,_,_,_,_,_,_,_⟩:=h.five
 clear h
 go_enter Tryz.func145,Tryz.ntmps145
 go_wp2_with fail
 obtain ⟨W,hW,kb,ka,kr,BB⟩:=Zq w 32 (S6 a0 p0 a1 p1 a2 p2 a3 p3 a4 p4 m) 168 #[.int .i64 7,.int .i64 who,.int .i64 a,.int .i64 b] 32 E6
 have Hv:=Z9 ((uh Hv0).below (uh BB))
 rw [hW]
 clear hW
 refine (Zi (uh Hok) (uh Hv)).mono ?_
 rintro e w1 ⟨rfl,hb⟩
 replace Hv:=Z9 ((uh Hv).below hb)
 replace kb:=bl kb hb
 replace ka:=bl ka hb
 replace kr:=bl kr hb
 replace BB:=bt BB hb
 clear hb
 obtain ⟨c0,c1,c2,c3,c4,c5⟩:=(uh kb).c6
 obtain ⟨d0,d1,d2,d3⟩:=(uh ka).c4
 go_wp2_with fail
 clear c0 c1 c2 c3 c4 c5
 clear d0 d1 d2 d3
 refine (QF who a b (uh Hv)).mono ?_
 rw [uh HY]
 obtain ⟨M,cd⟩:=Y
 rintro e w2 ⟨⟨y0,y1,y2,y3,y4,oq,rfl,ho⟩,hb⟩
 dsimp only at ho ⊢
 have k9:=ho.smy
 obtain ⟨b0,q0,b1,q1,b2,q2,b3,q3,b4,q4,rfl,rfl,rfl,rfl,rfl,_,_,_,_,_,_,_,_,_,_⟩:=k9.five
 have hW3:w.heap.size+3<=w1.heap.size:=by have:=(uh kr).lt;omega
 have HO:=Z9 (ho.mono hW3)
 clear ho k9 hW3
 replace Hv:=Z9 ((uh Hv).below hb)
 replace kb:=bl kb hb
 replace ka:=bl ka hb
 replace kr:=bl kr hb
 replace BB:=bt BB hb
 clear hb
 obtain ⟨o0,o1,o2,o3,o4,o5⟩:=(uh kr).c6
 obtain ⟨f0,f1,f2,f3,f4,f5⟩:=(uh kr).f6
 go_wp2_with fail
 refine bodyPost_ret (v:= .tuple #[.agg #[.slice b0 M.rooms.length q0,.slice b1 M.guilds.length q1,.slice b2 M.smiths.length q2,.slice b3 M.desks.length q3,.slice b4 M.paces.length q4,.int .i64 M.now],.int .i64 cd]) (by simp [results,Tryz.results145,go_sem, *]) rfl ⟨⟨_,_,_,_,_,oq,rfl,?_⟩,?_⟩
 ·refine FullSmy.mono (n₀:=w.heap.size+3) ?_ (by omega)
  iterate 6 (refine FullSmy.set ?_ _ _ _ (by omega))
  exact uh HO
 ·iterate 6 (refine Below.setCell ?_ (by show _<=w.heap.size+1+1;omega) _)
  exact uh BB
theorem GV  (who a b:Int) (hok:ZO m=true) (h:Smy w v0 v1 v2 v3 v4 m) :
  Calls Tryz.prog 145 #[.agg #[v0,v1,v2,v3,v4,.int .i64 m.now],.agg #[.int .i64 8,.int .i64 who,.int .i64 a,.int .i64 b]] w fun e w'=>WS w.heap.size (XM m a).1 (XM m a).2 e w'/\Below w.heap.size w w':=by
 have Hok:=Z9 hok
 clear hok
 obtain ⟨Y,hY⟩:∃ y,XM m a=y:=⟨_,rfl⟩
 rw [hY]
 have HY:=Z9 hY
 clear hY
 have Hv0:=Z9 h
 obtain ⟨a0,p0,a1,p1,a2,p2,a3,p3,a4,p4,rfl,rfl,rfl,rfl,rfl,_,_,_,_,_,_,_,_,_,_⟩:=h.five
 clear h
 go_enter Tryz.func145,Tryz.ntmps145
 go_wp2_with fail
 obtain ⟨W,hW,kb,ka,kr,BB⟩:=Zq w 32 (S6 a0 p0 a1 p1 a2 p2 a3 p3 a4 p4 m) 168 #[.int .i64 8,.int .i64 who,.int .i64 a,.int .i64 b] 32 E6
 have Hv:=Z9 ((uh Hv0).below (uh BB))
 rw [hW]
 clear hW
 refine (Zi (uh Hok) (uh Hv)).mono ?_
 rintro e w1 ⟨rfl,hb⟩
 replace Hv:=Z9 ((uh Hv).below hb)
 replace kb:=bl kb hb
 replace ka:=bl ka hb
 replace kr:=bl kr hb
 replace BB:=bt BB hb
 clear hb
 obtain ⟨c0,c1,c2,c3,c4,c5⟩:=(uh kb).c6
 obtain ⟨d0,d1,d2,d3⟩:=(uh ka).c4
 go_wp2_with fail
 clear c0 c1 c2 c3 c4 c5
 clear d0 d1 d2 d3
 refine (PZ a (uh Hv)).mono ?_
 rw [uh HY]
 obtain ⟨M,cd⟩:=Y
 rintro e w2 ⟨⟨y0,y1,y2,y3,y4,oq,rfl,ho⟩,hb⟩
 dsimp only at ho ⊢
 have k9:=ho.smy
 obtain ⟨b0,q0,b1,q1,b2,q2,b3,q3,b4,q4,rfl,rfl,rfl,rfl,rfl,_,_,_,_,_,_,_,_,_,_⟩:=k9.five
 have hW3:w.heap.size+3<=w1.heap.size:=by have:=(uh kr).lt;omega
 have HO:=Z9 (ho.mono hW3)
 clear ho k9 hW3
 replace Hv:=Z9 ((uh Hv).below hb)
 replace kb:=bl kb hb
 replace ka:=bl ka hb
 replace kr:=bl kr hb
 replace BB:=bt BB hb
 clear hb
 obtain ⟨o0,o1,o2,o3,o4,o5⟩:=(uh kr).c6
 obtain ⟨f0,f1,f2,f3,f4,f5⟩:=(uh kr).f6
 go_wp2_with fail
 refine bodyPost_ret (v:= .tuple #[.agg #[.slice b0 M.rooms.length q0,.slice b1 M.guilds.length q1,.slice b2 M.smiths.length q2,.slice b3 M.desks.length q3,.slice b4 M.paces.length q4,.int .i64 M.now],.int .i64 cd]) (by simp [results,Tryz.results145,go_sem, *]) rfl ⟨⟨_,_,_,_,_,oq,rfl,?_⟩,?_⟩
 ·refine FullSmy.mono (n₀:=w.heap.size+3) ?_ (by omega)
  iterate 6 (refine FullSmy.set ?_ _ _ _ (by omega))
  exact uh HO
 ·iterate 6 (refine Below.setCell ?_ (by show _<=w.heap.size+1+1;omega) _)
  exact uh BB
theorem GW  (who a b:Int) (hok:ZO m=true) (h:Smy w v0 v1 v2 v3 v4 m) :
  Calls Tryz.prog 145 #[.agg #[v0,v1,v2,v3,v4,.int .i64 m.now],.agg #[.int .i64 9,.int .i64 who,.int .i64 a,.int .i64 b]] w fun e w'=>WS w.heap.size (Vd m a).1 (Vd m a).2 e w'/\Below w.heap.size w w':=by
 have Hok:=Z9 hok
 clear hok
 obtain ⟨Y,hY⟩:∃ y,Vd m a=y:=⟨_,rfl⟩
 rw [hY]
 have HY:=Z9 hY
 clear hY
 have Hv0:=Z9 h
 obtain ⟨a0,p0,a1,p1,a2,p2,a3,p3,a4,p4,rfl,rfl,rfl,rfl,rfl,_,_,_,_,_,_,_,_,_,_⟩:=h.five
 clear h
 go_enter Tryz.func145,Tryz.ntmps145
 go_wp2_with fail
 obtain ⟨W,hW,kb,ka,kr,BB⟩:=Zq w 32 (S6 a0 p0 a1 p1 a2 p2 a3 p3 a4 p4 m) 168 #[.int .i64 9,.int .i64 who,.int .i64 a,.int .i64 b] 32 E6
 have Hv:=Z9 ((uh Hv0).below (uh BB))
 rw [hW]
 clear hW
 refine (Zi (uh Hok) (uh Hv)).mono ?_
 rintro e w1 ⟨rfl,hb⟩
 replace Hv:=Z9 ((uh Hv).below hb)
 replace kb:=bl kb hb
 replace ka:=bl ka hb
 replace kr:=bl kr hb
 replace BB:=bt BB hb
 clear hb
 obtain ⟨c0,c1,c2,c3,c4,c5⟩:=(uh kb).c6
 obtain ⟨d0,d1,d2,d3⟩:=(uh ka).c4
 go_wp2_with fail
 clear c0 c1 c2 c3 c4 c5
 clear d0 d1 d2 d3
 refine (P6 a (uh Hv)).mono ?_
 rw [uh HY]
 obtain ⟨M,cd⟩:=Y
 rintro e w2 ⟨⟨y0,y1,y2,y3,y4,oq,rfl,ho⟩,hb⟩
 dsimp only at ho ⊢
 have k9:=ho.smy
 obtain ⟨b0,q0,b1,q1,b2,q2,b3,q3,b4,q4,rfl,rfl,rfl,rfl,rfl,_,_,_,_,_,_,_,_,_,_⟩:=k9.five
 have hW3:w.heap.size+3<=w1.heap.size:=by have:=(uh kr).lt;omega
 have HO:=Z9 (ho.mono hW3)
 clear ho k9 hW3
 replace Hv:=Z9 ((uh Hv).below hb)
 replace kb:=bl kb hb
 replace ka:=bl ka hb
 replace kr:=bl kr hb
 replace BB:=bt BB hb
 clear hb
 obtain ⟨o0,o1,o2,o3,o4,o5⟩:=(uh kr).c6
 obtain ⟨f0,f1,f2,f3,f4,f5⟩:=(uh kr).f6
 go_wp2_with fail
 refine bodyPost_ret (v:= .tuple #[.agg #[.slice b0 M.rooms.length q0,.slice b1 M.guilds.length q1,.slice b2 M.smiths.length q2,.slice b3 M.desks.length q3,.slice b4 M.paces.length q4,.int .i64 M.now],.int .i64 cd]) (by simp [results,Tryz.results145,go_sem, *]) rfl ⟨⟨_,_,_,_,_,oq,rfl,?_⟩,?_⟩
 ·refine FullSmy.mono (n₀:=w.heap.size+3) ?_ (by omega)
  iterate 6 (refine FullSmy.set ?_ _ _ _ (by omega))
  exact uh HO
 ·iterate 6 (refine Below.setCell ?_ (by show _<=w.heap.size+1+1;omega) _)
  exact uh BB
theorem JF  (who a b:Int) (hok:ZO m=true) (h:Smy w v0 v1 v2 v3 v4 m) :
  Calls Tryz.prog 145 #[.agg #[v0,v1,v2,v3,v4,.int .i64 m.now],.agg #[.int .i64 10,.int .i64 who,.int .i64 a,.int .i64 b]] w fun e w'=>WS w.heap.size (VC m a).1 (VC m a).2 e w'/\Below w.heap.size w w':=by
 have Hok:=Z9 hok
 clear hok
 obtain ⟨Y,hY⟩:∃ y,VC m a=y:=⟨_,rfl⟩
 rw [hY]
 have HY:=Z9 hY
 clear hY
 have Hv0:=Z9 h
 obtain ⟨a0,p0,a1,p1,a2,p2,a3,p3,a4,p4,rfl,rfl,rfl,rfl,rfl,_,_,_,_,_,_,_,_,_,_⟩:=h.five
 clear h
 go_enter Tryz.func145,Tryz.ntmps145
 go_wp2_with fail
 obtain ⟨W,hW,kb,ka,kr,BB⟩:=Zq w 32 (S6 a0 p0 a1 p1 a2 p2 a3 p3 a4 p4 m) 168 #[.int .i64 10,.int .i64 who,.int .i64 a,.int .i64 b] 32 E6
 have Hv:=Z9 ((uh Hv0).below (uh BB))
 rw [hW]
 clear hW
 refine (Zi (uh Hok) (uh Hv)).mono ?_
 rintro e w1 ⟨rfl,hb⟩
 replace Hv:=Z9 ((uh Hv).below hb)
 replace kb:=bl kb hb
 replace ka:=bl ka hb
 replace kr:=bl kr hb
 replace BB:=bt BB hb
 clear hb
 obtain ⟨c0,c1,c2,c3,c4,c5⟩:=(uh kb).c6
 obtain ⟨d0,d1,d2,d3⟩:=(uh ka).c4
 go_wp2_with fail
 clear c0 c1 c2 c3 c4 c5
 clear d0 d1 d2 d3
 refine (Qa a (uh Hv)).mono ?_
 rw [uh HY]
 obtain ⟨M,cd⟩:=Y
 rintro e w2 ⟨⟨y0,y1,y2,y3,y4,oq,rfl,ho⟩,hb⟩
 dsimp only at ho ⊢
 have k9:=ho.smy
 obtain ⟨b0,q0,b1,q1,b2,q2,b3,q3,b4,q4,rfl,rfl,rfl,rfl,rfl,_,_,_,_,_,_,_,_,_,_⟩:=k9.five
 have hW3:w.heap.size+3<=w1.heap.size:=by have:=(uh kr).lt;omega
 have HO:=Z9 (ho.mono hW3)
 clear ho k9 hW3
 replace Hv:=Z9 ((uh Hv).below hb)
 replace kb:=bl kb hb
 replace ka:=bl ka hb
 replace kr:=bl kr hb
 replace BB:=bt BB hb
 clear hb
 obtain ⟨o0,o1,o2,o3,o4,o5⟩:=(uh kr).c6
 obtain ⟨f0,f1,f2,f3,f4,f5⟩:=(uh kr).f6
 go_wp2_with fail
 refine bodyPost_ret (v:= .tuple #[.agg #[.slice b0 M.rooms.length q0,.slice b1 M.guilds.length q1,.slice b2 M.smiths.length q2,.slice b3 M.desks.length q3,.slice b4 M.paces.length q4,.int .i64 M.now],.int .i64 cd]) (by simp [results,Tryz.results145,go_sem, *]) rfl ⟨⟨_,_,_,_,_,oq,rfl,?_⟩,?_⟩
 ·refine FullSmy.mono (n₀:=w.heap.size+3) ?_ (by omega)
  iterate 6 (refine FullSmy.set ?_ _ _ _ (by omega))
  exact uh HO
 ·iterate 6 (refine Below.setCell ?_ (by show _<=w.heap.size+1+1;omega) _)
  exact uh BB
theorem JG  (who a b:Int) (hok:ZO m=true) (h:Smy w v0 v1 v2 v3 v4 m) :
  Calls Tryz.prog 145 #[.agg #[v0,v1,v2,v3,v4,.int .i64 m.now],.agg #[.int .i64 11,.int .i64 who,.int .i64 a,.int .i64 b]] w fun e w'=>WS w.heap.size (WD m a b).1 (WD m a b).2 e w'/\Below w.heap.size w w':=by
 have Hok:=Z9 hok
 clear hok
 obtain ⟨Y,hY⟩:∃ y,WD m a b=y:=⟨_,rfl⟩
 rw [hY]
 have HY:=Z9 hY
 clear hY
 have Hv0:=Z9 h
 obtain ⟨a0,p0,a1,p1,a2,p2,a3,p3,a4,p4,rfl,rfl,rfl,rfl,rfl,_,_,_,_,_,_,_,_,_,_⟩:=h.five
 clear h
 go_enter Tryz.func145,Tryz.ntmps145
 go_wp2_with fail
 obtain ⟨W,hW,kb,ka,kr,BB⟩:=Zq w 32 (S6 a0 p0 a1 p1 a2 p2 a3 p3 a4 p4 m) 168 #[.int .i64 11,.int .i64 who,.int .i64 a,.int .i64 b] 32 E6
 have Hv:=Z9 ((uh Hv0).below (uh BB))
 rw [hW]
 clear hW
 refine (Zi (uh Hok) (uh Hv)).mono ?_
 rintro e w1 ⟨rfl,hb⟩
 replace Hv:=Z9 ((uh Hv).below hb)
 replace kb:=bl kb hb
 replace ka:=bl ka hb
 replace kr:=bl kr hb
 replace BB:=bt BB hb
 clear hb
 obtain ⟨c0,c1,c2,c3,c4,c5⟩:=(uh kb).c6
 obtain ⟨d0,d1,d2,d3⟩:=(uh ka).c4
 go_wp2_with fail
 clear c0 c1 c2 c3 c4 c5
 clear d0 d1 d2 d3
 refine (QE a b (uh Hv)).mono ?_
 rw [uh HY]
 obtain ⟨M,cd⟩:=Y
 rintro e w2 ⟨⟨y0,y1,y2,y3,y4,oq,rfl,ho⟩,hb⟩
 dsimp only at ho ⊢
 have k9:=ho.smy
 obtain ⟨b0,q0,b1,q1,b2,q2,b3,q3,b4,q4,rfl,rfl,rfl,rfl,rfl,_,_,_,_,_,_,_,_,_,_⟩:=k9.five
 have hW3:w.heap.size+3<=w1.heap.size:=by have:=(uh kr).lt;omega
 have HO:=Z9 (ho.mono hW3)
 clear ho k9 hW3
 replace Hv:=Z9 ((uh Hv).below hb)
 replace kb:=bl kb hb
 replace ka:=bl ka hb
 replace kr:=bl kr hb
 replace BB:=bt BB hb
 clear hb
 obtain ⟨o0,o1,o2,o3,o4,o5⟩:=(uh kr).c6
 obtain ⟨f0,f1,f2,f3,f4,f5⟩:=(uh kr).f6
 go_wp2_with fail
 refine bodyPost_ret (v:= .tuple #[.agg #[.slice b0 M.rooms.length q0,.slice b1 M.guilds.length q1,.slice b2 M.smiths.length q2,.slice b3 M.desks.length q3,.slice b4 M.paces.length q4,.int .i64 M.now],.int .i64 cd]) (by simp [results,Tryz.results145,go_sem, *]) rfl ⟨⟨_,_,_,_,_,oq,rfl,?_⟩,?_⟩
 ·refine FullSmy.mono (n₀:=w.heap.size+3) ?_ (by omega)
  iterate 6 (refine FullSmy.set ?_ _ _ _ (by omega))
  exact uh HO
 ·iterate 6 (refine Below.setCell ?_ (by show _<=w.heap.size+1+1;omega) _)
  exact uh BB
theorem JH  (who a b:Int) (hok:ZO m=true) (h:Smy w v0 v1 v2 v3 v4 m) :
  Calls Tryz.prog 145 #[.agg #[v0,v1,v2,v3,v4,.int .i64 m.now],.agg #[.int .i64 12,.int .i64 who,.int .i64 a,.int .i64 b]] w fun e w'=>WS w.heap.size ((Nb m,0)).1 ((Nb m,0)).2 e w'/\Below w.heap.size w w':=by
 have Hok:=Z9 hok
 clear hok
 obtain ⟨Y,hY⟩:∃ y,Nb m=y:=⟨_,rfl⟩
 rw [hY]
 have HY:=Z9 hY
 clear hY
 have Hv0:=Z9 h
 obtain ⟨a0,p0,a1,p1,a2,p2,a3,p3,a4,p4,rfl,rfl,rfl,rfl,rfl,_,_,_,_,_,_,_,_,_,_⟩:=h.five
 clear h
 go_enter Tryz.func145,Tryz.ntmps145
 go_wp2_with fail
 obtain ⟨W,hW,kb,ka,kr,BB⟩:=Zq w 32 (S6 a0 p0 a1 p1 a2 p2 a3 p3 a4 p4 m) 168 #[.int .i64 12,.int .i64 who,.int .i64 a,.int .i64 b] 32 E6
 have Hv:=Z9 ((uh Hv0).below (uh BB))
 rw [hW]
 clear hW
 refine (Zi (uh Hok) (uh Hv)).mono ?_
 rintro e w1 ⟨rfl,hb⟩
 replace Hv:=Z9 ((uh Hv).below hb)
 replace kb:=bl kb hb
 replace ka:=bl ka hb
 replace kr:=bl kr hb
 replace BB:=bt BB hb
 clear hb
 obtain ⟨c0,c1,c2,c3,c4,c5⟩:=(uh kb).c6
 obtain ⟨d0,d1,d2,d3⟩:=(uh ka).c4
 go_wp2_with fail
 clear c0 c1 c2 c3 c4 c5
 clear d0 d1 d2 d3
 refine (JT (uh Hv) (uh Hok)).mono ?_
 rw [uh HY]
 rintro e w2 ⟨⟨y0,y1,y2,y3,y4,oq,rfl,ho⟩,hb⟩
 have k9:=ho.smy
 obtain ⟨b0,q0,b1,q1,b2,q2,b3,q3,b4,q4,rfl,rfl,rfl,rfl,rfl,_,_,_,_,_,_,_,_,_,_⟩:=k9.five
 have hW3:w.heap.size+3<=w1.heap.size:=by have:=(uh kr).lt;omega
 have HO:=Z9 (ho.mono hW3)
 clear ho k9 hW3
 replace Hv:=Z9 ((uh Hv).below hb)
 replace kb:=bl kb hb
 replace ka:=bl ka hb
 replace kr:=bl kr hb
 replace BB:=bt BB hb
 clear hb
 obtain ⟨o0,o1,o2,o3,o4,o5⟩:=(uh kr).c6
 obtain ⟨f0,f1,f2,f3,f4,f5⟩:=(uh kr).f6
 go_wp2_with fail
 refine bodyPost_ret (v:= .tuple #[.agg #[.slice b0 Y.rooms.length q0,.slice b1 Y.guilds.length q1,.slice b2 Y.smiths.length q2,.slice b3 Y.desks.length q3,.slice b4 Y.paces.length q4,.int .i64 Y.now],.int .i64 0]) (by simp [results,Tryz.results145,go_sem, *]) rfl ⟨⟨_,_,_,_,_,oq,rfl,?_⟩,?_⟩
 ·refine FullSmy.mono (n₀:=w.heap.size+3) ?_ (by omega)
  iterate 6 (refine FullSmy.set ?_ _ _ _ (by omega))
  exact uh HO
 ·iterate 6 (refine Below.setCell ?_ (by show _<=w.heap.size+1+1;omega) _)
  exact uh BB
theorem JI  (who a b:Int) (hok:ZO m=true) (h:Smy w v0 v1 v2 v3 v4 m) :
  Calls Tryz.prog 145 #[.agg #[v0,v1,v2,v3,v4,.int .i64 m.now],.agg #[.int .i64 13,.int .i64 who,.int .i64 a,.int .i64 b]] w fun e w'=>WS w.heap.size ((XW m,0)).1 ((XW m,0)).2 e w'/\Below w.heap.size w w':=by
 have Hok:=Z9 hok
 clear hok
 obtain ⟨Y,hY⟩:∃ y,XW m=y:=⟨_,rfl⟩
 rw [hY]
 have HY:=Z9 hY
 clear hY
 have Hv0:=Z9 h
 obtain ⟨a0,p0,a1,p1,a2,p2,a3,p3,a4,p4,rfl,rfl,rfl,rfl,rfl,_,_,_,_,_,_,_,_,_,_⟩:=h.five
 clear h
 go_enter Tryz.func145,Tryz.ntmps145
 go_wp2_with fail
 obtain ⟨W,hW,kb,ka,kr,BB⟩:=Zq w 32 (S6 a0 p0 a1 p1 a2 p2 a3 p3 a4 p4 m) 168 #[.int .i64 13,.int .i64 who,.int .i64 a,.int .i64 b] 32 E6
 have Hv:=Z9 ((uh Hv0).below (uh BB))
 rw [hW]
 clear hW
 refine (Zi (uh Hok) (uh Hv)).mono ?_
 rintro e w1 ⟨rfl,hb⟩
 replace Hv:=Z9 ((uh Hv).below hb)
 replace kb:=bl kb hb
 replace ka:=bl ka hb
 replace kr:=bl kr hb
 replace BB:=bt BB hb
 clear hb
 obtain ⟨c0,c1,c2,c3,c4,c5⟩:=(uh kb).c6
 obtain ⟨d0,d1,d2,d3⟩:=(uh ka).c4
 go_wp2_with fail
 clear c0 c1 c2 c3 c4 c5
 clear d0 d1 d2 d3
 refine (RH (uh Hv)).mono ?_
 rw [uh HY]
 rintro e w2 ⟨⟨y0,y1,y2,y3,y4,oq,rfl,ho⟩,hb⟩
 have k9:=ho.smy
 obtain ⟨b0,q0,b1,q1,b2,q2,b3,q3,b4,q4,rfl,rfl,rfl,rfl,rfl,_,_,_,_,_,_,_,_,_,_⟩:=k9.five
 have hW3:w.heap.size+3<=w1.heap.size:=by have:=(uh kr).lt;omega
 have HO:=Z9 (ho.mono hW3)
 clear ho k9 hW3
 replace Hv:=Z9 ((uh Hv).below hb)
 replace kb:=bl kb hb
 replace ka:=bl ka hb
 replace kr:=bl kr hb
 replace BB:=bt BB hb
 clear hb
 obtain ⟨o0,o1,o2,o3,o4,o5⟩:=(uh kr).c6
 obtain ⟨f0,f1,f2,f3,f4,f5⟩:=(uh kr).f6
 go_wp2_with fail
 refine bodyPost_ret (v:= .tuple #[.agg #[.slice b0 Y.rooms.length q0,.slice b1 Y.guilds.length q1,.slice b2 Y.smiths.length q2,.slice b3 Y.desks.length q3,.slice b4 Y.paces.length q4,.int .i64 Y.now],.int .i64 0]) (by simp [results,Tryz.results145,go_sem, *]) rfl ⟨⟨_,_,_,_,_,oq,rfl,?_⟩,?_⟩
 ·refine FullSmy.mono (n₀:=w.heap.size+3) ?_ (by omega)
  iterate 6 (refine FullSmy.set ?_ _ _ _ (by omega))
  exact uh HO
 ·iterate 6 (refine Below.setCell ?_ (by show _<=w.heap.size+1+1;omega) _)
  exact uh BB
theorem JJ  (who a b:Int) (hok:ZO m=true) (h:Smy w v0 v1 v2 v3 v4 m) :
  Calls Tryz.prog 145 #[.agg #[v0,v1,v2,v3,v4,.int .i64 m.now],.agg #[.int .i64 14,.int .i64 who,.int .i64 a,.int .i64 b]] w fun e w'=>WS w.heap.size (UE m who a).1 (UE m who a).2 e w'/\Below w.heap.size w w':=by
 have Hok:=Z9 hok
 clear hok
 obtain ⟨Y,hY⟩:∃ y,UE m who a=y:=⟨_,rfl⟩
 rw [hY]
 have HY:=Z9 hY
 clear hY
 have Hv0:=Z9 h
 obtain ⟨a0,p0,a1,p1,a2,p2,a3,p3,a4,p4,rfl,rfl,rfl,rfl,rfl,_,_,_,_,_,_,_,_,_,_⟩:=h.five
 clear h
 go_enter Tryz.func145,Tryz.ntmps145
 go_wp2_with fail
 obtain ⟨W,hW,kb,ka,kr,BB⟩:=Zq w 32 (S6 a0 p0 a1 p1 a2 p2 a3 p3 a4 p4 m) 168 #[.int .i64 14,.int .i64 who,.int .i64 a,.int .i64 b] 32 E6
 have Hv:=Z9 ((uh Hv0).below (uh BB))
 rw [hW]
 clear hW
 refine (Zi (uh Hok) (uh Hv)).mono ?_
 rintro e w1 ⟨rfl,hb⟩
 replace Hv:=Z9 ((uh Hv).below hb)
 replace kb:=bl kb hb
 replace ka:=bl ka hb
 replace kr:=bl kr hb
 replace BB:=bt BB hb
 clear hb
 obtain ⟨c0,c1,c2,c3,c4,c5⟩:=(uh kb).c6
 obtain ⟨d0,d1,d2,d3⟩:=(uh ka).c4
 go_wp2_with fail
 clear c0 c1 c2 c3 c4 c5
 clear d0 d1 d2 d3
 refine (LU who a (uh Hv) (uh Hok)).mono ?_
 rw [uh HY]
 obtain ⟨M,cd⟩:=Y
 rintro e w2 ⟨⟨y0,y1,y2,y3,y4,oq,rfl,ho⟩,hb⟩
 dsimp only at ho ⊢
 have k9:=ho.smy
 obtain ⟨b0,q0,b1,q1,b2,q2,b3,q3,b4,q4,rfl,rfl,rfl,rfl,rfl,_,_,_,_,_,_,_,_,_,_⟩:=k9.five
 have hW3:w.heap.size+3<=w1.heap.size:=by have:=(uh kr).lt;omega
 have HO:=Z9 (ho.mono hW3)
 clear ho k9 hW3
 replace Hv:=Z9 ((uh Hv).below hb)
 replace kb:=bl kb hb
 replace ka:=bl ka hb
 replace kr:=bl kr hb
 replace BB:=bt BB hb
 clear hb
 obtain ⟨o0,o1,o2,o3,o4,o5⟩:=(uh kr).c6
 obtain ⟨f0,f1,f2,f3,f4,f5⟩:=(uh kr).f6
 go_wp2_with fail
 refine bodyPost_ret (v:= .tuple #[.agg #[.slice b0 M.rooms.length q0,.slice b1 M.guilds.length q1,.slice b2 M.smiths.length q2,.slice b3 M.desks.length q3,.slice b4 M.paces.length q4,.int .i64 M.now],.int .i64 cd]) (by simp [results,Tryz.results145,go_sem, *]) rfl ⟨⟨_,_,_,_,_,oq,rfl,?_⟩,?_⟩
 ·refine FullSmy.mono (n₀:=w.heap.size+3) ?_ (by omega)
  iterate 6 (refine FullSmy.set ?_ _ _ _ (by omega))
  exact uh HO
 ·iterate 6 (refine Below.setCell ?_ (by show _<=w.heap.size+1+1;omega) _)
  exact uh BB
theorem Nn  {k:Int} (who a b:Int) (hk:k<1\/14<k) (hok:ZO m=true) (h:Smy w v0 v1 v2 v3 v4 m) :
  Calls Tryz.prog 145 #[.agg #[v0,v1,v2,v3,v4,.int .i64 m.now],.agg #[.int .i64 k,.int .i64 who,.int .i64 a,.int .i64 b]] w fun e w'=>WS w.heap.size ((m,(3:Int))).1 ((m,(3:Int))).2 e w'/\Below w.heap.size w w':=by
 have Hok:=Z9 hok
 clear hok
 have Hk:=Z9 hk
 clear hk
 have Hv0:=Z9 h
 obtain ⟨a0,p0,a1,p1,a2,p2,a3,p3,a4,p4,rfl,rfl,rfl,rfl,rfl,_,_,_,_,_,_,_,_,_,_⟩:=h.five
 clear h
 go_enter Tryz.func145,Tryz.ntmps145
 go_wp2_with fail
 obtain ⟨W,hW,kb,ka,kr,BB⟩:=Zq w 32 (S6 a0 p0 a1 p1 a2 p2 a3 p3 a4 p4 m) 168 #[.int .i64 k,.int .i64 who,.int .i64 a,.int .i64 b] 32 E6
 have Hv:=Z9 ((uh Hv0).below (uh BB))
 rw [hW]
 clear hW
 refine (Zi (uh Hok) (uh Hv)).mono ?_
 rintro e w1 ⟨rfl,hb⟩
 replace Hv:=Z9 ((uh Hv).below hb)
 replace kb:=bl kb hb
 replace ka:=bl ka hb
 replace kr:=bl kr hb
 replace BB:=bt BB hb
 clear hb
 obtain ⟨c0,c1,c2,c3,c4,c5⟩:=(uh kb).c6
 obtain ⟨d0,d1,d2,d3⟩:=(uh ka).c4
 have n1:(k ==1)=false:=by have:=uh Hk;simp;omega
 have m1:decide (k=1)=false:=by have:=uh Hk;simp;omega
 have n2:(k ==2)=false:=by have:=uh Hk;simp;omega
 have m2:decide (k=2)=false:=by have:=uh Hk;simp;omega
 have n3:(k ==3)=false:=by have:=uh Hk;simp;omega
 have m3:decide (k=3)=false:=by have:=uh Hk;simp;omega
 have n4:(k ==4)=false:=by have:=uh Hk;simp;omega
 have m4:decide (k=4)=false:=by have:=uh Hk;simp;omega
 have n5:(k ==5)=false:=by have:=uh Hk;simp;omega
 have m5:decide (k=5)=false:=by have:=uh Hk;simp;omega
 have n6:(k ==6)=false:=by have:=uh Hk;simp;omega
 have m6:decide (k=6)=false:=by have:=uh Hk;simp;omega
 have n7:(k ==7)=false:=by have:=uh Hk;simp;omega
 have m7:decide (k=7)=false:=by have:=uh Hk;simp;omega
 have n8:(k ==8)=false:=by have:=uh Hk;simp;omega
 have m8:decide (k=8)=false:=by have:=uh Hk;simp;omega
 have n9:(k ==9)=false:=by have:=uh Hk;simp;omega
 have m9:decide (k=9)=false:=by have:=uh Hk;simp;omega
 have n10:(k ==10)=false:=by have:=uh Hk;simp;omega
 have m10:decide (k=10)=false:=by have:=uh Hk;simp;omega
 have n11:(k ==11)=false:=by have:=uh Hk;simp;omega
 have m11:decide (k=11)=false:=by have:=uh Hk;simp;omega
 have n12:(k ==12)=false:=by have:=uh Hk;simp;omega
 have m12:decide (k=12)=false:=by have:=uh Hk;simp;omega
 have n13:(k ==13)=false:=by have:=uh Hk;simp;omega
 have m13:decide (k=13)=false:=by have:=uh Hk;simp;omega
 have n14:(k ==14)=false:=by have:=uh Hk;simp;omega
 have m14:decide (k=14)=false:=by have:=uh Hk;simp;omega
 go_wp2_with fail
 clear c0 c1 c2 c3 c4 c5
 clear d0 d1 d2 d3
 refine (ZB (uh Hv) (Xk (ZW (uh Hok)))).mono ?_
 rintro e w2 ⟨y0,y1,y2,y3,y4,oq,rfl,ho,hb⟩
 have k9:=ho.smy
 obtain ⟨b0,q0,b1,q1,b2,q2,b3,q3,b4,q4,rfl,rfl,rfl,rfl,rfl,_,_,_,_,_,_,_,_,_,_⟩:=k9.five
 have hW3:w.heap.size+3<=w1.heap.size:=by have:=(uh kr).lt;omega
 have HO:=Z9 (ho.mono hW3)
 clear ho k9 hW3
 replace Hv:=Z9 ((uh Hv).below hb)
 replace kb:=bl kb hb
 replace ka:=bl ka hb
 replace kr:=bl kr hb
 replace BB:=bt BB hb
 clear hb
 obtain ⟨o0,o1,o2,o3,o4,o5⟩:=(uh kr).c6
 obtain ⟨f0,f1,f2,f3,f4,f5⟩:=(uh kr).f6
 go_wp2_with fail
 refine bodyPost_ret (v:= .tuple #[.agg #[.slice b0 m.rooms.length q0,.slice b1 m.guilds.length q1,.slice b2 m.smiths.length q2,.slice b3 m.desks.length q3,.slice b4 m.paces.length q4,.int .i64 m.now],.int .i64 3]) (by simp [results,Tryz.results145,go_sem, *]) rfl ⟨⟨_,_,_,_,_,oq,rfl,?_⟩,?_⟩
 ·refine FullSmy.mono (n₀:=w.heap.size+3) ?_ (by omega)
  iterate 6 (refine FullSmy.set ?_ _ _ _ (by omega))
  exact uh HO
 ·iterate 6 (refine Below.setCell ?_ (by show _<=w.heap.size+1+1;omega) _)
  exact uh BB
theorem P0  (k who a b:Int) (h:Smy w v0 v1 v2 v3 v4 m) :
  Calls Tryz.prog 145 #[.agg #[v0,v1,v2,v3,v4,.int .i64 m.now],.agg #[.int .i64 k,.int .i64 who,.int .i64 a,.int .i64 b]] w fun e w'=>WS w.heap.size (Zz m k who a b).1 (Zz m k who a b).2 e w'/\Below w.heap.size w w':=by
 cases hok:ZO m
 ·have e:Zz m k who a b=(Yp,3):=by unfold Zz;rw [hok];rfl
  rw [e];exact JK k who a b hok h
 by_cases hk:k<1\/14<k
 ·rw [QZ hok hk];exact Nn who a b hk hok h
 rcases (show k=1\/k=2\/k=3\/k=4\/k=5\/k=6\/k=7\/k=8\/k=9\/k=10\/k=11\/k=12\/k=13\/k=14 by omega) with rfl | rfl | rfl | rfl | rfl | rfl | rfl | rfl | rfl | rfl | rfl | rfl | rfl | rfl
 ·rw [I1 hok];exact GN who a b hok h
 ·rw [I2 hok];exact GO who a b hok h
 ·rw [I3 hok];exact GP who a b hok h
 ·rw [I4 hok];exact GQ who a b hok h
 ·rw [I5 hok];exact GR who a b hok h
 ·rw [I6 hok];exact GS who a b hok h
 ·rw [I7 hok];exact GU who a b hok h
 ·rw [I8 hok];exact GV who a b hok h
 ·rw [I9 hok];exact GW who a b hok h
 ·rw [Ly hok];exact JF who a b hok h
 ·rw [Lz hok];exact JG who a b hok h
 ·rw [LA hok];exact JH who a b hok h
 ·rw [LB hok];exact JI who a b hok h
 ·rw [LC hok];exact JJ who a b hok h
end Go.Proofs.YthbbahagpmdooaaGreat
