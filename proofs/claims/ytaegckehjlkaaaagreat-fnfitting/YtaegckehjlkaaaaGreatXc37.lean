/- Part 37 of what the proof rests on. No condition but those that a theorem names. -/
import Derived.Test.YtaegckehjlkaaaaGreatXc29
import Derived.Test.YtaegckehjlkaaaaGreatXc31
import Derived.Test.YtaegckehjlkaaaaGreatXc33
import Derived.Test.YtaegckehjlkaaaaGreatXc35
import Derived.Test.YtaegckehjlkaaaaGreatXc36
set_option maxHeartbeats 8000000
set_option maxRecDepth 100000
namespace Go.Proofs.YtaegckehjlkaaaaGreat
open Go.ChangeShapes Go.WideShapes Go.ChangeAt Go.RowKit Go.Sort
set_option linter.unusedVariables false
set_option linter.unusedSimpArgs false
set_option maxRecDepth 100000
variable {w w' w0 w1 w2 w3 w₀ wr W W' X A B C : World} {v v0 v1 v2 v3 v4 u u0 u1 u2 u3 u4 : Value} {m : Z6}
theorem ID  (k who a b:Int) (hok:ZS m=false) (h:Smy w v0 v1 v2 v3 v4 m) :
  Calls Tryz.prog 209 #[.agg #[v0,v1,v2,v3,v4,.int .i64 m.now],.agg #[.int .i64 k,.int .i64 who,.int .i64 a,.int .i64 b]] w fun e w'=>Wt w.heap.size ((X9,(3:Int))).1 ((X9,(3:Int))).2 e w'/\Below w.heap.size w w':=by
 have Hv0:=Z9 h
 have Hok:=Z9 hok
 clear hok
 obtain ⟨a0,p0,a1,p1,a2,p2,a3,p3,a4,p4,rfl,rfl,rfl,rfl,rfl,_,_,_,_,_,_,_,_,_,_⟩:=h.five
 clear h
 go_enter Tryz.func209,Tryz.ntmps209
 go_wp2_with fail
 obtain ⟨W,hW,kb,ka,kr,BB⟩:=Zb w 32 (S6 a0 p0 a1 p1 a2 p2 a3 p3 a4 p4 m) 212 #[.int .i64 k,.int .i64 who,.int .i64 a,.int .i64 b] 32 E6
 have Hv:=Z9 ((uh Hv0).below (uh BB))
 rw [hW]
 clear hW
 refine (Zd (uh Hok) (uh Hv)).mono ?_
 rintro e w1 ⟨rfl,hb⟩
 replace Hv:=Z9 ((uh Hv).below hb)
 replace kb:=bl kb hb
 replace ka:=bl ka hb
 replace kr:=bl kr hb
 replace BB:=bt BB hb
 clear hb
 obtain ⟨c0,c1,c2,c3,c4,c5⟩:=(uh kb).c6
 go_wp2_with fail
 clear c0 c1 c2 c3 c4 c5
 refine (Yh (uh Hv)).mono ?_
 rintro e w2 ⟨rfl,hb⟩
 replace Hv:=Z9 ((uh Hv).below hb)
 replace kb:=bl kb hb
 replace ka:=bl ka hb
 replace kr:=bl kr hb
 replace BB:=bt BB hb
 clear hb
 obtain ⟨o0,o1,o2,o3,o4,o5⟩:=(uh kr).c6
 obtain ⟨f0,f1,f2,f3,f4,f5⟩:=(uh kr).f6
 go_wp2_with fail
 refine bodyPost_ret (v:= .tuple #[.agg #[.slice none 0 0,.slice none 0 0,.slice none 0 0,.slice none 0 0,.slice none 0 0,.int .i64 0],.int .i64 3]) (by simp [results,Tryz.results209,go_sem, *]) rfl ⟨⟨_,_,_,_,_,[],rfl,Yl _ _⟩,?_⟩
 iterate 6 (refine Below.setCell ?_ (by show _<=w.heap.size+1+1;omega) _)
 exact uh BB
theorem Fm  (who a b:Int) (hok:ZS m=true) (h:Smy w v0 v1 v2 v3 v4 m) :
  Calls Tryz.prog 209 #[.agg #[v0,v1,v2,v3,v4,.int .i64 m.now],.agg #[.int .i64 1,.int .i64 who,.int .i64 a,.int .i64 b]] w fun e w'=>Wt w.heap.size (Vu m a b (-1)).1 (Vu m a b (-1)).2 e w'/\Below w.heap.size w w':=by
 have Hok:=Z9 hok
 clear hok
 obtain ⟨Y,hY⟩:∃ y,Vu m a b (-1)=y:=⟨_,rfl⟩
 rw [hY]
 have HY:=Z9 hY
 clear hY
 have Hv0:=Z9 h
 obtain ⟨a0,p0,a1,p1,a2,p2,a3,p3,a4,p4,rfl,rfl,rfl,rfl,rfl,_,_,_,_,_,_,_,_,_,_⟩:=h.five
 clear h
 go_enter Tryz.func209,Tryz.ntmps209
 go_wp2_with fail
 obtain ⟨W,hW,kb,ka,kr,BB⟩:=Zb w 32 (S6 a0 p0 a1 p1 a2 p2 a3 p3 a4 p4 m) 212 #[.int .i64 1,.int .i64 who,.int .i64 a,.int .i64 b] 32 E6
 have Hv:=Z9 ((uh Hv0).below (uh BB))
 rw [hW]
 clear hW
 refine (Zd (uh Hok) (uh Hv)).mono ?_
 rintro e w1 ⟨rfl,hb⟩
 replace Hv:=Z9 ((uh Hv).below hb)
 replace kb:=bl kb hb
 replace ka:=bl ka hb
 replace kr:=bl kr hb
 replace BB:=bt BB hb
 clear hb
 obtain ⟨c0,c1,c2,c3,c4,c5⟩:=(uh kb).c6
 obtain ⟨d0,d1,d2,d3⟩:=(uh ka).c4
 go_wp2_with fail
 clear c0 c1 c2 c3 c4 c5
 clear d0 d1 d2 d3
 refine (Mz a b (-1) (uh Hv)).mono ?_
 rw [uh HY]
 obtain ⟨M,cd⟩:=Y
 rintro e w2 ⟨⟨y0,y1,y2,y3,y4,oq,rfl,ho⟩,hb⟩
 dsimp only at ho ⊢
 have k9:=ho.smy
 obtain ⟨b0,q0,b1,q1,b2,q2,b3,q3,b4,q4,rfl,rfl,rfl,rfl,rfl,_,_,_,_,_,_,_,_,_,_⟩:=k9.five
 have hW3:w.heap.size+3<=w1.heap.size:=by have:=(uh kr).lt;omega
 have HO:=Z9 (ho.mono hW3)
 clear ho k9 hW3
 replace Hv:=Z9 ((uh Hv).below hb)
 replace kb:=bl kb hb
 replace ka:=bl ka hb
 replace kr:=bl kr hb
 replace BB:=bt BB hb
 clear hb
 obtain ⟨o0,o1,o2,o3,o4,o5⟩:=(uh kr).c6
 obtain ⟨f0,f1,f2,f3,f4,f5⟩:=(uh kr).f6
 go_wp2_with fail
 refine bodyPost_ret (v:= .tuple #[.agg #[.slice b0 M.rooms.length q0,.slice b1 M.guilds.length q1,.slice b2 M.smiths.length q2,.slice b3 M.desks.length q3,.slice b4 M.paces.length q4,.int .i64 M.now],.int .i64 cd]) (by simp [results,Tryz.results209,go_sem, *]) rfl ⟨⟨_,_,_,_,_,oq,rfl,?_⟩,?_⟩
 ·refine FullSmy.mono (n₀:=w.heap.size+3) ?_ (by omega)
  iterate 6 (refine FullSmy.set ?_ _ _ _ (by omega))
  exact uh HO
 ·iterate 6 (refine Below.setCell ?_ (by show _<=w.heap.size+1+1;omega) _)
  exact uh BB
theorem Fo  (who a b:Int) (hok:ZS m=true) (h:Smy w v0 v1 v2 v3 v4 m) :
  Calls Tryz.prog 209 #[.agg #[v0,v1,v2,v3,v4,.int .i64 m.now],.agg #[.int .i64 2,.int .i64 who,.int .i64 a,.int .i64 b]] w fun e w'=>Wt w.heap.size (UI m who).1 (UI m who).2 e w'/\Below w.heap.size w w':=by
 have Hok:=Z9 hok
 clear hok
 obtain ⟨Y,hY⟩:∃ y,UI m who=y:=⟨_,rfl⟩
 rw [hY]
 have HY:=Z9 hY
 clear hY
 have Hv0:=Z9 h
 obtain ⟨a0,p0,a1,p1,a2,p2,a3,p3,a4,p4,rfl,rfl,rfl,rfl,rfl,_,_,_,_,_,_,_,_,_,_⟩:=h.five
 clear h
 go_enter Tryz.func209,Tryz.ntmps209
 go_wp2_with fail
 obtain ⟨W,hW,kb,ka,kr,BB⟩:=Zb w 32 (S6 a0 p0 a1 p1 a2 p2 a3 p3 a4 p4 m) 212 #[.int .i64 2,.int .i64 who,.int .i64 a,.int .i64 b] 32 E6
 have Hv:=Z9 ((uh Hv0).below (uh BB))
 rw [hW]
 clear hW
 refine (Zd (uh Hok) (uh Hv)).mono ?_
 rintro e w1 ⟨rfl,hb⟩
 replace Hv:=Z9 ((uh Hv).below hb)
 replace kb:=bl kb hb
 replace ka:=bl ka hb
 replace kr:=bl kr hb
 replace BB:=bt BB hb
 clear hb
 obtain ⟨c0,c1,c2,c3,c4,c5⟩:=(uh kb).c6
 obtain ⟨d0,d1,d2,d3⟩:=(uh ka).c4
 go_wp2_with fail
 clear c0 c1 c2 c3 c4 c5
 clear d0 d1 d2 d3
 refine (MA who (uh Hv)).mono ?_
 rw [uh HY]
 obtain ⟨M,cd⟩:=Y
 rintro e w2 ⟨⟨y0,y1,y2,y3,y4,oq,rfl,ho⟩,hb⟩
 dsimp only at ho ⊢
 have k9:=ho.smy
 obtain ⟨b0,q0,b1,q1,b2,q2,b3,q3,b4,q4,rfl,rfl,rfl,rfl,rfl,_,_,_,_,_,_,_,_,_,_⟩:=k9.five
 have hW3:w.heap.size+3<=w1.heap.size:=by have:=(uh kr).lt;omega
 have HO:=Z9 (ho.mono hW3)
 clear ho k9 hW3
 replace Hv:=Z9 ((uh Hv).below hb)
 replace kb:=bl kb hb
 replace ka:=bl ka hb
 replace kr:=bl kr hb
 replace BB:=bt BB hb
 clear hb
 obtain ⟨o0,o1,o2,o3,o4,o5⟩:=(uh kr).c6
 obtain ⟨f0,f1,f2,f3,f4,f5⟩:=(uh kr).f6
 go_wp2_with fail
 refine bodyPost_ret (v:= .tuple #[.agg #[.slice b0 M.rooms.length q0,.slice b1 M.guilds.length q1,.slice b2 M.smiths.length q2,.slice b3 M.desks.length q3,.slice b4 M.paces.length q4,.int .i64 M.now],.int .i64 cd]) (by simp [results,Tryz.results209,go_sem, *]) rfl ⟨⟨_,_,_,_,_,oq,rfl,?_⟩,?_⟩
 ·refine FullSmy.mono (n₀:=w.heap.size+3) ?_ (by omega)
  iterate 6 (refine FullSmy.set ?_ _ _ _ (by omega))
  exact uh HO
 ·iterate 6 (refine Below.setCell ?_ (by show _<=w.heap.size+1+1;omega) _)
  exact uh BB
theorem Fp  (who a b:Int) (hok:ZS m=true) (h:Smy w v0 v1 v2 v3 v4 m) :
  Calls Tryz.prog 209 #[.agg #[v0,v1,v2,v3,v4,.int .i64 m.now],.agg #[.int .i64 3,.int .i64 who,.int .i64 a,.int .i64 b]] w fun e w'=>Wt w.heap.size (Vw m who).1 (Vw m who).2 e w'/\Below w.heap.size w w':=by
 have Hok:=Z9 hok
 clear hok
 obtain ⟨Y,hY⟩:∃ y,Vw m who=y:=⟨_,rfl⟩
 rw [hY]
 have HY:=Z9 hY
 clear hY
 have Hv0:=Z9 h
 obtain ⟨a0,p0,a1,p1,a2,p2,a3,p3,a4,p4,rfl,rfl,rfl,rfl,rfl,_,_,_,_,_,_,_,_,_,_⟩:=h.five
 clear h
 go_enter Tryz.func209,Tryz.ntmps209
 go_wp2_with fail
 obtain ⟨W,hW,kb,ka,kr,BB⟩:=Zb w 32 (S6 a0 p0 a1 p1 a2 p2 a3 p3 a4 p4 m) 212 #[.int .i64 3,.int .i64 who,.int .i64 a,.int .i64 b] 32 E6
 have Hv:=Z9 ((uh Hv0).below (uh BB))
 rw [hW]
 clear hW
 refine (Zd (uh Hok) (uh Hv)).mono ?_
 rintro e w1 ⟨rfl,hb⟩
 replace Hv:=Z9 ((uh Hv).below hb)
 replace kb:=bl kb hb
 replace ka:=bl ka hb
 replace kr:=bl kr hb
 replace BB:=bt BB hb
 clear hb
 obtain ⟨c0,c1,c2,c3,c4,c5⟩:=(uh kb).c6
 obtain ⟨d0,d1,d2,d3⟩:=(uh ka).c4
 go_wp2_with fail
 clear c0 c1 c2 c3 c4 c5
 clear d0 d1 d2 d3
 refine (MB who (uh Hv)).mono ?_
 rw [uh HY]
 obtain ⟨M,cd⟩:=Y
 rintro e w2 ⟨⟨y0,y1,y2,y3,y4,oq,rfl,ho⟩,hb⟩
 dsimp only at ho ⊢
 have k9:=ho.smy
 obtain ⟨b0,q0,b1,q1,b2,q2,b3,q3,b4,q4,rfl,rfl,rfl,rfl,rfl,_,_,_,_,_,_,_,_,_,_⟩:=k9.five
 have hW3:w.heap.size+3<=w1.heap.size:=by have:=(uh kr).lt;omega
 have HO:=Z9 (ho.mono hW3)
 clear ho k9 hW3
 replace Hv:=Z9 ((uh Hv).below hb)
 replace kb:=bl kb hb
 replace ka:=bl ka hb
 replace kr:=bl kr hb
 replace BB:=bt BB hb
 clear hb
 obtain ⟨o0,o1,o2,o3,o4,o5⟩:=(uh kr).c6
 obtain ⟨f0,f1,f2,f3,f4,f5⟩:=(uh kr).f6
 go_wp2_with fail
 refine bodyPost_ret (v:= .tuple #[.agg #[.slice b0 M.rooms.length q0,.slice b1 M.guilds.length q1,.slice b2 M.smiths.length q2,.slice b3 M.desks.length q3,.slice b4 M.paces.length q4,.int .i64 M.now],.int .i64 cd]) (by simp [results,Tryz.results209,go_sem, *]) rfl ⟨⟨_,_,_,_,_,oq,rfl,?_⟩,?_⟩
 ·refine FullSmy.mono (n₀:=w.heap.size+3) ?_ (by omega)
  iterate 6 (refine FullSmy.set ?_ _ _ _ (by omega))
  exact uh HO
 ·iterate 6 (refine Below.setCell ?_ (by show _<=w.heap.size+1+1;omega) _)
  exact uh BB
theorem Fq  (who a b:Int) (hok:ZS m=true) (h:Smy w v0 v1 v2 v3 v4 m) :
  Calls Tryz.prog 209 #[.agg #[v0,v1,v2,v3,v4,.int .i64 m.now],.agg #[.int .i64 4,.int .i64 who,.int .i64 a,.int .i64 b]] w fun e w'=>Wt w.heap.size (V2 m who).1 (V2 m who).2 e w'/\Below w.heap.size w w':=by
 have Hok:=Z9 hok
 clear hok
 obtain ⟨Y,hY⟩:∃ y,V2 m who=y:=⟨_,rfl⟩
 rw [hY]
 have HY:=Z9 hY
 clear hY
 have Hv0:=Z9 h
 obtain ⟨a0,p0,a1,p1,a2,p2,a3,p3,a4,p4,rfl,rfl,rfl,rfl,rfl,_,_,_,_,_,_,_,_,_,_⟩:=h.five
 clear h
 go_enter Tryz.func209,Tryz.ntmps209
 go_wp2_with fail
 obtain ⟨W,hW,kb,ka,kr,BB⟩:=Zb w 32 (S6 a0 p0 a1 p1 a2 p2 a3 p3 a4 p4 m) 212 #[.int .i64 4,.int .i64 who,.int .i64 a,.int .i64 b] 32 E6
 have Hv:=Z9 ((uh Hv0).below (uh BB))
 rw [hW]
 clear hW
 refine (Zd (uh Hok) (uh Hv)).mono ?_
 rintro e w1 ⟨rfl,hb⟩
 replace Hv:=Z9 ((uh Hv).below hb)
 replace kb:=bl kb hb
 replace ka:=bl ka hb
 replace kr:=bl kr hb
 replace BB:=bt BB hb
 clear hb
 obtain ⟨c0,c1,c2,c3,c4,c5⟩:=(uh kb).c6
 obtain ⟨d0,d1,d2,d3⟩:=(uh ka).c4
 go_wp2_with fail
 clear c0 c1 c2 c3 c4 c5
 clear d0 d1 d2 d3
 refine (NW who (uh Hv)).mono ?_
 rw [uh HY]
 obtain ⟨M,cd⟩:=Y
 rintro e w2 ⟨⟨y0,y1,y2,y3,y4,oq,rfl,ho⟩,hb⟩
 dsimp only at ho ⊢
 have k9:=ho.smy
 obtain ⟨b0,q0,b1,q1,b2,q2,b3,q3,b4,q4,rfl,rfl,rfl,rfl,rfl,_,_,_,_,_,_,_,_,_,_⟩:=k9.five
 have hW3:w.heap.size+3<=w1.heap.size:=by have:=(uh kr).lt;omega
 have HO:=Z9 (ho.mono hW3)
 clear ho k9 hW3
 replace Hv:=Z9 ((uh Hv).below hb)
 replace kb:=bl kb hb
 replace ka:=bl ka hb
 replace kr:=bl kr hb
 replace BB:=bt BB hb
 clear hb
 obtain ⟨o0,o1,o2,o3,o4,o5⟩:=(uh kr).c6
 obtain ⟨f0,f1,f2,f3,f4,f5⟩:=(uh kr).f6
 go_wp2_with fail
 refine bodyPost_ret (v:= .tuple #[.agg #[.slice b0 M.rooms.length q0,.slice b1 M.guilds.length q1,.slice b2 M.smiths.length q2,.slice b3 M.desks.length q3,.slice b4 M.paces.length q4,.int .i64 M.now],.int .i64 cd]) (by simp [results,Tryz.results209,go_sem, *]) rfl ⟨⟨_,_,_,_,_,oq,rfl,?_⟩,?_⟩
 ·refine FullSmy.mono (n₀:=w.heap.size+3) ?_ (by omega)
  iterate 6 (refine FullSmy.set ?_ _ _ _ (by omega))
  exact uh HO
 ·iterate 6 (refine Below.setCell ?_ (by show _<=w.heap.size+1+1;omega) _)
  exact uh BB
theorem Fr  (who a b:Int) (hok:ZS m=true) (h:Smy w v0 v1 v2 v3 v4 m) :
  Calls Tryz.prog 209 #[.agg #[v0,v1,v2,v3,v4,.int .i64 m.now],.agg #[.int .i64 5,.int .i64 who,.int .i64 a,.int .i64 b]] w fun e w'=>Wt w.heap.size (Wk m who a).1 (Wk m who a).2 e w'/\Below w.heap.size w w':=by
 have Hok:=Z9 hok
 clear hok
 obtain ⟨Y,hY⟩:∃ y,Wk m who a=y:=⟨_,rfl⟩
 rw [hY]
 have HY:=Z9 hY
 clear hY
 have Hv0:=Z9 h
 obtain ⟨a0,p0,a1,p1,a2,p2,a3,p3,a4,p4,rfl,rfl,rfl,rfl,rfl,_,_,_,_,_,_,_,_,_,_⟩:=h.five
 clear h
 go_enter Tryz.func209,Tryz.ntmps209
 go_wp2_with fail
 obtain ⟨W,hW,kb,ka,kr,BB⟩:=Zb w 32 (S6 a0 p0 a1 p1 a2 p2 a3 p3 a4 p4 m) 212 #[.int .i64 5,.int .i64 who,.int .i64 a,.int .i64 b] 32 E6
 have Hv:=Z9 ((uh Hv0).below (uh BB))
 rw [hW]
 clear hW
 refine (Zd (uh Hok) (uh Hv)).mono ?_
 rintro e w1 ⟨rfl,hb⟩
 replace Hv:=Z9 ((uh Hv).below hb)
 replace kb:=bl kb hb
 replace ka:=bl ka hb
 replace kr:=bl kr hb
 replace BB:=bt BB hb
 clear hb
 obtain ⟨c0,c1,c2,c3,c4,c5⟩:=(uh kb).c6
 obtain ⟨d0,d1,d2,d3⟩:=(uh ka).c4
 go_wp2_with fail
 clear c0 c1 c2 c3 c4 c5
 clear d0 d1 d2 d3
 refine (Pf who a (uh Hv)).mono ?_
 rw [uh HY]
 obtain ⟨M,cd⟩:=Y
 rintro e w2 ⟨⟨y0,y1,y2,y3,y4,oq,rfl,ho⟩,hb⟩
 dsimp only at ho ⊢
 have k9:=ho.smy
 obtain ⟨b0,q0,b1,q1,b2,q2,b3,q3,b4,q4,rfl,rfl,rfl,rfl,rfl,_,_,_,_,_,_,_,_,_,_⟩:=k9.five
 have hW3:w.heap.size+3<=w1.heap.size:=by have:=(uh kr).lt;omega
 have HO:=Z9 (ho.mono hW3)
 clear ho k9 hW3
 replace Hv:=Z9 ((uh Hv).below hb)
 replace kb:=bl kb hb
 replace ka:=bl ka hb
 replace kr:=bl kr hb
 replace BB:=bt BB hb
 clear hb
 obtain ⟨o0,o1,o2,o3,o4,o5⟩:=(uh kr).c6
 obtain ⟨f0,f1,f2,f3,f4,f5⟩:=(uh kr).f6
 go_wp2_with fail
 refine bodyPost_ret (v:= .tuple #[.agg #[.slice b0 M.rooms.length q0,.slice b1 M.guilds.length q1,.slice b2 M.smiths.length q2,.slice b3 M.desks.length q3,.slice b4 M.paces.length q4,.int .i64 M.now],.int .i64 cd]) (by simp [results,Tryz.results209,go_sem, *]) rfl ⟨⟨_,_,_,_,_,oq,rfl,?_⟩,?_⟩
 ·refine FullSmy.mono (n₀:=w.heap.size+3) ?_ (by omega)
  iterate 6 (refine FullSmy.set ?_ _ _ _ (by omega))
  exact uh HO
 ·iterate 6 (refine Below.setCell ?_ (by show _<=w.heap.size+1+1;omega) _)
  exact uh BB
theorem Fs  (who a b:Int) (hok:ZS m=true) (h:Smy w v0 v1 v2 v3 v4 m) :
  Calls Tryz.prog 209 #[.agg #[v0,v1,v2,v3,v4,.int .i64 m.now],.agg #[.int .i64 6,.int .i64 who,.int .i64 a,.int .i64 b]] w fun e w'=>Wt w.heap.size (WU m who a).1 (WU m who a).2 e w'/\Below w.heap.size w w':=by
 have Hok:=Z9 hok
 clear hok
 obtain ⟨Y,hY⟩:∃ y,WU m who a=y:=⟨_,rfl⟩
 rw [hY]
 have HY:=Z9 hY
 clear hY
 have Hv0:=Z9 h
 obtain ⟨a0,p0,a1,p1,a2,p2,a3,p3,a4,p4,rfl,rfl,rfl,rfl,rfl,_,_,_,_,_,_,_,_,_,_⟩:=h.five
 clear h
 go_enter Tryz.func209,Tryz.ntmps209
 go_wp2_with fail
 obtain ⟨W,hW,kb,ka,kr,BB⟩:=Zb w 32 (S6 a0 p0 a1 p1 a2 p2 a3 p3 a4 p4 m) 212 #[.int .i64 6,.int .i64 who,.int .i64 a,.int .i64 b] 32 E6
 have Hv:=Z9 ((uh Hv0).below (uh BB))
 rw [hW]
 clear hW
 refine (Zd (uh Hok) (uh Hv)).mono ?_
 rintro e w1 ⟨rfl,hb⟩
 replace Hv:=Z9 ((uh Hv).below hb)
 replace kb:=bl kb hb
 replace ka:=bl ka hb
 replace kr:=bl kr hb
 replace BB:=bt BB hb
 clear hb
 obtain ⟨c0,c1,c2,c3,c4,c5⟩:=(uh kb).c6
 obtain ⟨d0,d1,d2,d3⟩:=(uh ka).c4
 go_wp2_with fail
 clear c0 c1 c2 c3 c4 c5
 clear d0 d1 d2 d3
 refine (PQ who a (uh Hv)).mono ?_
 rw [uh HY]
 obtain ⟨M,cd⟩:=Y
 rintro e w2 ⟨⟨y0,y1,y2,y3,y4,oq,rfl,ho⟩,hb⟩
 dsimp only at ho ⊢
 have k9:=ho.smy
 obtain ⟨b0,q0,b1,q1,b2,q2,b3,q3,b4,q4,rfl,rfl,rfl,rfl,rfl,_,_,_,_,_,_,_,_,_,_⟩:=k9.five
 have hW3:w.heap.size+3<=w1.heap.size:=by have:=(uh kr).lt;omega
 have HO:=Z9 (ho.mono hW3)
 clear ho k9 hW3
 replace Hv:=Z9 ((uh Hv).below hb)
 replace kb:=bl kb hb
 replace ka:=bl ka hb
 replace kr:=bl kr hb
 replace BB:=bt BB hb
 clear hb
 obtain ⟨o0,o1,o2,o3,o4,o5⟩:=(uh kr).c6
 obtain ⟨f0,f1,f2,f3,f4,f5⟩:=(uh kr).f6
 go_wp2_with fail
 refine bodyPost_ret (v:= .tuple #[.agg #[.slice b0 M.rooms.length q0,.slice b1 M.guilds.length q1,.slice b2 M.smiths.length q2,.slice b3 M.desks.length q3,.slice b4 M.paces.length q4,.int .i64 M.now],.int .i64 cd]) (by simp [results,Tryz.results209,go_sem, *]) rfl ⟨⟨_,_,_,_,_,oq,rfl,?_⟩,?_⟩
 ·refine FullSmy.mono (n₀:=w.heap.size+3) ?_ (by omega)
  iterate 6 (refine FullSmy.set ?_ _ _ _ (by omega))
  exact uh HO
 ·iterate 6 (refine Below.setCell ?_ (by show _<=w.heap.size+1+1;omega) _)
  exact uh BB
theorem Ft  (who a b:Int) (hok:ZS m=true) (h:Smy w v0 v1 v2 v3 v4 m) :
  Calls Tryz.prog 209 #[.agg #[v0,v1,v2,v3,v4,.int .i64 m.now],.agg #[.int .i64 7,.int .i64 who,.int .i64 a,.int .i64 b]] w fun e w'=>Wt w.heap.size (Wh m who a b).1 (Wh m who a b).2 e w'/\Below w.heap.size w w':=by
 have Hok:=Z9 hok
 clear hok
 obtain ⟨Y,hY⟩:∃ y,Wh m who a b=y:=⟨_,rfl⟩
 rw [hY]
 have HY:=Z9 hY
 clear hY
 have Hv0:=Z9 h
 obtain ⟨a0,p0,a1,p1,a2,p2,a3,p3,a4,p4,rfl,rfl,rfl,rfl,rfl,_,_,_,_,_,_,_,_,_,_⟩:=h.five
 clear h
 go_enter Tryz.func209,Tryz.ntmps209
 go_wp2_with fail
 obtain ⟨W,hW,kb,ka,kr,BB⟩:=Zb w 32 (S6 a0 p0 a1 p1 a2 p2 a3 p3 a4 p4 m) 212 #[.int .i64 7,.int .i64 who,.int .i64 a,.int .i64 b] 32 E6
 have Hv:=Z9 ((uh Hv0).below (uh BB))
 rw [hW]
 clear hW
 refine (Zd (uh Hok) (uh Hv)).mono ?_
 rintro e w1 ⟨rfl,hb⟩
 replace Hv:=Z9 ((uh Hv).below hb)
 replace kb:=bl kb hb
 replace ka:=bl ka hb
 replace kr:=bl kr hb
 replace BB:=bt BB hb
 clear hb
 obtain ⟨c0,c1,c2,c3,c4,c5⟩:=(uh kb).c6
 obtain ⟨d0,d1,d2,d3⟩:=(uh ka).c4
 go_wp2_with fail
 clear c0 c1 c2 c3 c4 c5
 clear d0 d1 d2 d3
 refine (PU who a b (uh Hv)).mono ?_
 rw [uh HY]
 obtain ⟨M,cd⟩:=Y
 rintro e w2 ⟨⟨y0,y1,y2,y3,y4,oq,rfl,ho⟩,hb⟩
 dsimp only at ho ⊢
 have k9:=ho.smy
 obtain ⟨b0,q0,b1,q1,b2,q2,b3,q3,b4,q4,rfl,rfl,rfl,rfl,rfl,_,_,_,_,_,_,_,_,_,_⟩:=k9.five
 have hW3:w.heap.size+3<=w1.heap.size:=by have:=(uh kr).lt;omega
 have HO:=Z9 (ho.mono hW3)
 clear ho k9 hW3
 replace Hv:=Z9 ((uh Hv).below hb)
 replace kb:=bl kb hb
 replace ka:=bl ka hb
 replace kr:=bl kr hb
 replace BB:=bt BB hb
 clear hb
 obtain ⟨o0,o1,o2,o3,o4,o5⟩:=(uh kr).c6
 obtain ⟨f0,f1,f2,f3,f4,f5⟩:=(uh kr).f6
 go_wp2_with fail
 refine bodyPost_ret (v:= .tuple #[.agg #[.slice b0 M.rooms.length q0,.slice b1 M.guilds.length q1,.slice b2 M.smiths.length q2,.slice b3 M.desks.length q3,.slice b4 M.paces.length q4,.int .i64 M.now],.int .i64 cd]) (by simp [results,Tryz.results209,go_sem, *]) rfl ⟨⟨_,_,_,_,_,oq,rfl,?_⟩,?_⟩
 ·refine FullSmy.mono (n₀:=w.heap.size+3) ?_ (by omega)
  iterate 6 (refine FullSmy.set ?_ _ _ _ (by omega))
  exact uh HO
 ·iterate 6 (refine Below.setCell ?_ (by show _<=w.heap.size+1+1;omega) _)
  exact uh BB
theorem Fu  (who a b:Int) (hok:ZS m=true) (h:Smy w v0 v1 v2 v3 v4 m) :
  Calls Tryz.prog 209 #[.agg #[v0,v1,v2,v3,v4,.int .i64 m.now],.agg #[.int .i64 8,.int .i64 who,.int .i64 a,.int .i64 b]] w fun e w'=>Wt w.heap.size (Xt m a).1 (Xt m a).2 e w'/\Below w.heap.size w w':=by
 have Hok:=Z9 hok
 clear hok
 obtain ⟨Y,hY⟩:∃ y,Xt m a=y:=⟨_,rfl⟩
 rw [hY]
 have HY:=Z9 hY
 clear hY
 have Hv0:=Z9 h
 obtain ⟨a0,p0,a1,p1,a2,p2,a3,p3,a4,p4,rfl,rfl,rfl,rfl,rfl,_,_,_,_,_,_,_,_,_,_⟩:=h.five
 clear h
 go_enter Tryz.func209,Tryz.ntmps209
 go_wp2_with fail
 obtain ⟨W,hW,kb,ka,kr,BB⟩:=Zb w 32 (S6 a0 p0 a1 p1 a2 p2 a3 p3 a4 p4 m) 212 #[.int .i64 8,.int .i64 who,.int .i64 a,.int .i64 b] 32 E6
 have Hv:=Z9 ((uh Hv0).below (uh BB))
 rw [hW]
 clear hW
 refine (Zd (uh Hok) (uh Hv)).mono ?_
 rintro e w1 ⟨rfl,hb⟩
 replace Hv:=Z9 ((uh Hv).below hb)
 replace kb:=bl kb hb
 replace ka:=bl ka hb
 replace kr:=bl kr hb
 replace BB:=bt BB hb
 clear hb
 obtain ⟨c0,c1,c2,c3,c4,c5⟩:=(uh kb).c6
 obtain ⟨d0,d1,d2,d3⟩:=(uh ka).c4
 go_wp2_with fail
 clear c0 c1 c2 c3 c4 c5
 clear d0 d1 d2 d3
 refine (O7 a (uh Hv)).mono ?_
 rw [uh HY]
 obtain ⟨M,cd⟩:=Y
 rintro e w2 ⟨⟨y0,y1,y2,y3,y4,oq,rfl,ho⟩,hb⟩
 dsimp only at ho ⊢
 have k9:=ho.smy
 obtain ⟨b0,q0,b1,q1,b2,q2,b3,q3,b4,q4,rfl,rfl,rfl,rfl,rfl,_,_,_,_,_,_,_,_,_,_⟩:=k9.five
 have hW3:w.heap.size+3<=w1.heap.size:=by have:=(uh kr).lt;omega
 have HO:=Z9 (ho.mono hW3)
 clear ho k9 hW3
 replace Hv:=Z9 ((uh Hv).below hb)
 replace kb:=bl kb hb
 replace ka:=bl ka hb
 replace kr:=bl kr hb
 replace BB:=bt BB hb
 clear hb
 obtain ⟨o0,o1,o2,o3,o4,o5⟩:=(uh kr).c6
 obtain ⟨f0,f1,f2,f3,f4,f5⟩:=(uh kr).f6
 go_wp2_with fail
 refine bodyPost_ret (v:= .tuple #[.agg #[.slice b0 M.rooms.length q0,.slice b1 M.guilds.length q1,.slice b2 M.smiths.length q2,.slice b3 M.desks.length q3,.slice b4 M.paces.length q4,.int .i64 M.now],.int .i64 cd]) (by simp [results,Tryz.results209,go_sem, *]) rfl ⟨⟨_,_,_,_,_,oq,rfl,?_⟩,?_⟩
 ·refine FullSmy.mono (n₀:=w.heap.size+3) ?_ (by omega)
  iterate 6 (refine FullSmy.set ?_ _ _ _ (by omega))
  exact uh HO
 ·iterate 6 (refine Below.setCell ?_ (by show _<=w.heap.size+1+1;omega) _)
  exact uh BB
theorem Fv  (who a b:Int) (hok:ZS m=true) (h:Smy w v0 v1 v2 v3 v4 m) :
  Calls Tryz.prog 209 #[.agg #[v0,v1,v2,v3,v4,.int .i64 m.now],.agg #[.int .i64 9,.int .i64 who,.int .i64 a,.int .i64 b]] w fun e w'=>Wt w.heap.size (UF m a).1 (UF m a).2 e w'/\Below w.heap.size w w':=by
 have Hok:=Z9 hok
 clear hok
 obtain ⟨Y,hY⟩:∃ y,UF m a=y:=⟨_,rfl⟩
 rw [hY]
 have HY:=Z9 hY
 clear hY
 have Hv0:=Z9 h
 obtain ⟨a0,p0,a1,p1,a2,p2,a3,p3,a4,p4,rfl,rfl,rfl,rfl,rfl,_,_,_,_,_,_,_,_,_,_⟩:=h.five
 clear h
 go_enter Tryz.func209,Tryz.ntmps209
 go_wp2_with fail
 obtain ⟨W,hW,kb,ka,kr,BB⟩:=Zb w 32 (S6 a0 p0 a1 p1 a2 p2 a3 p3 a4 p4 m) 212 #[.int .i64 9,.int .i64 who,.int .i64 a,.int .i64 b] 32 E6
 have Hv:=Z9 ((uh Hv0).below (uh BB))
 rw [hW]
 clear hW
 refine (Zd (uh Hok) (uh Hv)).mono ?_
 rintro e w1 ⟨rfl,hb⟩
 replace Hv:=Z9 ((uh Hv).below hb)
 replace kb:=bl kb hb
 replace ka:=bl ka hb
 replace kr:=bl kr hb
 replace BB:=bt BB hb
 clear hb
 obtain ⟨c0,c1,c2,c3,c4,c5⟩:=(uh kb).c6
 obtain ⟨d0,d1,d2,d3⟩:=(uh ka).c4
 go_wp2_with fail
 clear c0 c1 c2 c3 c4 c5
 clear d0 d1 d2 d3
 refine (Pd a (uh Hv)).mono ?_
 rw [uh HY]
 obtain ⟨M,cd⟩:=Y
 rintro e w2 ⟨⟨y0,y1,y2,y3,y4,oq,rfl,ho⟩,hb⟩
 dsimp only at ho ⊢
 have k9:=ho.smy
 obtain ⟨b0,q0,b1,q1,b2,q2,b3,q3,b4,q4,rfl,rfl,rfl,rfl,rfl,_,_,_,_,_,_,_,_,_,_⟩:=k9.five
 have hW3:w.heap.size+3<=w1.heap.size:=by have:=(uh kr).lt;omega
 have HO:=Z9 (ho.mono hW3)
 clear ho k9 hW3
 replace Hv:=Z9 ((uh Hv).below hb)
 replace kb:=bl kb hb
 replace ka:=bl ka hb
 replace kr:=bl kr hb
 replace BB:=bt BB hb
 clear hb
 obtain ⟨o0,o1,o2,o3,o4,o5⟩:=(uh kr).c6
 obtain ⟨f0,f1,f2,f3,f4,f5⟩:=(uh kr).f6
 go_wp2_with fail
 refine bodyPost_ret (v:= .tuple #[.agg #[.slice b0 M.rooms.length q0,.slice b1 M.guilds.length q1,.slice b2 M.smiths.length q2,.slice b3 M.desks.length q3,.slice b4 M.paces.length q4,.int .i64 M.now],.int .i64 cd]) (by simp [results,Tryz.results209,go_sem, *]) rfl ⟨⟨_,_,_,_,_,oq,rfl,?_⟩,?_⟩
 ·refine FullSmy.mono (n₀:=w.heap.size+3) ?_ (by omega)
  iterate 6 (refine FullSmy.set ?_ _ _ _ (by omega))
  exact uh HO
 ·iterate 6 (refine Below.setCell ?_ (by show _<=w.heap.size+1+1;omega) _)
  exact uh BB
theorem Iy  (who a b:Int) (hok:ZS m=true) (h:Smy w v0 v1 v2 v3 v4 m) :
  Calls Tryz.prog 209 #[.agg #[v0,v1,v2,v3,v4,.int .i64 m.now],.agg #[.int .i64 10,.int .i64 who,.int .i64 a,.int .i64 b]] w fun e w'=>Wt w.heap.size (U9 m a).1 (U9 m a).2 e w'/\Below w.heap.size w w':=by
 have Hok:=Z9 hok
 clear hok
 obtain ⟨Y,hY⟩:∃ y,U9 m a=y:=⟨_,rfl⟩
 rw [hY]
 have HY:=Z9 hY
 clear hY
 have Hv0:=Z9 h
 obtain ⟨a0,p0,a1,p1,a2,p2,a3,p3,a4,p4,rfl,rfl,rfl,rfl,rfl,_,_,_,_,_,_,_,_,_,_⟩:=h.five
 clear h
 go_enter Tryz.func209,Tryz.ntmps209
 go_wp2_with fail
 obtain ⟨W,hW,kb,ka,kr,BB⟩:=Zb w 32 (S6 a0 p0 a1 p1 a2 p2 a3 p3 a4 p4 m) 212 #[.int .i64 10,.int .i64 who,.int .i64 a,.int .i64 b] 32 E6
 have Hv:=Z9 ((uh Hv0).below (uh BB))
 rw [hW]
 clear hW
 refine (Zd (uh Hok) (uh Hv)).mono ?_
 rintro e w1 ⟨rfl,hb⟩
 replace Hv:=Z9 ((uh Hv).below hb)
 replace kb:=bl kb hb
 replace ka:=bl ka hb
 replace kr:=bl kr hb
 replace BB:=bt BB hb
 clear hb
 obtain ⟨c0,c1,c2,c3,c4,c5⟩:=(uh kb).c6
 obtain ⟨d0,d1,d2,d3⟩:=(uh ka).c4
 go_wp2_with fail
 clear c0 c1 c2 c3 c4 c5
 clear d0 d1 d2 d3
 refine (Ph a (uh Hv)).mono ?_
 rw [uh HY]
 obtain ⟨M,cd⟩:=Y
 rintro e w2 ⟨⟨y0,y1,y2,y3,y4,oq,rfl,ho⟩,hb⟩
 dsimp only at ho ⊢
 have k9:=ho.smy
 obtain ⟨b0,q0,b1,q1,b2,q2,b3,q3,b4,q4,rfl,rfl,rfl,rfl,rfl,_,_,_,_,_,_,_,_,_,_⟩:=k9.five
 have hW3:w.heap.size+3<=w1.heap.size:=by have:=(uh kr).lt;omega
 have HO:=Z9 (ho.mono hW3)
 clear ho k9 hW3
 replace Hv:=Z9 ((uh Hv).below hb)
 replace kb:=bl kb hb
 replace ka:=bl ka hb
 replace kr:=bl kr hb
 replace BB:=bt BB hb
 clear hb
 obtain ⟨o0,o1,o2,o3,o4,o5⟩:=(uh kr).c6
 obtain ⟨f0,f1,f2,f3,f4,f5⟩:=(uh kr).f6
 go_wp2_with fail
 refine bodyPost_ret (v:= .tuple #[.agg #[.slice b0 M.rooms.length q0,.slice b1 M.guilds.length q1,.slice b2 M.smiths.length q2,.slice b3 M.desks.length q3,.slice b4 M.paces.length q4,.int .i64 M.now],.int .i64 cd]) (by simp [results,Tryz.results209,go_sem, *]) rfl ⟨⟨_,_,_,_,_,oq,rfl,?_⟩,?_⟩
 ·refine FullSmy.mono (n₀:=w.heap.size+3) ?_ (by omega)
  iterate 6 (refine FullSmy.set ?_ _ _ _ (by omega))
  exact uh HO
 ·iterate 6 (refine Below.setCell ?_ (by show _<=w.heap.size+1+1;omega) _)
  exact uh BB
theorem Iz  (who a b:Int) (hok:ZS m=true) (h:Smy w v0 v1 v2 v3 v4 m) :
  Calls Tryz.prog 209 #[.agg #[v0,v1,v2,v3,v4,.int .i64 m.now],.agg #[.int .i64 11,.int .i64 who,.int .i64 a,.int .i64 b]] w fun e w'=>Wt w.heap.size (We m a b).1 (We m a b).2 e w'/\Below w.heap.size w w':=by
 have Hok:=Z9 hok
 clear hok
 obtain ⟨Y,hY⟩:∃ y,We m a b=y:=⟨_,rfl⟩
 rw [hY]
 have HY:=Z9 hY
 clear hY
 have Hv0:=Z9 h
 obtain ⟨a0,p0,a1,p1,a2,p2,a3,p3,a4,p4,rfl,rfl,rfl,rfl,rfl,_,_,_,_,_,_,_,_,_,_⟩:=h.five
 clear h
 go_enter Tryz.func209,Tryz.ntmps209
 go_wp2_with fail
 obtain ⟨W,hW,kb,ka,kr,BB⟩:=Zb w 32 (S6 a0 p0 a1 p1 a2 p2 a3 p3 a4 p4 m) 212 #[.int .i64 11,.int .i64 who,.int .i64 a,.int .i64 b] 32 E6
 have Hv:=Z9 ((uh Hv0).below (uh BB))
 rw [hW]
 clear hW
 refine (Zd (uh Hok) (uh Hv)).mono ?_
 rintro e w1 ⟨rfl,hb⟩
 replace Hv:=Z9 ((uh Hv).below hb)
 replace kb:=bl kb hb
 replace ka:=bl ka hb
 replace kr:=bl kr hb
 replace BB:=bt BB hb
 clear hb
 obtain ⟨c0,c1,c2,c3,c4,c5⟩:=(uh kb).c6
 obtain ⟨d0,d1,d2,d3⟩:=(uh ka).c4
 go_wp2_with fail
 clear c0 c1 c2 c3 c4 c5
 clear d0 d1 d2 d3
 refine (PT a b (uh Hv)).mono ?_
 rw [uh HY]
 obtain ⟨M,cd⟩:=Y
 rintro e w2 ⟨⟨y0,y1,y2,y3,y4,oq,rfl,ho⟩,hb⟩
 dsimp only at ho ⊢
 have k9:=ho.smy
 obtain ⟨b0,q0,b1,q1,b2,q2,b3,q3,b4,q4,rfl,rfl,rfl,rfl,rfl,_,_,_,_,_,_,_,_,_,_⟩:=k9.five
 have hW3:w.heap.size+3<=w1.heap.size:=by have:=(uh kr).lt;omega
 have HO:=Z9 (ho.mono hW3)
 clear ho k9 hW3
 replace Hv:=Z9 ((uh Hv).below hb)
 replace kb:=bl kb hb
 replace ka:=bl ka hb
 replace kr:=bl kr hb
 replace BB:=bt BB hb
 clear hb
 obtain ⟨o0,o1,o2,o3,o4,o5⟩:=(uh kr).c6
 obtain ⟨f0,f1,f2,f3,f4,f5⟩:=(uh kr).f6
 go_wp2_with fail
 refine bodyPost_ret (v:= .tuple #[.agg #[.slice b0 M.rooms.length q0,.slice b1 M.guilds.length q1,.slice b2 M.smiths.length q2,.slice b3 M.desks.length q3,.slice b4 M.paces.length q4,.int .i64 M.now],.int .i64 cd]) (by simp [results,Tryz.results209,go_sem, *]) rfl ⟨⟨_,_,_,_,_,oq,rfl,?_⟩,?_⟩
 ·refine FullSmy.mono (n₀:=w.heap.size+3) ?_ (by omega)
  iterate 6 (refine FullSmy.set ?_ _ _ _ (by omega))
  exact uh HO
 ·iterate 6 (refine Below.setCell ?_ (by show _<=w.heap.size+1+1;omega) _)
  exact uh BB
theorem IA  (who a b:Int) (hok:ZS m=true) (h:Smy w v0 v1 v2 v3 v4 m) :
  Calls Tryz.prog 209 #[.agg #[v0,v1,v2,v3,v4,.int .i64 m.now],.agg #[.int .i64 12,.int .i64 who,.int .i64 a,.int .i64 b]] w fun e w'=>Wt w.heap.size ((LW m,0)).1 ((LW m,0)).2 e w'/\Below w.heap.size w w':=by
 have Hok:=Z9 hok
 clear hok
 obtain ⟨Y,hY⟩:∃ y,LW m=y:=⟨_,rfl⟩
 rw [hY]
 have HY:=Z9 hY
 clear hY
 have Hv0:=Z9 h
 obtain ⟨a0,p0,a1,p1,a2,p2,a3,p3,a4,p4,rfl,rfl,rfl,rfl,rfl,_,_,_,_,_,_,_,_,_,_⟩:=h.five
 clear h
 go_enter Tryz.func209,Tryz.ntmps209
 go_wp2_with fail
 obtain ⟨W,hW,kb,ka,kr,BB⟩:=Zb w 32 (S6 a0 p0 a1 p1 a2 p2 a3 p3 a4 p4 m) 212 #[.int .i64 12,.int .i64 who,.int .i64 a,.int .i64 b] 32 E6
 have Hv:=Z9 ((uh Hv0).below (uh BB))
 rw [hW]
 clear hW
 refine (Zd (uh Hok) (uh Hv)).mono ?_
 rintro e w1 ⟨rfl,hb⟩
 replace Hv:=Z9 ((uh Hv).below hb)
 replace kb:=bl kb hb
 replace ka:=bl ka hb
 replace kr:=bl kr hb
 replace BB:=bt BB hb
 clear hb
 obtain ⟨c0,c1,c2,c3,c4,c5⟩:=(uh kb).c6
 obtain ⟨d0,d1,d2,d3⟩:=(uh ka).c4
 go_wp2_with fail
 clear c0 c1 c2 c3 c4 c5
 clear d0 d1 d2 d3
 refine (IL (uh Hv) (uh Hok)).mono ?_
 rw [uh HY]
 rintro e w2 ⟨⟨y0,y1,y2,y3,y4,oq,rfl,ho⟩,hb⟩
 have k9:=ho.smy
 obtain ⟨b0,q0,b1,q1,b2,q2,b3,q3,b4,q4,rfl,rfl,rfl,rfl,rfl,_,_,_,_,_,_,_,_,_,_⟩:=k9.five
 have hW3:w.heap.size+3<=w1.heap.size:=by have:=(uh kr).lt;omega
 have HO:=Z9 (ho.mono hW3)
 clear ho k9 hW3
 replace Hv:=Z9 ((uh Hv).below hb)
 replace kb:=bl kb hb
 replace ka:=bl ka hb
 replace kr:=bl kr hb
 replace BB:=bt BB hb
 clear hb
 obtain ⟨o0,o1,o2,o3,o4,o5⟩:=(uh kr).c6
 obtain ⟨f0,f1,f2,f3,f4,f5⟩:=(uh kr).f6
 go_wp2_with fail
 refine bodyPost_ret (v:= .tuple #[.agg #[.slice b0 Y.rooms.length q0,.slice b1 Y.guilds.length q1,.slice b2 Y.smiths.length q2,.slice b3 Y.desks.length q3,.slice b4 Y.paces.length q4,.int .i64 Y.now],.int .i64 0]) (by simp [results,Tryz.results209,go_sem, *]) rfl ⟨⟨_,_,_,_,_,oq,rfl,?_⟩,?_⟩
 ·refine FullSmy.mono (n₀:=w.heap.size+3) ?_ (by omega)
  iterate 6 (refine FullSmy.set ?_ _ _ _ (by omega))
  exact uh HO
 ·iterate 6 (refine Below.setCell ?_ (by show _<=w.heap.size+1+1;omega) _)
  exact uh BB
theorem IB  (who a b:Int) (hok:ZS m=true) (h:Smy w v0 v1 v2 v3 v4 m) :
  Calls Tryz.prog 209 #[.agg #[v0,v1,v2,v3,v4,.int .i64 m.now],.agg #[.int .i64 13,.int .i64 who,.int .i64 a,.int .i64 b]] w fun e w'=>Wt w.heap.size ((XG m,0)).1 ((XG m,0)).2 e w'/\Below w.heap.size w w':=by
 have Hok:=Z9 hok
 clear hok
 obtain ⟨Y,hY⟩:∃ y,XG m=y:=⟨_,rfl⟩
 rw [hY]
 have HY:=Z9 hY
 clear hY
 have Hv0:=Z9 h
 obtain ⟨a0,p0,a1,p1,a2,p2,a3,p3,a4,p4,rfl,rfl,rfl,rfl,rfl,_,_,_,_,_,_,_,_,_,_⟩:=h.five
 clear h
 go_enter Tryz.func209,Tryz.ntmps209
 go_wp2_with fail
 obtain ⟨W,hW,kb,ka,kr,BB⟩:=Zb w 32 (S6 a0 p0 a1 p1 a2 p2 a3 p3 a4 p4 m) 212 #[.int .i64 13,.int .i64 who,.int .i64 a,.int .i64 b] 32 E6
 have Hv:=Z9 ((uh Hv0).below (uh BB))
 rw [hW]
 clear hW
 refine (Zd (uh Hok) (uh Hv)).mono ?_
 rintro e w1 ⟨rfl,hb⟩
 replace Hv:=Z9 ((uh Hv).below hb)
 replace kb:=bl kb hb
 replace ka:=bl ka hb
 replace kr:=bl kr hb
 replace BB:=bt BB hb
 clear hb
 obtain ⟨c0,c1,c2,c3,c4,c5⟩:=(uh kb).c6
 obtain ⟨d0,d1,d2,d3⟩:=(uh ka).c4
 go_wp2_with fail
 clear c0 c1 c2 c3 c4 c5
 clear d0 d1 d2 d3
 refine (QW (uh Hv)).mono ?_
 rw [uh HY]
 rintro e w2 ⟨⟨y0,y1,y2,y3,y4,oq,rfl,ho⟩,hb⟩
 have k9:=ho.smy
 obtain ⟨b0,q0,b1,q1,b2,q2,b3,q3,b4,q4,rfl,rfl,rfl,rfl,rfl,_,_,_,_,_,_,_,_,_,_⟩:=k9.five
 have hW3:w.heap.size+3<=w1.heap.size:=by have:=(uh kr).lt;omega
 have HO:=Z9 (ho.mono hW3)
 clear ho k9 hW3
 replace Hv:=Z9 ((uh Hv).below hb)
 replace kb:=bl kb hb
 replace ka:=bl ka hb
 replace kr:=bl kr hb
 replace BB:=bt BB hb
 clear hb
 obtain ⟨o0,o1,o2,o3,o4,o5⟩:=(uh kr).c6
 obtain ⟨f0,f1,f2,f3,f4,f5⟩:=(uh kr).f6
 go_wp2_with fail
 refine bodyPost_ret (v:= .tuple #[.agg #[.slice b0 Y.rooms.length q0,.slice b1 Y.guilds.length q1,.slice b2 Y.smiths.length q2,.slice b3 Y.desks.length q3,.slice b4 Y.paces.length q4,.int .i64 Y.now],.int .i64 0]) (by simp [results,Tryz.results209,go_sem, *]) rfl ⟨⟨_,_,_,_,_,oq,rfl,?_⟩,?_⟩
 ·refine FullSmy.mono (n₀:=w.heap.size+3) ?_ (by omega)
  iterate 6 (refine FullSmy.set ?_ _ _ _ (by omega))
  exact uh HO
 ·iterate 6 (refine Below.setCell ?_ (by show _<=w.heap.size+1+1;omega) _)
  exact uh BB
theorem IC  (who a b:Int) (hok:ZS m=true) (h:Smy w v0 v1 v2 v3 v4 m) :
  Calls Tryz.prog 209 #[.agg #[v0,v1,v2,v3,v4,.int .i64 m.now],.agg #[.int .i64 14,.int .i64 who,.int .i64 a,.int .i64 b]] w fun e w'=>Wt w.heap.size (T3 m who a).1 (T3 m who a).2 e w'/\Below w.heap.size w w':=by
 have Hok:=Z9 hok
 clear hok
 obtain ⟨Y,hY⟩:∃ y,T3 m who a=y:=⟨_,rfl⟩
 rw [hY]
 have HY:=Z9 hY
 clear hY
 have Hv0:=Z9 h
 obtain ⟨a0,p0,a1,p1,a2,p2,a3,p3,a4,p4,rfl,rfl,rfl,rfl,rfl,_,_,_,_,_,_,_,_,_,_⟩:=h.five
 clear h
 go_enter Tryz.func209,Tryz.ntmps209
 go_wp2_with fail
 obtain ⟨W,hW,kb,ka,kr,BB⟩:=Zb w 32 (S6 a0 p0 a1 p1 a2 p2 a3 p3 a4 p4 m) 212 #[.int .i64 14,.int .i64 who,.int .i64 a,.int .i64 b] 32 E6
 have Hv:=Z9 ((uh Hv0).below (uh BB))
 rw [hW]
 clear hW
 refine (Zd (uh Hok) (uh Hv)).mono ?_
 rintro e w1 ⟨rfl,hb⟩
 replace Hv:=Z9 ((uh Hv).below hb)
 replace kb:=bl kb hb
 replace ka:=bl ka hb
 replace kr:=bl kr hb
 replace BB:=bt BB hb
 clear hb
 obtain ⟨c0,c1,c2,c3,c4,c5⟩:=(uh kb).c6
 obtain ⟨d0,d1,d2,d3⟩:=(uh ka).c4
 go_wp2_with fail
 clear c0 c1 c2 c3 c4 c5
 clear d0 d1 d2 d3
 refine (Kx who a (uh Hv) (uh Hok)).mono ?_
 rw [uh HY]
 obtain ⟨M,cd⟩:=Y
 rintro e w2 ⟨⟨y0,y1,y2,y3,y4,oq,rfl,ho⟩,hb⟩
 dsimp only at ho ⊢
 have k9:=ho.smy
 obtain ⟨b0,q0,b1,q1,b2,q2,b3,q3,b4,q4,rfl,rfl,rfl,rfl,rfl,_,_,_,_,_,_,_,_,_,_⟩:=k9.five
 have hW3:w.heap.size+3<=w1.heap.size:=by have:=(uh kr).lt;omega
 have HO:=Z9 (ho.mono hW3)
 clear ho k9 hW3
 replace Hv:=Z9 ((uh Hv).below hb)
 replace kb:=bl kb hb
 replace ka:=bl ka hb
 replace kr:=bl kr hb
 replace BB:=bt BB hb
 clear hb
 obtain ⟨o0,o1,o2,o3,o4,o5⟩:=(uh kr).c6
 obtain ⟨f0,f1,f2,f3,f4,f5⟩:=(uh kr).f6
 go_wp2_with fail
 refine bodyPost_ret (v:= .tuple #[.agg #[.slice b0 M.rooms.length q0,.slice b1 M.guilds.length q1,.slice b2 M.smiths.length q2,.slice b3 M.desks.length q3,.slice b4 M.paces.length q4,.int .i64 M.now],.int .i64 cd]) (by simp [results,Tryz.results209,go_sem, *]) rfl ⟨⟨_,_,_,_,_,oq,rfl,?_⟩,?_⟩
 ·refine FullSmy.mono (n₀:=w.heap.size+3) ?_ (by omega)
  iterate 6 (refine FullSmy.set ?_ _ _ _ (by omega))
  exact uh HO
 ·iterate 6 (refine Below.setCell ?_ (by show _<=w.heap.size+1+1;omega) _)
  exact uh BB
theorem Me  {k:Int} (who a b:Int) (hk:k<1\/14<k) (hok:ZS m=true) (h:Smy w v0 v1 v2 v3 v4 m) :
  Calls Tryz.prog 209 #[.agg #[v0,v1,v2,v3,v4,.int .i64 m.now],.agg #[.int .i64 k,.int .i64 who,.int .i64 a,.int .i64 b]] w fun e w'=>Wt w.heap.size ((m,(3:Int))).1 ((m,(3:Int))).2 e w'/\Below w.heap.size w w':=by
 have Hok:=Z9 hok
 clear hok
 have Hk:=Z9 hk
 clear hk
 have Hv0:=Z9 h
 obtain ⟨a0,p0,a1,p1,a2,p2,a3,p3,a4,p4,rfl,rfl,rfl,rfl,rfl,_,_,_,_,_,_,_,_,_,_⟩:=h.five
 clear h
 go_enter Tryz.func209,Tryz.ntmps209
 go_wp2_with fail
 obtain ⟨W,hW,kb,ka,kr,BB⟩:=Zb w 32 (S6 a0 p0 a1 p1 a2 p2 a3 p3 a4 p4 m) 212 #[.int .i64 k,.int .i64 who,.int .i64 a,.int .i64 b] 32 E6
 have Hv:=Z9 ((uh Hv0).below (uh BB))
 rw [hW]
 clear hW
 refine (Zd (uh Hok) (uh Hv)).mono ?_
 rintro e w1 ⟨rfl,hb⟩
 replace Hv:=Z9 ((uh Hv).below hb)
 replace kb:=bl kb hb
 replace ka:=bl ka hb
 replace kr:=bl kr hb
 replace BB:=bt BB hb
 clear hb
 obtain ⟨c0,c1,c2,c3,c4,c5⟩:=(uh kb).c6
 obtain ⟨d0,d1,d2,d3⟩:=(uh ka).c4
 have n1:(k ==1)=false:=by have:=uh Hk;simp;omega
 have m1:decide (k=1)=false:=by have:=uh Hk;simp;omega
 have n2:(k ==2)=false:=by have:=uh Hk;simp;omega
 have m2:decide (k=2)=false:=by have:=uh Hk;simp;omega
 have n3:(k ==3)=false:=by have:=uh Hk;simp;omega
 have m3:decide (k=3)=false:=by have:=uh Hk;simp;omega
 have n4:(k ==4)=false:=by have:=uh Hk;simp;omega
 have m4:decide (k=4)=false:=by have:=uh Hk;simp;omega
 have n5:(k ==5)=false:=by have:=uh Hk;simp;omega
 have m5:decide (k=5)=false:=by have:=uh Hk;simp;omega
 have n6:(k ==6)=false:=by have:=uh Hk;simp;omega
 have m6:decide (k=6)=false:=by have:=uh Hk;simp;omega
 have n7:(k ==7)=false:=by have:=uh Hk;simp;omega
 have m7:decide (k=7)=false:=by have:=uh Hk;simp;omega
 have n8:(k ==8)=false:=by have:=uh Hk;simp;omega
 have m8:decide (k=8)=false:=by have:=uh Hk;simp;omega
 have n9:(k ==9)=false:=by have:=uh Hk;simp;omega
 have m9:decide (k=9)=false:=by have:=uh Hk;simp;omega
 have n10:(k ==10)=false:=by have:=uh Hk;simp;omega
 have m10:decide (k=10)=false:=by have:=uh Hk;simp;omega
 have n11:(k ==11)=false:=by have:=uh Hk;simp;omega
 have m11:decide (k=11)=false:=by have:=uh Hk;simp;omega
 have n12:(k ==12)=false:=by have:=uh Hk;simp;omega
 have m12:decide (k=12)=false:=by have:=uh Hk;simp;omega
 have n13:(k ==13)=false:=by have:=uh Hk;simp;omega
 have m13:decide (k=13)=false:=by have:=uh Hk;simp;omega
 have n14:(k ==14)=false:=by have:=uh Hk;simp;omega
 have m14:decide (k=14)=false:=by have:=uh Hk;simp;omega
 go_wp2_with fail
 clear c0 c1 c2 c3 c4 c5
 clear d0 d1 d2 d3
 refine (Zy (uh Hv) (WZ (ZZ (uh Hok)))).mono ?_
 rintro e w2 ⟨y0,y1,y2,y3,y4,oq,rfl,ho,hb⟩
 have k9:=ho.smy
 obtain ⟨b0,q0,b1,q1,b2,q2,b3,q3,b4,q4,rfl,rfl,rfl,rfl,rfl,_,_,_,_,_,_,_,_,_,_⟩:=k9.five
 have hW3:w.heap.size+3<=w1.heap.size:=by have:=(uh kr).lt;omega
 have HO:=Z9 (ho.mono hW3)
 clear ho k9 hW3
 replace Hv:=Z9 ((uh Hv).below hb)
 replace kb:=bl kb hb
 replace ka:=bl ka hb
 replace kr:=bl kr hb
 replace BB:=bt BB hb
 clear hb
 obtain ⟨o0,o1,o2,o3,o4,o5⟩:=(uh kr).c6
 obtain ⟨f0,f1,f2,f3,f4,f5⟩:=(uh kr).f6
 go_wp2_with fail
 refine bodyPost_ret (v:= .tuple #[.agg #[.slice b0 m.rooms.length q0,.slice b1 m.guilds.length q1,.slice b2 m.smiths.length q2,.slice b3 m.desks.length q3,.slice b4 m.paces.length q4,.int .i64 m.now],.int .i64 3]) (by simp [results,Tryz.results209,go_sem, *]) rfl ⟨⟨_,_,_,_,_,oq,rfl,?_⟩,?_⟩
 ·refine FullSmy.mono (n₀:=w.heap.size+3) ?_ (by omega)
  iterate 6 (refine FullSmy.set ?_ _ _ _ (by omega))
  exact uh HO
 ·iterate 6 (refine Below.setCell ?_ (by show _<=w.heap.size+1+1;omega) _)
  exact uh BB
theorem O8  (k who a b:Int) (h:Smy w v0 v1 v2 v3 v4 m) :
  Calls Tryz.prog 209 #[.agg #[v0,v1,v2,v3,v4,.int .i64 m.now],.agg #[.int .i64 k,.int .i64 who,.int .i64 a,.int .i64 b]] w fun e w'=>Wt w.heap.size (Zu m k who a b).1 (Zu m k who a b).2 e w'/\Below w.heap.size w w':=by
 cases hok:ZS m
 ·have e:Zu m k who a b=(X9,3):=by unfold Zu;rw [hok];rfl
  rw [e];exact ID k who a b hok h
 by_cases hk:k<1\/14<k
 ·rw [P4 hok hk];exact Me who a b hk hok h
 rcases (show k=1\/k=2\/k=3\/k=4\/k=5\/k=6\/k=7\/k=8\/k=9\/k=10\/k=11\/k=12\/k=13\/k=14 by omega) with rfl | rfl | rfl | rfl | rfl | rfl | rfl | rfl | rfl | rfl | rfl | rfl | rfl | rfl
 ·rw [GI hok];exact Fm who a b hok h
 ·rw [GJ hok];exact Fo who a b hok h
 ·rw [GK hok];exact Fp who a b hok h
 ·rw [GL hok];exact Fq who a b hok h
 ·rw [GM hok];exact Fr who a b hok h
 ·rw [GN hok];exact Fs who a b hok h
 ·rw [GO hok];exact Ft who a b hok h
 ·rw [GP hok];exact Fu who a b hok h
 ·rw [GQ hok];exact Fv who a b hok h
 ·rw [Kh hok];exact Iy who a b hok h
 ·rw [Ki hok];exact Iz who a b hok h
 ·rw [Kj hok];exact IA who a b hok h
 ·rw [Kk hok];exact IB who a b hok h
 ·rw [Kl hok];exact IC who a b hok h
end Go.Proofs.YtaegckehjlkaaaaGreat
