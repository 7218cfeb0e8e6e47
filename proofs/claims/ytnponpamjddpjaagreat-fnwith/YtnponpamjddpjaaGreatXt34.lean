/- Part 34 of what the proof rests on. No condition but those that a theorem names. -/
import Derived.Test.YtnponpamjddpjaaGreatXt26
import Derived.Test.YtnponpamjddpjaaGreatXt28
import Derived.Test.YtnponpamjddpjaaGreatXt30
import Derived.Test.YtnponpamjddpjaaGreatXt32
import Derived.Test.YtnponpamjddpjaaGreatXt33
set_option maxHeartbeats 8000000
set_option maxRecDepth 100000
namespace Go.Proofs.YtnponpamjddpjaaGreat
open Go.ChangeShapes Go.WideShapes Go.ChangeAt Go.RowKit Go.Sort
set_option linter.unusedVariables false
set_option linter.unusedSimpArgs false
set_option maxRecDepth 100000
variable {w w' w0 w1 w2 w3 w₀ wr W W' X A B C : World} {v v0 v1 v2 v3 v4 u u0 u1 u2 u3 u4 : Value} {m : Z3}
theorem JQ  (k who a b:Int) (hok:ZK m=false) (h:Smy w v0 v1 v2 v3 v4 m) :
  Calls Tryz.prog 220 #[.agg #[v0,v1,v2,v3,v4,.int .i64 m.now],.agg #[.int .i64 k,.int .i64 who,.int .i64 a,.int .i64 b]] w fun e w'=>WY w.heap.size ((YB,(3:Int))).1 ((YB,(3:Int))).2 e w'/\Below w.heap.size w w':=by
 have Hv0:=Z9 h
 have Hok:=Z9 hok
 clear hok
 obtain ⟨a0,p0,a1,p1,a2,p2,a3,p3,a4,p4,rfl,rfl,rfl,rfl,rfl,_,_,_,_,_,_,_,_,_,_⟩:=h.five
 clear h
 go_enter Tryz.func220,Tryz.ntmps220
 go_wp2_with fail
 obtain ⟨W,hW,kb,ka,kr,BB⟩:=Zr w 32 (S6 a0 p0 a1 p1 a2 p2 a3 p3 a4 p4 m) 204 #[.int .i64 k,.int .i64 who,.int .i64 a,.int .i64 b] 32 E6
 have Hv:=Z9 ((uh Hv0).below (uh BB))
 rw [hW]
 clear hW
 refine (Zc (uh Hok) (uh Hv)).mono ?_
 rintro e w1 ⟨rfl,hb⟩
 replace Hv:=Z9 ((uh Hv).below hb)
 replace kb:=bl kb hb
 replace ka:=bl ka hb
 replace kr:=bl kr hb
 replace BB:=bt BB hb
 clear hb
 obtain ⟨c0,c1,c2,c3,c4,c5⟩:=(uh kb).c6
 go_wp2_with fail
 clear c0 c1 c2 c3 c4 c5
 refine (Yx (uh Hv)).mono ?_
 rintro e w2 ⟨rfl,hb⟩
 replace Hv:=Z9 ((uh Hv).below hb)
 replace kb:=bl kb hb
 replace ka:=bl ka hb
 replace kr:=bl kr hb
 replace BB:=bt BB hb
 clear hb
 obtain ⟨o0,o1,o2,o3,o4,o5⟩:=(uh kr).c6
 obtain ⟨f0,f1,f2,f3,f4,f5⟩:=(uh kr).f6
 go_wp2_with fail
 refine bodyPost_ret (v:= .tuple #[.agg #[.slice none 0 0,.slice none 0 0,.slice none 0 0,.slice none 0 0,.slice none 0 0,.int .i64 0],.int .i64 3]) (by simp [results,Tryz.results220,go_sem, *]) rfl ⟨⟨_,_,_,_,_,[],rfl,YO _ _⟩,?_⟩
 iterate 6 (refine Below.setCell ?_ (by show _<=w.heap.size+1+1;omega) _)
 exact uh BB
theorem G7  (who a b:Int) (hok:ZK m=true) (h:Smy w v0 v1 v2 v3 v4 m) :
  Calls Tryz.prog 220 #[.agg #[v0,v1,v2,v3,v4,.int .i64 m.now],.agg #[.int .i64 1,.int .i64 who,.int .i64 a,.int .i64 b]] w fun e w'=>WY w.heap.size (VW m a b (-1)).1 (VW m a b (-1)).2 e w'/\Below w.heap.size w w':=by
 have Hok:=Z9 hok
 clear hok
 obtain ⟨Y,hY⟩:∃ y,VW m a b (-1)=y:=⟨_,rfl⟩
 rw [hY]
 have HY:=Z9 hY
 clear hY
 have Hv0:=Z9 h
 obtain ⟨a0,p0,a1,p1,a2,p2,a3,p3,a4,p4,rfl,rfl,rfl,rfl,rfl,_,_,_,_,_,_,_,_,_,_⟩:=h.five
 clear h
 go_enter Tryz.func220,Tryz.ntmps220
 go_wp2_with fail
 obtain ⟨W,hW,kb,ka,kr,BB⟩:=Zr w 32 (S6 a0 p0 a1 p1 a2 p2 a3 p3 a4 p4 m) 204 #[.int .i64 1,.int .i64 who,.int .i64 a,.int .i64 b] 32 E6
 have Hv:=Z9 ((uh Hv0).below (uh BB))
 rw [hW]
 clear hW
 refine (Zc (uh Hok) (uh Hv)).mono ?_
 rintro e w1 ⟨rfl,hb⟩
 replace Hv:=Z9 ((uh Hv).below hb)
 replace kb:=bl kb hb
 replace ka:=bl ka hb
 replace kr:=bl kr hb
 replace BB:=bt BB hb
 clear hb
 obtain ⟨c0,c1,c2,c3,c4,c5⟩:=(uh kb).c6
 obtain ⟨d0,d1,d2,d3⟩:=(uh ka).c4
 go_wp2_with fail
 clear c0 c1 c2 c3 c4 c5
 clear d0 d1 d2 d3
 refine (zA4 a b (-1) (uh Hv)).mono ?_
 rw [uh HY]
 obtain ⟨M,cd⟩:=Y
 rintro e w2 ⟨⟨y0,y1,y2,y3,y4,oq,rfl,ho⟩,hb⟩
 dsimp only at ho ⊢
 have k9:=ho.smy
 obtain ⟨b0,q0,b1,q1,b2,q2,b3,q3,b4,q4,rfl,rfl,rfl,rfl,rfl,_,_,_,_,_,_,_,_,_,_⟩:=k9.five
 have hW3:w.heap.size+3<=w1.heap.size:=by have:=(uh kr).lt;omega
 have HO:=Z9 (ho.mono hW3)
 clear ho k9 hW3
 replace Hv:=Z9 ((uh Hv).below hb)
 replace kb:=bl kb hb
 replace ka:=bl ka hb
 replace kr:=bl kr hb
 replace BB:=bt BB hb
 clear hb
 obtain ⟨o0,o1,o2,o3,o4,o5⟩:=(uh kr).c6
 obtain ⟨f0,f1,f2,f3,f4,f5⟩:=(uh kr).f6
 go_wp2_with fail
 refine bodyPost_ret (v:= .tuple #[.agg #[.slice b0 M.rooms.length q0,.slice b1 M.guilds.length q1,.slice b2 M.smiths.length q2,.slice b3 M.desks.length q3,.slice b4 M.paces.length q4,.int .i64 M.now],.int .i64 cd]) (by simp [results,Tryz.results220,go_sem, *]) rfl ⟨⟨_,_,_,_,_,oq,rfl,?_⟩,?_⟩
 ·refine FullSmy.mono (n₀:=w.heap.size+3) ?_ (by omega)
  iterate 6 (refine FullSmy.set ?_ _ _ _ (by omega))
  exact uh HO
 ·iterate 6 (refine Below.setCell ?_ (by show _<=w.heap.size+1+1;omega) _)
  exact uh BB
theorem G8  (who a b:Int) (hok:ZK m=true) (h:Smy w v0 v1 v2 v3 v4 m) :
  Calls Tryz.prog 220 #[.agg #[v0,v1,v2,v3,v4,.int .i64 m.now],.agg #[.int .i64 2,.int .i64 who,.int .i64 a,.int .i64 b]] w fun e w'=>WY w.heap.size (Vk m who).1 (Vk m who).2 e w'/\Below w.heap.size w w':=by
 have Hok:=Z9 hok
 clear hok
 obtain ⟨Y,hY⟩:∃ y,Vk m who=y:=⟨_,rfl⟩
 rw [hY]
 have HY:=Z9 hY
 clear hY
 have Hv0:=Z9 h
 obtain ⟨a0,p0,a1,p1,a2,p2,a3,p3,a4,p4,rfl,rfl,rfl,rfl,rfl,_,_,_,_,_,_,_,_,_,_⟩:=h.five
 clear h
 go_enter Tryz.func220,Tryz.ntmps220
 go_wp2_with fail
 obtain ⟨W,hW,kb,ka,kr,BB⟩:=Zr w 32 (S6 a0 p0 a1 p1 a2 p2 a3 p3 a4 p4 m) 204 #[.int .i64 2,.int .i64 who,.int .i64 a,.int .i64 b] 32 E6
 have Hv:=Z9 ((uh Hv0).below (uh BB))
 rw [hW]
 clear hW
 refine (Zc (uh Hok) (uh Hv)).mono ?_
 rintro e w1 ⟨rfl,hb⟩
 replace Hv:=Z9 ((uh Hv).below hb)
 replace kb:=bl kb hb
 replace ka:=bl ka hb
 replace kr:=bl kr hb
 replace BB:=bt BB hb
 clear hb
 obtain ⟨c0,c1,c2,c3,c4,c5⟩:=(uh kb).c6
 obtain ⟨d0,d1,d2,d3⟩:=(uh ka).c4
 go_wp2_with fail
 clear c0 c1 c2 c3 c4 c5
 clear d0 d1 d2 d3
 refine (NF who (uh Hv)).mono ?_
 rw [uh HY]
 obtain ⟨M,cd⟩:=Y
 rintro e w2 ⟨⟨y0,y1,y2,y3,y4,oq,rfl,ho⟩,hb⟩
 dsimp only at ho ⊢
 have k9:=ho.smy
 obtain ⟨b0,q0,b1,q1,b2,q2,b3,q3,b4,q4,rfl,rfl,rfl,rfl,rfl,_,_,_,_,_,_,_,_,_,_⟩:=k9.five
 have hW3:w.heap.size+3<=w1.heap.size:=by have:=(uh kr).lt;omega
 have HO:=Z9 (ho.mono hW3)
 clear ho k9 hW3
 replace Hv:=Z9 ((uh Hv).below hb)
 replace kb:=bl kb hb
 replace ka:=bl ka hb
 replace kr:=bl kr hb
 replace BB:=bt BB hb
 clear hb
 obtain ⟨o0,o1,o2,o3,o4,o5⟩:=(uh kr).c6
 obtain ⟨f0,f1,f2,f3,f4,f5⟩:=(uh kr).f6
 go_wp2_with fail
 refine bodyPost_ret (v:= .tuple #[.agg #[.slice b0 M.rooms.length q0,.slice b1 M.guilds.length q1,.slice b2 M.smiths.length q2,.slice b3 M.desks.length q3,.slice b4 M.paces.length q4,.int .i64 M.now],.int .i64 cd]) (by simp [results,Tryz.results220,go_sem, *]) rfl ⟨⟨_,_,_,_,_,oq,rfl,?_⟩,?_⟩
 ·refine FullSmy.mono (n₀:=w.heap.size+3) ?_ (by omega)
  iterate 6 (refine FullSmy.set ?_ _ _ _ (by omega))
  exact uh HO
 ·iterate 6 (refine Below.setCell ?_ (by show _<=w.heap.size+1+1;omega) _)
  exact uh BB
theorem G9  (who a b:Int) (hok:ZK m=true) (h:Smy w v0 v1 v2 v3 v4 m) :
  Calls Tryz.prog 220 #[.agg #[v0,v1,v2,v3,v4,.int .i64 m.now],.agg #[.int .i64 3,.int .i64 who,.int .i64 a,.int .i64 b]] w fun e w'=>WY w.heap.size (VY m who).1 (VY m who).2 e w'/\Below w.heap.size w w':=by
 have Hok:=Z9 hok
 clear hok
 obtain ⟨Y,hY⟩:∃ y,VY m who=y:=⟨_,rfl⟩
 rw [hY]
 have HY:=Z9 hY
 clear hY
 have Hv0:=Z9 h
 obtain ⟨a0,p0,a1,p1,a2,p2,a3,p3,a4,p4,rfl,rfl,rfl,rfl,rfl,_,_,_,_,_,_,_,_,_,_⟩:=h.five
 clear h
 go_enter Tryz.func220,Tryz.ntmps220
 go_wp2_with fail
 obtain ⟨W,hW,kb,ka,kr,BB⟩:=Zr w 32 (S6 a0 p0 a1 p1 a2 p2 a3 p3 a4 p4 m) 204 #[.int .i64 3,.int .i64 who,.int .i64 a,.int .i64 b] 32 E6
 have Hv:=Z9 ((uh Hv0).below (uh BB))
 rw [hW]
 clear hW
 refine (Zc (uh Hok) (uh Hv)).mono ?_
 rintro e w1 ⟨rfl,hb⟩
 replace Hv:=Z9 ((uh Hv).below hb)
 replace kb:=bl kb hb
 replace ka:=bl ka hb
 replace kr:=bl kr hb
 replace BB:=bt BB hb
 clear hb
 obtain ⟨c0,c1,c2,c3,c4,c5⟩:=(uh kb).c6
 obtain ⟨d0,d1,d2,d3⟩:=(uh ka).c4
 go_wp2_with fail
 clear c0 c1 c2 c3 c4 c5
 clear d0 d1 d2 d3
 refine (NG who (uh Hv)).mono ?_
 rw [uh HY]
 obtain ⟨M,cd⟩:=Y
 rintro e w2 ⟨⟨y0,y1,y2,y3,y4,oq,rfl,ho⟩,hb⟩
 dsimp only at ho ⊢
 have k9:=ho.smy
 obtain ⟨b0,q0,b1,q1,b2,q2,b3,q3,b4,q4,rfl,rfl,rfl,rfl,rfl,_,_,_,_,_,_,_,_,_,_⟩:=k9.five
 have hW3:w.heap.size+3<=w1.heap.size:=by have:=(uh kr).lt;omega
 have HO:=Z9 (ho.mono hW3)
 clear ho k9 hW3
 replace Hv:=Z9 ((uh Hv).below hb)
 replace kb:=bl kb hb
 replace ka:=bl ka hb
 replace kr:=bl kr hb
 replace BB:=bt BB hb
 clear hb
 obtain ⟨o0,o1,o2,o3,o4,o5⟩:=(uh kr).c6
 obtain ⟨f0,f1,f2,f3,f4,f5⟩:=(uh kr).f6
 go_wp2_with fail
 refine bodyPost_ret (v:= .tuple #[.agg #[.slice b0 M.rooms.length q0,.slice b1 M.guilds.length q1,.slice b2 M.smiths.length q2,.slice b3 M.desks.length q3,.slice b4 M.paces.length q4,.int .i64 M.now],.int .i64 cd]) (by simp [results,Tryz.results220,go_sem, *]) rfl ⟨⟨_,_,_,_,_,oq,rfl,?_⟩,?_⟩
 ·refine FullSmy.mono (n₀:=w.heap.size+3) ?_ (by omega)
  iterate 6 (refine FullSmy.set ?_ _ _ _ (by omega))
  exact uh HO
 ·iterate 6 (refine Below.setCell ?_ (by show _<=w.heap.size+1+1;omega) _)
  exact uh BB
theorem Hj  (who a b:Int) (hok:ZK m=true) (h:Smy w v0 v1 v2 v3 v4 m) :
  Calls Tryz.prog 220 #[.agg #[v0,v1,v2,v3,v4,.int .i64 m.now],.agg #[.int .i64 4,.int .i64 who,.int .i64 a,.int .i64 b]] w fun e w'=>WY w.heap.size (WD m who).1 (WD m who).2 e w'/\Below w.heap.size w w':=by
 have Hok:=Z9 hok
 clear hok
 obtain ⟨Y,hY⟩:∃ y,WD m who=y:=⟨_,rfl⟩
 rw [hY]
 have HY:=Z9 hY
 clear hY
 have Hv0:=Z9 h
 obtain ⟨a0,p0,a1,p1,a2,p2,a3,p3,a4,p4,rfl,rfl,rfl,rfl,rfl,_,_,_,_,_,_,_,_,_,_⟩:=h.five
 clear h
 go_enter Tryz.func220,Tryz.ntmps220
 go_wp2_with fail
 obtain ⟨W,hW,kb,ka,kr,BB⟩:=Zr w 32 (S6 a0 p0 a1 p1 a2 p2 a3 p3 a4 p4 m) 204 #[.int .i64 4,.int .i64 who,.int .i64 a,.int .i64 b] 32 E6
 have Hv:=Z9 ((uh Hv0).below (uh BB))
 rw [hW]
 clear hW
 refine (Zc (uh Hok) (uh Hv)).mono ?_
 rintro e w1 ⟨rfl,hb⟩
 replace Hv:=Z9 ((uh Hv).below hb)
 replace kb:=bl kb hb
 replace ka:=bl ka hb
 replace kr:=bl kr hb
 replace BB:=bt BB hb
 clear hb
 obtain ⟨c0,c1,c2,c3,c4,c5⟩:=(uh kb).c6
 obtain ⟨d0,d1,d2,d3⟩:=(uh ka).c4
 go_wp2_with fail
 clear c0 c1 c2 c3 c4 c5
 clear d0 d1 d2 d3
 refine (OU who (uh Hv)).mono ?_
 rw [uh HY]
 obtain ⟨M,cd⟩:=Y
 rintro e w2 ⟨⟨y0,y1,y2,y3,y4,oq,rfl,ho⟩,hb⟩
 dsimp only at ho ⊢
 have k9:=ho.smy
 obtain ⟨b0,q0,b1,q1,b2,q2,b3,q3,b4,q4,rfl,rfl,rfl,rfl,rfl,_,_,_,_,_,_,_,_,_,_⟩:=k9.five
 have hW3:w.heap.size+3<=w1.heap.size:=by have:=(uh kr).lt;omega
 have HO:=Z9 (ho.mono hW3)
 clear ho k9 hW3
 replace Hv:=Z9 ((uh Hv).below hb)
 replace kb:=bl kb hb
 replace ka:=bl ka hb
 replace kr:=bl kr hb
 replace BB:=bt BB hb
 clear hb
 obtain ⟨o0,o1,o2,o3,o4,o5⟩:=(uh kr).c6
 obtain ⟨f0,f1,f2,f3,f4,f5⟩:=(uh kr).f6
 go_wp2_with fail
 refine bodyPost_ret (v:= .tuple #[.agg #[.slice b0 M.rooms.length q0,.slice b1 M.guilds.length q1,.slice b2 M.smiths.length q2,.slice b3 M.desks.length q3,.slice b4 M.paces.length q4,.int .i64 M.now],.int .i64 cd]) (by simp [results,Tryz.results220,go_sem, *]) rfl ⟨⟨_,_,_,_,_,oq,rfl,?_⟩,?_⟩
 ·refine FullSmy.mono (n₀:=w.heap.size+3) ?_ (by omega)
  iterate 6 (refine FullSmy.set ?_ _ _ _ (by omega))
  exact uh HO
 ·iterate 6 (refine Below.setCell ?_ (by show _<=w.heap.size+1+1;omega) _)
  exact uh BB
theorem HJ  (who a b:Int) (hok:ZK m=true) (h:Smy w v0 v1 v2 v3 v4 m) :
  Calls Tryz.prog 220 #[.agg #[v0,v1,v2,v3,v4,.int .i64 m.now],.agg #[.int .i64 5,.int .i64 who,.int .i64 a,.int .i64 b]] w fun e w'=>WY w.heap.size (WT m who a).1 (WT m who a).2 e w'/\Below w.heap.size w w':=by
 have Hok:=Z9 hok
 clear hok
 obtain ⟨Y,hY⟩:∃ y,WT m who a=y:=⟨_,rfl⟩
 rw [hY]
 have HY:=Z9 hY
 clear hY
 have Hv0:=Z9 h
 obtain ⟨a0,p0,a1,p1,a2,p2,a3,p3,a4,p4,rfl,rfl,rfl,rfl,rfl,_,_,_,_,_,_,_,_,_,_⟩:=h.five
 clear h
 go_enter Tryz.func220,Tryz.ntmps220
 go_wp2_with fail
 obtain ⟨W,hW,kb,ka,kr,BB⟩:=Zr w 32 (S6 a0 p0 a1 p1 a2 p2 a3 p3 a4 p4 m) 204 #[.int .i64 5,.int .i64 who,.int .i64 a,.int .i64 b] 32 E6
 have Hv:=Z9 ((uh Hv0).below (uh BB))
 rw [hW]
 clear hW
 refine (Zc (uh Hok) (uh Hv)).mono ?_
 rintro e w1 ⟨rfl,hb⟩
 replace Hv:=Z9 ((uh Hv).below hb)
 replace kb:=bl kb hb
 replace ka:=bl ka hb
 replace kr:=bl kr hb
 replace BB:=bt BB hb
 clear hb
 obtain ⟨c0,c1,c2,c3,c4,c5⟩:=(uh kb).c6
 obtain ⟨d0,d1,d2,d3⟩:=(uh ka).c4
 go_wp2_with fail
 clear c0 c1 c2 c3 c4 c5
 clear d0 d1 d2 d3
 refine (P9 who a (uh Hv)).mono ?_
 rw [uh HY]
 obtain ⟨M,cd⟩:=Y
 rintro e w2 ⟨⟨y0,y1,y2,y3,y4,oq,rfl,ho⟩,hb⟩
 dsimp only at ho ⊢
 have k9:=ho.smy
 obtain ⟨b0,q0,b1,q1,b2,q2,b3,q3,b4,q4,rfl,rfl,rfl,rfl,rfl,_,_,_,_,_,_,_,_,_,_⟩:=k9.five
 have hW3:w.heap.size+3<=w1.heap.size:=by have:=(uh kr).lt;omega
 have HO:=Z9 (ho.mono hW3)
 clear ho k9 hW3
 replace Hv:=Z9 ((uh Hv).below hb)
 replace kb:=bl kb hb
 replace ka:=bl ka hb
 replace kr:=bl kr hb
 replace BB:=bt BB hb
 clear hb
 obtain ⟨o0,o1,o2,o3,o4,o5⟩:=(uh kr).c6
 obtain ⟨f0,f1,f2,f3,f4,f5⟩:=(uh kr).f6
 go_wp2_with fail
 refine bodyPost_ret (v:= .tuple #[.agg #[.slice b0 M.rooms.length q0,.slice b1 M.guilds.length q1,.slice b2 M.smiths.length q2,.slice b3 M.desks.length q3,.slice b4 M.paces.length q4,.int .i64 M.now],.int .i64 cd]) (by simp [results,Tryz.results220,go_sem, *]) rfl ⟨⟨_,_,_,_,_,oq,rfl,?_⟩,?_⟩
 ·refine FullSmy.mono (n₀:=w.heap.size+3) ?_ (by omega)
  iterate 6 (refine FullSmy.set ?_ _ _ _ (by omega))
  exact uh HO
 ·iterate 6 (refine Below.setCell ?_ (by show _<=w.heap.size+1+1;omega) _)
  exact uh BB
theorem H7  (who a b:Int) (hok:ZK m=true) (h:Smy w v0 v1 v2 v3 v4 m) :
  Calls Tryz.prog 220 #[.agg #[v0,v1,v2,v3,v4,.int .i64 m.now],.agg #[.int .i64 6,.int .i64 who,.int .i64 a,.int .i64 b]] w fun e w'=>WY w.heap.size (Xq m who a).1 (Xq m who a).2 e w'/\Below w.heap.size w w':=by
 have Hok:=Z9 hok
 clear hok
 obtain ⟨Y,hY⟩:∃ y,Xq m who a=y:=⟨_,rfl⟩
 rw [hY]
 have HY:=Z9 hY
 clear hY
 have Hv0:=Z9 h
 obtain ⟨a0,p0,a1,p1,a2,p2,a3,p3,a4,p4,rfl,rfl,rfl,rfl,rfl,_,_,_,_,_,_,_,_,_,_⟩:=h.five
 clear h
 go_enter Tryz.func220,Tryz.ntmps220
 go_wp2_with fail
 obtain ⟨W,hW,kb,ka,kr,BB⟩:=Zr w 32 (S6 a0 p0 a1 p1 a2 p2 a3 p3 a4 p4 m) 204 #[.int .i64 6,.int .i64 who,.int .i64 a,.int .i64 b] 32 E6
 have Hv:=Z9 ((uh Hv0).below (uh BB))
 rw [hW]
 clear hW
 refine (Zc (uh Hok) (uh Hv)).mono ?_
 rintro e w1 ⟨rfl,hb⟩
 replace Hv:=Z9 ((uh Hv).below hb)
 replace kb:=bl kb hb
 replace ka:=bl ka hb
 replace kr:=bl kr hb
 replace BB:=bt BB hb
 clear hb
 obtain ⟨c0,c1,c2,c3,c4,c5⟩:=(uh kb).c6
 obtain ⟨d0,d1,d2,d3⟩:=(uh ka).c4
 go_wp2_with fail
 clear c0 c1 c2 c3 c4 c5
 clear d0 d1 d2 d3
 refine (QI who a (uh Hv)).mono ?_
 rw [uh HY]
 obtain ⟨M,cd⟩:=Y
 rintro e w2 ⟨⟨y0,y1,y2,y3,y4,oq,rfl,ho⟩,hb⟩
 dsimp only at ho ⊢
 have k9:=ho.smy
 obtain ⟨b0,q0,b1,q1,b2,q2,b3,q3,b4,q4,rfl,rfl,rfl,rfl,rfl,_,_,_,_,_,_,_,_,_,_⟩:=k9.five
 have hW3:w.heap.size+3<=w1.heap.size:=by have:=(uh kr).lt;omega
 have HO:=Z9 (ho.mono hW3)
 clear ho k9 hW3
 replace Hv:=Z9 ((uh Hv).below hb)
 replace kb:=bl kb hb
 replace ka:=bl ka hb
 replace kr:=bl kr hb
 replace BB:=bt BB hb
 clear hb
 obtain ⟨o0,o1,o2,o3,o4,o5⟩:=(uh kr).c6
 obtain ⟨f0,f1,f2,f3,f4,f5⟩:=(uh kr).f6
 go_wp2_with fail
 refine bodyPost_ret (v:= .tuple #[.agg #[.slice b0 M.rooms.length q0,.slice b1 M.guilds.length q1,.slice b2 M.smiths.length q2,.slice b3 M.desks.length q3,.slice b4 M.paces.length q4,.int .i64 M.now],.int .i64 cd]) (by simp [results,Tryz.results220,go_sem, *]) rfl ⟨⟨_,_,_,_,_,oq,rfl,?_⟩,?_⟩
 ·refine FullSmy.mono (n₀:=w.heap.size+3) ?_ (by omega)
  iterate 6 (refine FullSmy.set ?_ _ _ _ (by omega))
  exact uh HO
 ·iterate 6 (refine Below.setCell ?_ (by show _<=w.heap.size+1+1;omega) _)
  exact uh BB
theorem H8  (who a b:Int) (hok:ZK m=true) (h:Smy w v0 v1 v2 v3 v4 m) :
  Calls Tryz.prog 220 #[.agg #[v0,v1,v2,v3,v4,.int .i64 m.now],.agg #[.int .i64 7,.int .i64 who,.int .i64 a,.int .i64 b]] w fun e w'=>WY w.heap.size (WS m who a b).1 (WS m who a b).2 e w'/\Below w.heap.size w w':=by
 have Hok:=Z9 hok
 clear hok
 obtain ⟨Y,hY⟩:∃ y,WS m who a b=y:=⟨_,rfl⟩
 rw [hY]
 have HY:=Z9 hY
 clear hY
 have Hv0:=Z9 h
 obtain ⟨a0,p0,a1,p1,a2,p2,a3,p3,a4,p4,rfl,rfl,rfl,rfl,rfl,_,_,_,_,_,_,_,_,_,_⟩:=h.five
 clear h
 go_enter Tryz.func220,Tryz.ntmps220
 go_wp2_with fail
 obtain ⟨W,hW,kb,ka,kr,BB⟩:=Zr w 32 (S6 a0 p0 a1 p1 a2 p2 a3 p3 a4 p4 m) 204 #[.int .i64 7,.int .i64 who,.int .i64 a,.int .i64 b] 32 E6
 have Hv:=Z9 ((uh Hv0).below (uh BB))
 rw [hW]
 clear hW
 refine (Zc (uh Hok) (uh Hv)).mono ?_
 rintro e w1 ⟨rfl,hb⟩
 replace Hv:=Z9 ((uh Hv).below hb)
 replace kb:=bl kb hb
 replace ka:=bl ka hb
 replace kr:=bl kr hb
 replace BB:=bt BB hb
 clear hb
 obtain ⟨c0,c1,c2,c3,c4,c5⟩:=(uh kb).c6
 obtain ⟨d0,d1,d2,d3⟩:=(uh ka).c4
 go_wp2_with fail
 clear c0 c1 c2 c3 c4 c5
 clear d0 d1 d2 d3
 refine (QM who a b (uh Hv)).mono ?_
 rw [uh HY]
 obtain ⟨M,cd⟩:=Y
 rintro e w2 ⟨⟨y0,y1,y2,y3,y4,oq,rfl,ho⟩,hb⟩
 dsimp only at ho ⊢
 have k9:=ho.smy
 obtain ⟨b0,q0,b1,q1,b2,q2,b3,q3,b4,q4,rfl,rfl,rfl,rfl,rfl,_,_,_,_,_,_,_,_,_,_⟩:=k9.five
 have hW3:w.heap.size+3<=w1.heap.size:=by have:=(uh kr).lt;omega
 have HO:=Z9 (ho.mono hW3)
 clear ho k9 hW3
 replace Hv:=Z9 ((uh Hv).below hb)
 replace kb:=bl kb hb
 replace ka:=bl ka hb
 replace kr:=bl kr hb
 replace BB:=bt BB hb
 clear hb
 obtain ⟨o0,o1,o2,o3,o4,o5⟩:=(uh kr).c6
 obtain ⟨f0,f1,f2,f3,f4,f5⟩:=(uh kr).f6
 go_wp2_with fail
 refine bodyPost_ret (v:= .tuple #[.agg #[.slice b0 M.rooms.length q0,.slice b1 M.guilds.length q1,.slice b2 M.smiths.length q2,.slice b3 M.desks.length q3,.slice b4 M.paces.length q4,.int .i64 M.now],.int .i64 cd]) (by simp [results,Tryz.results220,go_sem, *]) rfl ⟨⟨_,_,_,_,_,oq,rfl,?_⟩,?_⟩
 ·refine FullSmy.mono (n₀:=w.heap.size+3) ?_ (by omega)
  iterate 6 (refine FullSmy.set ?_ _ _ _ (by omega))
  exact uh HO
 ·iterate 6 (refine Below.setCell ?_ (by show _<=w.heap.size+1+1;omega) _)
  exact uh BB
theorem Ia  (who a b:Int) (hok:ZK m=true) (h:Smy w v0 v1 v2 v3 v4 m) :
  Calls Tryz.prog 220 #[.agg #[v0,v1,v2,v3,v4,.int .i64 m.now],.agg #[.int .i64 8,.int .i64 who,.int .i64 a,.int .i64 b]] w fun e w'=>WY w.heap.size (XN m a).1 (XN m a).2 e w'/\Below w.heap.size w w':=by
 have Hok:=Z9 hok
 clear hok
 obtain ⟨Y,hY⟩:∃ y,XN m a=y:=⟨_,rfl⟩
 rw [hY]
 have HY:=Z9 hY
 clear hY
 have Hv0:=Z9 h
 obtain ⟨a0,p0,a1,p1,a2,p2,a3,p3,a4,p4,rfl,rfl,rfl,rfl,rfl,_,_,_,_,_,_,_,_,_,_⟩:=h.five
 clear h
 go_enter Tryz.func220,Tryz.ntmps220
 go_wp2_with fail
 obtain ⟨W,hW,kb,ka,kr,BB⟩:=Zr w 32 (S6 a0 p0 a1 p1 a2 p2 a3 p3 a4 p4 m) 204 #[.int .i64 8,.int .i64 who,.int .i64 a,.int .i64 b] 32 E6
 have Hv:=Z9 ((uh Hv0).below (uh BB))
 rw [hW]
 clear hW
 refine (Zc (uh Hok) (uh Hv)).mono ?_
 rintro e w1 ⟨rfl,hb⟩
 replace Hv:=Z9 ((uh Hv).below hb)
 replace kb:=bl kb hb
 replace ka:=bl ka hb
 replace kr:=bl kr hb
 replace BB:=bt BB hb
 clear hb
 obtain ⟨c0,c1,c2,c3,c4,c5⟩:=(uh kb).c6
 obtain ⟨d0,d1,d2,d3⟩:=(uh ka).c4
 go_wp2_with fail
 clear c0 c1 c2 c3 c4 c5
 clear d0 d1 d2 d3
 refine (P0 a (uh Hv)).mono ?_
 rw [uh HY]
 obtain ⟨M,cd⟩:=Y
 rintro e w2 ⟨⟨y0,y1,y2,y3,y4,oq,rfl,ho⟩,hb⟩
 dsimp only at ho ⊢
 have k9:=ho.smy
 obtain ⟨b0,q0,b1,q1,b2,q2,b3,q3,b4,q4,rfl,rfl,rfl,rfl,rfl,_,_,_,_,_,_,_,_,_,_⟩:=k9.five
 have hW3:w.heap.size+3<=w1.heap.size:=by have:=(uh kr).lt;omega
 have HO:=Z9 (ho.mono hW3)
 clear ho k9 hW3
 replace Hv:=Z9 ((uh Hv).below hb)
 replace kb:=bl kb hb
 replace ka:=bl ka hb
 replace kr:=bl kr hb
 replace BB:=bt BB hb
 clear hb
 obtain ⟨o0,o1,o2,o3,o4,o5⟩:=(uh kr).c6
 obtain ⟨f0,f1,f2,f3,f4,f5⟩:=(uh kr).f6
 go_wp2_with fail
 refine bodyPost_ret (v:= .tuple #[.agg #[.slice b0 M.rooms.length q0,.slice b1 M.guilds.length q1,.slice b2 M.smiths.length q2,.slice b3 M.desks.length q3,.slice b4 M.paces.length q4,.int .i64 M.now],.int .i64 cd]) (by simp [results,Tryz.results220,go_sem, *]) rfl ⟨⟨_,_,_,_,_,oq,rfl,?_⟩,?_⟩
 ·refine FullSmy.mono (n₀:=w.heap.size+3) ?_ (by omega)
  iterate 6 (refine FullSmy.set ?_ _ _ _ (by omega))
  exact uh HO
 ·iterate 6 (refine Below.setCell ?_ (by show _<=w.heap.size+1+1;omega) _)
  exact uh BB
theorem Ib  (who a b:Int) (hok:ZK m=true) (h:Smy w v0 v1 v2 v3 v4 m) :
  Calls Tryz.prog 220 #[.agg #[v0,v1,v2,v3,v4,.int .i64 m.now],.agg #[.int .i64 9,.int .i64 who,.int .i64 a,.int .i64 b]] w fun e w'=>WY w.heap.size (Vh m a).1 (Vh m a).2 e w'/\Below w.heap.size w w':=by
 have Hok:=Z9 hok
 clear hok
 obtain ⟨Y,hY⟩:∃ y,Vh m a=y:=⟨_,rfl⟩
 rw [hY]
 have HY:=Z9 hY
 clear hY
 have Hv0:=Z9 h
 obtain ⟨a0,p0,a1,p1,a2,p2,a3,p3,a4,p4,rfl,rfl,rfl,rfl,rfl,_,_,_,_,_,_,_,_,_,_⟩:=h.five
 clear h
 go_enter Tryz.func220,Tryz.ntmps220
 go_wp2_with fail
 obtain ⟨W,hW,kb,ka,kr,BB⟩:=Zr w 32 (S6 a0 p0 a1 p1 a2 p2 a3 p3 a4 p4 m) 204 #[.int .i64 9,.int .i64 who,.int .i64 a,.int .i64 b] 32 E6
 have Hv:=Z9 ((uh Hv0).below (uh BB))
 rw [hW]
 clear hW
 refine (Zc (uh Hok) (uh Hv)).mono ?_
 rintro e w1 ⟨rfl,hb⟩
 replace Hv:=Z9 ((uh Hv).below hb)
 replace kb:=bl kb hb
 replace ka:=bl ka hb
 replace kr:=bl kr hb
 replace BB:=bt BB hb
 clear hb
 obtain ⟨c0,c1,c2,c3,c4,c5⟩:=(uh kb).c6
 obtain ⟨d0,d1,d2,d3⟩:=(uh ka).c4
 go_wp2_with fail
 clear c0 c1 c2 c3 c4 c5
 clear d0 d1 d2 d3
 refine (P7 a (uh Hv)).mono ?_
 rw [uh HY]
 obtain ⟨M,cd⟩:=Y
 rintro e w2 ⟨⟨y0,y1,y2,y3,y4,oq,rfl,ho⟩,hb⟩
 dsimp only at ho ⊢
 have k9:=ho.smy
 obtain ⟨b0,q0,b1,q1,b2,q2,b3,q3,b4,q4,rfl,rfl,rfl,rfl,rfl,_,_,_,_,_,_,_,_,_,_⟩:=k9.five
 have hW3:w.heap.size+3<=w1.heap.size:=by have:=(uh kr).lt;omega
 have HO:=Z9 (ho.mono hW3)
 clear ho k9 hW3
 replace Hv:=Z9 ((uh Hv).below hb)
 replace kb:=bl kb hb
 replace ka:=bl ka hb
 replace kr:=bl kr hb
 replace BB:=bt BB hb
 clear hb
 obtain ⟨o0,o1,o2,o3,o4,o5⟩:=(uh kr).c6
 obtain ⟨f0,f1,f2,f3,f4,f5⟩:=(uh kr).f6
 go_wp2_with fail
 refine bodyPost_ret (v:= .tuple #[.agg #[.slice b0 M.rooms.length q0,.slice b1 M.guilds.length q1,.slice b2 M.smiths.length q2,.slice b3 M.desks.length q3,.slice b4 M.paces.length q4,.int .i64 M.now],.int .i64 cd]) (by simp [results,Tryz.results220,go_sem, *]) rfl ⟨⟨_,_,_,_,_,oq,rfl,?_⟩,?_⟩
 ·refine FullSmy.mono (n₀:=w.heap.size+3) ?_ (by omega)
  iterate 6 (refine FullSmy.set ?_ _ _ _ (by omega))
  exact uh HO
 ·iterate 6 (refine Below.setCell ?_ (by show _<=w.heap.size+1+1;omega) _)
  exact uh BB
theorem JL  (who a b:Int) (hok:ZK m=true) (h:Smy w v0 v1 v2 v3 v4 m) :
  Calls Tryz.prog 220 #[.agg #[v0,v1,v2,v3,v4,.int .i64 m.now],.agg #[.int .i64 10,.int .i64 who,.int .i64 a,.int .i64 b]] w fun e w'=>WY w.heap.size (VI m a).1 (VI m a).2 e w'/\Below w.heap.size w w':=by
 have Hok:=Z9 hok
 clear hok
 obtain ⟨Y,hY⟩:∃ y,VI m a=y:=⟨_,rfl⟩
 rw [hY]
 have HY:=Z9 hY
 clear hY
 have Hv0:=Z9 h
 obtain ⟨a0,p0,a1,p1,a2,p2,a3,p3,a4,p4,rfl,rfl,rfl,rfl,rfl,_,_,_,_,_,_,_,_,_,_⟩:=h.five
 clear h
 go_enter Tryz.func220,Tryz.ntmps220
 go_wp2_with fail
 obtain ⟨W,hW,kb,ka,kr,BB⟩:=Zr w 32 (S6 a0 p0 a1 p1 a2 p2 a3 p3 a4 p4 m) 204 #[.int .i64 10,.int .i64 who,.int .i64 a,.int .i64 b] 32 E6
 have Hv:=Z9 ((uh Hv0).below (uh BB))
 rw [hW]
 clear hW
 refine (Zc (uh Hok) (uh Hv)).mono ?_
 rintro e w1 ⟨rfl,hb⟩
 replace Hv:=Z9 ((uh Hv).below hb)
 replace kb:=bl kb hb
 replace ka:=bl ka hb
 replace kr:=bl kr hb
 replace BB:=bt BB hb
 clear hb
 obtain ⟨c0,c1,c2,c3,c4,c5⟩:=(uh kb).c6
 obtain ⟨d0,d1,d2,d3⟩:=(uh ka).c4
 go_wp2_with fail
 clear c0 c1 c2 c3 c4 c5
 clear d0 d1 d2 d3
 refine (Qb a (uh Hv)).mono ?_
 rw [uh HY]
 obtain ⟨M,cd⟩:=Y
 rintro e w2 ⟨⟨y0,y1,y2,y3,y4,oq,rfl,ho⟩,hb⟩
 dsimp only at ho ⊢
 have k9:=ho.smy
 obtain ⟨b0,q0,b1,q1,b2,q2,b3,q3,b4,q4,rfl,rfl,rfl,rfl,rfl,_,_,_,_,_,_,_,_,_,_⟩:=k9.five
 have hW3:w.heap.size+3<=w1.heap.size:=by have:=(uh kr).lt;omega
 have HO:=Z9 (ho.mono hW3)
 clear ho k9 hW3
 replace Hv:=Z9 ((uh Hv).below hb)
 replace kb:=bl kb hb
 replace ka:=bl ka hb
 replace kr:=bl kr hb
 replace BB:=bt BB hb
 clear hb
 obtain ⟨o0,o1,o2,o3,o4,o5⟩:=(uh kr).c6
 obtain ⟨f0,f1,f2,f3,f4,f5⟩:=(uh kr).f6
 go_wp2_with fail
 refine bodyPost_ret (v:= .tuple #[.agg #[.slice b0 M.rooms.length q0,.slice b1 M.guilds.length q1,.slice b2 M.smiths.length q2,.slice b3 M.desks.length q3,.slice b4 M.paces.length q4,.int .i64 M.now],.int .i64 cd]) (by simp [results,Tryz.results220,go_sem, *]) rfl ⟨⟨_,_,_,_,_,oq,rfl,?_⟩,?_⟩
 ·refine FullSmy.mono (n₀:=w.heap.size+3) ?_ (by omega)
  iterate 6 (refine FullSmy.set ?_ _ _ _ (by omega))
  exact uh HO
 ·iterate 6 (refine Below.setCell ?_ (by show _<=w.heap.size+1+1;omega) _)
  exact uh BB
theorem JM  (who a b:Int) (hok:ZK m=true) (h:Smy w v0 v1 v2 v3 v4 m) :
  Calls Tryz.prog 220 #[.agg #[v0,v1,v2,v3,v4,.int .i64 m.now],.agg #[.int .i64 11,.int .i64 who,.int .i64 a,.int .i64 b]] w fun e w'=>WY w.heap.size (zA7 m a b).1 (zA7 m a b).2 e w'/\Below w.heap.size w w':=by
 have Hok:=Z9 hok
 clear hok
 obtain ⟨Y,hY⟩:∃ y,zA7 m a b=y:=⟨_,rfl⟩
 rw [hY]
 have HY:=Z9 hY
 clear hY
 have Hv0:=Z9 h
 obtain ⟨a0,p0,a1,p1,a2,p2,a3,p3,a4,p4,rfl,rfl,rfl,rfl,rfl,_,_,_,_,_,_,_,_,_,_⟩:=h.five
 clear h
 go_enter Tryz.func220,Tryz.ntmps220
 go_wp2_with fail
 obtain ⟨W,hW,kb,ka,kr,BB⟩:=Zr w 32 (S6 a0 p0 a1 p1 a2 p2 a3 p3 a4 p4 m) 204 #[.int .i64 11,.int .i64 who,.int .i64 a,.int .i64 b] 32 E6
 have Hv:=Z9 ((uh Hv0).below (uh BB))
 rw [hW]
 clear hW
 refine (Zc (uh Hok) (uh Hv)).mono ?_
 rintro e w1 ⟨rfl,hb⟩
 replace Hv:=Z9 ((uh Hv).below hb)
 replace kb:=bl kb hb
 replace ka:=bl ka hb
 replace kr:=bl kr hb
 replace BB:=bt BB hb
 clear hb
 obtain ⟨c0,c1,c2,c3,c4,c5⟩:=(uh kb).c6
 obtain ⟨d0,d1,d2,d3⟩:=(uh ka).c4
 go_wp2_with fail
 clear c0 c1 c2 c3 c4 c5
 clear d0 d1 d2 d3
 refine (QK a b (uh Hv)).mono ?_
 rw [uh HY]
 obtain ⟨M,cd⟩:=Y
 rintro e w2 ⟨⟨y0,y1,y2,y3,y4,oq,rfl,ho⟩,hb⟩
 dsimp only at ho ⊢
 have k9:=ho.smy
 obtain ⟨b0,q0,b1,q1,b2,q2,b3,q3,b4,q4,rfl,rfl,rfl,rfl,rfl,_,_,_,_,_,_,_,_,_,_⟩:=k9.five
 have hW3:w.heap.size+3<=w1.heap.size:=by have:=(uh kr).lt;omega
 have HO:=Z9 (ho.mono hW3)
 clear ho k9 hW3
 replace Hv:=Z9 ((uh Hv).below hb)
 replace kb:=bl kb hb
 replace ka:=bl ka hb
 replace kr:=bl kr hb
 replace BB:=bt BB hb
 clear hb
 obtain ⟨o0,o1,o2,o3,o4,o5⟩:=(uh kr).c6
 obtain ⟨f0,f1,f2,f3,f4,f5⟩:=(uh kr).f6
 go_wp2_with fail
 refine bodyPost_ret (v:= .tuple #[.agg #[.slice b0 M.rooms.length q0,.slice b1 M.guilds.length q1,.slice b2 M.smiths.length q2,.slice b3 M.desks.length q3,.slice b4 M.paces.length q4,.int .i64 M.now],.int .i64 cd]) (by simp [results,Tryz.results220,go_sem, *]) rfl ⟨⟨_,_,_,_,_,oq,rfl,?_⟩,?_⟩
 ·refine FullSmy.mono (n₀:=w.heap.size+3) ?_ (by omega)
  iterate 6 (refine FullSmy.set ?_ _ _ _ (by omega))
  exact uh HO
 ·iterate 6 (refine Below.setCell ?_ (by show _<=w.heap.size+1+1;omega) _)
  exact uh BB
theorem JN  (who a b:Int) (hok:ZK m=true) (h:Smy w v0 v1 v2 v3 v4 m) :
  Calls Tryz.prog 220 #[.agg #[v0,v1,v2,v3,v4,.int .i64 m.now],.agg #[.int .i64 12,.int .i64 who,.int .i64 a,.int .i64 b]] w fun e w'=>WY w.heap.size ((M6 m,0)).1 ((M6 m,0)).2 e w'/\Below w.heap.size w w':=by
 have Hok:=Z9 hok
 clear hok
 obtain ⟨Y,hY⟩:∃ y,M6 m=y:=⟨_,rfl⟩
 rw [hY]
 have HY:=Z9 hY
 clear hY
 have Hv0:=Z9 h
 obtain ⟨a0,p0,a1,p1,a2,p2,a3,p3,a4,p4,rfl,rfl,rfl,rfl,rfl,_,_,_,_,_,_,_,_,_,_⟩:=h.five
 clear h
 go_enter Tryz.func220,Tryz.ntmps220
 go_wp2_with fail
 obtain ⟨W,hW,kb,ka,kr,BB⟩:=Zr w 32 (S6 a0 p0 a1 p1 a2 p2 a3 p3 a4 p4 m) 204 #[.int .i64 12,.int .i64 who,.int .i64 a,.int .i64 b] 32 E6
 have Hv:=Z9 ((uh Hv0).below (uh BB))
 rw [hW]
 clear hW
 refine (Zc (uh Hok) (uh Hv)).mono ?_
 rintro e w1 ⟨rfl,hb⟩
 replace Hv:=Z9 ((uh Hv).below hb)
 replace kb:=bl kb hb
 replace ka:=bl ka hb
 replace kr:=bl kr hb
 replace BB:=bt BB hb
 clear hb
 obtain ⟨c0,c1,c2,c3,c4,c5⟩:=(uh kb).c6
 obtain ⟨d0,d1,d2,d3⟩:=(uh ka).c4
 go_wp2_with fail
 clear c0 c1 c2 c3 c4 c5
 clear d0 d1 d2 d3
 refine (JY (uh Hv) (uh Hok)).mono ?_
 rw [uh HY]
 rintro e w2 ⟨⟨y0,y1,y2,y3,y4,oq,rfl,ho⟩,hb⟩
 have k9:=ho.smy
 obtain ⟨b0,q0,b1,q1,b2,q2,b3,q3,b4,q4,rfl,rfl,rfl,rfl,rfl,_,_,_,_,_,_,_,_,_,_⟩:=k9.five
 have hW3:w.heap.size+3<=w1.heap.size:=by have:=(uh kr).lt;omega
 have HO:=Z9 (ho.mono hW3)
 clear ho k9 hW3
 replace Hv:=Z9 ((uh Hv).below hb)
 replace kb:=bl kb hb
 replace ka:=bl ka hb
 replace kr:=bl kr hb
 replace BB:=bt BB hb
 clear hb
 obtain ⟨o0,o1,o2,o3,o4,o5⟩:=(uh kr).c6
 obtain ⟨f0,f1,f2,f3,f4,f5⟩:=(uh kr).f6
 go_wp2_with fail
 refine bodyPost_ret (v:= .tuple #[.agg #[.slice b0 Y.rooms.length q0,.slice b1 Y.guilds.length q1,.slice b2 Y.smiths.length q2,.slice b3 Y.desks.length q3,.slice b4 Y.paces.length q4,.int .i64 Y.now],.int .i64 0]) (by simp [results,Tryz.results220,go_sem, *]) rfl ⟨⟨_,_,_,_,_,oq,rfl,?_⟩,?_⟩
 ·refine FullSmy.mono (n₀:=w.heap.size+3) ?_ (by omega)
  iterate 6 (refine FullSmy.set ?_ _ _ _ (by omega))
  exact uh HO
 ·iterate 6 (refine Below.setCell ?_ (by show _<=w.heap.size+1+1;omega) _)
  exact uh BB
theorem JO  (who a b:Int) (hok:ZK m=true) (h:Smy w v0 v1 v2 v3 v4 m) :
  Calls Tryz.prog 220 #[.agg #[v0,v1,v2,v3,v4,.int .i64 m.now],.agg #[.int .i64 13,.int .i64 who,.int .i64 a,.int .i64 b]] w fun e w'=>WY w.heap.size ((XW m,0)).1 ((XW m,0)).2 e w'/\Below w.heap.size w w':=by
 have Hok:=Z9 hok
 clear hok
 obtain ⟨Y,hY⟩:∃ y,XW m=y:=⟨_,rfl⟩
 rw [hY]
 have HY:=Z9 hY
 clear hY
 have Hv0:=Z9 h
 obtain ⟨a0,p0,a1,p1,a2,p2,a3,p3,a4,p4,rfl,rfl,rfl,rfl,rfl,_,_,_,_,_,_,_,_,_,_⟩:=h.five
 clear h
 go_enter Tryz.func220,Tryz.ntmps220
 go_wp2_with fail
 obtain ⟨W,hW,kb,ka,kr,BB⟩:=Zr w 32 (S6 a0 p0 a1 p1 a2 p2 a3 p3 a4 p4 m) 204 #[.int .i64 13,.int .i64 who,.int .i64 a,.int .i64 b] 32 E6
 have Hv:=Z9 ((uh Hv0).below (uh BB))
 rw [hW]
 clear hW
 refine (Zc (uh Hok) (uh Hv)).mono ?_
 rintro e w1 ⟨rfl,hb⟩
 replace Hv:=Z9 ((uh Hv).below hb)
 replace kb:=bl kb hb
 replace ka:=bl ka hb
 replace kr:=bl kr hb
 replace BB:=bt BB hb
 clear hb
 obtain ⟨c0,c1,c2,c3,c4,c5⟩:=(uh kb).c6
 obtain ⟨d0,d1,d2,d3⟩:=(uh ka).c4
 go_wp2_with fail
 clear c0 c1 c2 c3 c4 c5
 clear d0 d1 d2 d3
 refine (RU (uh Hv)).mono ?_
 rw [uh HY]
 rintro e w2 ⟨⟨y0,y1,y2,y3,y4,oq,rfl,ho⟩,hb⟩
 have k9:=ho.smy
 obtain ⟨b0,q0,b1,q1,b2,q2,b3,q3,b4,q4,rfl,rfl,rfl,rfl,rfl,_,_,_,_,_,_,_,_,_,_⟩:=k9.five
 have hW3:w.heap.size+3<=w1.heap.size:=by have:=(uh kr).lt;omega
 have HO:=Z9 (ho.mono hW3)
 clear ho k9 hW3
 replace Hv:=Z9 ((uh Hv).below hb)
 replace kb:=bl kb hb
 replace ka:=bl ka hb
 replace kr:=bl kr hb
 replace BB:=bt BB hb
 clear hb
 obtain ⟨o0,o1,o2,o3,o4,o5⟩:=(uh kr).c6
 obtain ⟨f0,f1,f2,f3,f4,f5⟩:=(uh kr).f6
 go_wp2_with fail
 refine bodyPost_ret (v:= .tuple #[.agg #[.slice b0 Y.rooms.length q0,.slice b1 Y.guilds.length q1,.slice b2 Y.smiths.length q2,.slice b3 Y.desks.length q3,.slice b4 Y.paces.length q4,.int .i64 Y.now],.int .i64 0]) (by simp [results,Tryz.results220,go_sem, *]) rfl ⟨⟨_,_,_,_,_,oq,rfl,?_⟩,?_⟩
 ·refine FullSmy.mono (n₀:=w.heap.size+3) ?_ (by omega)
  iterate 6 (refine FullSmy.set ?_ _ _ _ (by omega))
  exact uh HO
 ·iterate 6 (refine Below.setCell ?_ (by show _<=w.heap.size+1+1;omega) _)
  exact uh BB
theorem JP  (who a b:Int) (hok:ZK m=true) (h:Smy w v0 v1 v2 v3 v4 m) :
  Calls Tryz.prog 220 #[.agg #[v0,v1,v2,v3,v4,.int .i64 m.now],.agg #[.int .i64 14,.int .i64 who,.int .i64 a,.int .i64 b]] w fun e w'=>WY w.heap.size (UJ m who a).1 (UJ m who a).2 e w'/\Below w.heap.size w w':=by
 have Hok:=Z9 hok
 clear hok
 obtain ⟨Y,hY⟩:∃ y,UJ m who a=y:=⟨_,rfl⟩
 rw [hY]
 have HY:=Z9 hY
 clear hY
 have Hv0:=Z9 h
 obtain ⟨a0,p0,a1,p1,a2,p2,a3,p3,a4,p4,rfl,rfl,rfl,rfl,rfl,_,_,_,_,_,_,_,_,_,_⟩:=h.five
 clear h
 go_enter Tryz.func220,Tryz.ntmps220
 go_wp2_with fail
 obtain ⟨W,hW,kb,ka,kr,BB⟩:=Zr w 32 (S6 a0 p0 a1 p1 a2 p2 a3 p3 a4 p4 m) 204 #[.int .i64 14,.int .i64 who,.int .i64 a,.int .i64 b] 32 E6
 have Hv:=Z9 ((uh Hv0).below (uh BB))
 rw [hW]
 clear hW
 refine (Zc (uh Hok) (uh Hv)).mono ?_
 rintro e w1 ⟨rfl,hb⟩
 replace Hv:=Z9 ((uh Hv).below hb)
 replace kb:=bl kb hb
 replace ka:=bl ka hb
 replace kr:=bl kr hb
 replace BB:=bt BB hb
 clear hb
 obtain ⟨c0,c1,c2,c3,c4,c5⟩:=(uh kb).c6
 obtain ⟨d0,d1,d2,d3⟩:=(uh ka).c4
 go_wp2_with fail
 clear c0 c1 c2 c3 c4 c5
 clear d0 d1 d2 d3
 refine (LM who a (uh Hv) (uh Hok)).mono ?_
 rw [uh HY]
 obtain ⟨M,cd⟩:=Y
 rintro e w2 ⟨⟨y0,y1,y2,y3,y4,oq,rfl,ho⟩,hb⟩
 dsimp only at ho ⊢
 have k9:=ho.smy
 obtain ⟨b0,q0,b1,q1,b2,q2,b3,q3,b4,q4,rfl,rfl,rfl,rfl,rfl,_,_,_,_,_,_,_,_,_,_⟩:=k9.five
 have hW3:w.heap.size+3<=w1.heap.size:=by have:=(uh kr).lt;omega
 have HO:=Z9 (ho.mono hW3)
 clear ho k9 hW3
 replace Hv:=Z9 ((uh Hv).below hb)
 replace kb:=bl kb hb
 replace ka:=bl ka hb
 replace kr:=bl kr hb
 replace BB:=bt BB hb
 clear hb
 obtain ⟨o0,o1,o2,o3,o4,o5⟩:=(uh kr).c6
 obtain ⟨f0,f1,f2,f3,f4,f5⟩:=(uh kr).f6
 go_wp2_with fail
 refine bodyPost_ret (v:= .tuple #[.agg #[.slice b0 M.rooms.length q0,.slice b1 M.guilds.length q1,.slice b2 M.smiths.length q2,.slice b3 M.desks.length q3,.slice b4 M.paces.length q4,.int .i64 M.now],.int .i64 cd]) (by simp [results,Tryz.results220,go_sem, *]) rfl ⟨⟨_,_,_,_,_,oq,rfl,?_⟩,?_⟩
 ·refine FullSmy.mono (n₀:=w.heap.size+3) ?_ (by omega)
  iterate 6 (refine FullSmy.set ?_ _ _ _ (by omega))
  exact uh HO
 ·iterate 6 (refine Below.setCell ?_ (by show _<=w.heap.size+1+1;omega) _)
  exact uh BB
theorem Ni  {k:Int} (who a b:Int) (hk:k<1\/14<k) (hok:ZK m=true) (h:Smy w v0 v1 v2 v3 v4 m) :
  Calls Tryz.prog 220 #[.agg #[v0,v1,v2,v3,v4,.int .i64 m.now],.agg #[.int .i64 k,.int .i64 who,.int .i64 a,.int .i64 b]] w fun e w'=>WY w.heap.size ((m,(3:Int))).1 ((m,(3:Int))).2 e w'/\Below w.heap.size w w':=by
 have Hok:=Z9 hok
 clear hok
 have Hk:=Z9 hk
 clear hk
 have Hv0:=Z9 h
 obtain ⟨a0,p0,a1,p1,a2,p2,a3,p3,a4,p4,rfl,rfl,rfl,rfl,rfl,_,_,_,_,_,_,_,_,_,_⟩:=h.five
 clear h
 go_enter Tryz.func220,Tryz.ntmps220
 go_wp2_with fail
 obtain ⟨W,hW,kb,ka,kr,BB⟩:=Zr w 32 (S6 a0 p0 a1 p1 a2 p2 a3 p3 a4 p4 m) 204 #[.int .i64 k,.int .i64 who,.int .i64 a,.int .i64 b] 32 E6
 have Hv:=Z9 ((uh Hv0).below (uh BB))
 rw [hW]
 clear hW
 refine (Zc (uh Hok) (uh Hv)).mono ?_
 rintro e w1 ⟨rfl,hb⟩
 replace Hv:=Z9 ((uh Hv).below hb)
 replace kb:=bl kb hb
 replace ka:=bl ka hb
 replace kr:=bl kr hb
 replace BB:=bt BB hb
 clear hb
 obtain ⟨c0,c1,c2,c3,c4,c5⟩:=(uh kb).c6
 obtain ⟨d0,d1,d2,d3⟩:=(uh ka).c4
 have n1:(k ==1)=false:=by have:=uh Hk;simp;omega
 have m1:decide (k=1)=false:=by have:=uh Hk;simp;omega
 have n2:(k ==2)=false:=by have:=uh Hk;simp;omega
 have m2:decide (k=2)=false:=by have:=uh Hk;simp;omega
 have n3:(k ==3)=false:=by have:=uh Hk;simp;omega
 have m3:decide (k=3)=false:=by have:=uh Hk;simp;omega
 have n4:(k ==4)=false:=by have:=uh Hk;simp;omega
 have m4:decide (k=4)=false:=by have:=uh Hk;simp;omega
 have n5:(k ==5)=false:=by have:=uh Hk;simp;omega
 have m5:decide (k=5)=false:=by have:=uh Hk;simp;omega
 have n6:(k ==6)=false:=by have:=uh Hk;simp;omega
 have m6:decide (k=6)=false:=by have:=uh Hk;simp;omega
 have n7:(k ==7)=false:=by have:=uh Hk;simp;omega
 have m7:decide (k=7)=false:=by have:=uh Hk;simp;omega
 have n8:(k ==8)=false:=by have:=uh Hk;simp;omega
 have m8:decide (k=8)=false:=by have:=uh Hk;simp;omega
 have n9:(k ==9)=false:=by have:=uh Hk;simp;omega
 have m9:decide (k=9)=false:=by have:=uh Hk;simp;omega
 have n10:(k ==10)=false:=by have:=uh Hk;simp;omega
 have m10:decide (k=10)=false:=by have:=uh Hk;simp;omega
 have n11:(k ==11)=false:=by have:=uh Hk;simp;omega
 have m11:decide (k=11)=false:=by have:=uh Hk;simp;omega
 have n12:(k ==12)=false:=by have:=uh Hk;simp;omega
 have m12:decide (k=12)=false:=by have:=uh Hk;simp;omega
 have n13:(k ==13)=false:=by have:=uh Hk;simp;omega
 have m13:decide (k=13)=false:=by have:=uh Hk;simp;omega
 have n14:(k ==14)=false:=by have:=uh Hk;simp;omega
 have m14:decide (k=14)=false:=by have:=uh Hk;simp;omega
 go_wp2_with fail
 clear c0 c1 c2 c3 c4 c5
 clear d0 d1 d2 d3
 refine (ZC (uh Hv) (XF (ZO (uh Hok)))).mono ?_
 rintro e w2 ⟨y0,y1,y2,y3,y4,oq,rfl,ho,hb⟩
 have k9:=ho.smy
 obtain ⟨b0,q0,b1,q1,b2,q2,b3,q3,b4,q4,rfl,rfl,rfl,rfl,rfl,_,_,_,_,_,_,_,_,_,_⟩:=k9.five
 have hW3:w.heap.size+3<=w1.heap.size:=by have:=(uh kr).lt;omega
 have HO:=Z9 (ho.mono hW3)
 clear ho k9 hW3
 replace Hv:=Z9 ((uh Hv).below hb)
 replace kb:=bl kb hb
 replace ka:=bl ka hb
 replace kr:=bl kr hb
 replace BB:=bt BB hb
 clear hb
 obtain ⟨o0,o1,o2,o3,o4,o5⟩:=(uh kr).c6
 obtain ⟨f0,f1,f2,f3,f4,f5⟩:=(uh kr).f6
 go_wp2_with fail
 refine bodyPost_ret (v:= .tuple #[.agg #[.slice b0 m.rooms.length q0,.slice b1 m.guilds.length q1,.slice b2 m.smiths.length q2,.slice b3 m.desks.length q3,.slice b4 m.paces.length q4,.int .i64 m.now],.int .i64 3]) (by simp [results,Tryz.results220,go_sem, *]) rfl ⟨⟨_,_,_,_,_,oq,rfl,?_⟩,?_⟩
 ·refine FullSmy.mono (n₀:=w.heap.size+3) ?_ (by omega)
  iterate 6 (refine FullSmy.set ?_ _ _ _ (by omega))
  exact uh HO
 ·iterate 6 (refine Below.setCell ?_ (by show _<=w.heap.size+1+1;omega) _)
  exact uh BB
theorem P1  (k who a b:Int) (h:Smy w v0 v1 v2 v3 v4 m) :
  Calls Tryz.prog 220 #[.agg #[v0,v1,v2,v3,v4,.int .i64 m.now],.agg #[.int .i64 k,.int .i64 who,.int .i64 a,.int .i64 b]] w fun e w'=>WY w.heap.size (Zx m k who a b).1 (Zx m k who a b).2 e w'/\Below w.heap.size w w':=by
 cases hok:ZK m
 ·have e:Zx m k who a b=(YB,3):=by unfold Zx;rw [hok];rfl
  rw [e];exact JQ k who a b hok h
 by_cases hk:k<1\/14<k
 ·rw [Q7 hok hk];exact Ni who a b hk hok h
 rcases (show k=1\/k=2\/k=3\/k=4\/k=5\/k=6\/k=7\/k=8\/k=9\/k=10\/k=11\/k=12\/k=13\/k=14 by omega) with rfl | rfl | rfl | rfl | rfl | rfl | rfl | rfl | rfl | rfl | rfl | rfl | rfl | rfl
 ·rw [I9 hok];exact G7 who a b hok h
 ·rw [Ja hok];exact G8 who a b hok h
 ·rw [Jb hok];exact G9 who a b hok h
 ·rw [Jc hok];exact Hj who a b hok h
 ·rw [Jd hok];exact HJ who a b hok h
 ·rw [Je hok];exact H7 who a b hok h
 ·rw [Jf hok];exact H8 who a b hok h
 ·rw [Jg hok];exact Ia who a b hok h
 ·rw [Jh hok];exact Ib who a b hok h
 ·rw [Lw hok];exact JL who a b hok h
 ·rw [Lx hok];exact JM who a b hok h
 ·rw [Ly hok];exact JN who a b hok h
 ·rw [Lz hok];exact JO who a b hok h
 ·rw [LA hok];exact JP who a b hok h
end Go.Proofs.YtnponpamjddpjaaGreat
