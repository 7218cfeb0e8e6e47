/- Part 34 of what the proof rests on. No condition but those that a theorem names. -/
import Derived.Test.YtjhijildaceadaaGreatDoorXg24
import Derived.Test.YtjhijildaceadaaGreatDoorXg28
import Derived.Test.YtjhijildaceadaaGreatDoorXg29
import Derived.Test.YtjhijildaceadaaGreatDoorXg30
import Derived.Test.YtjhijildaceadaaGreatDoorXg31
import Derived.Test.YtjhijildaceadaaGreatDoorXg33
set_option maxHeartbeats 8000000
set_option maxRecDepth 100000
namespace Go.Proofs.YtjhijildaceadaaGreatDoor
open Go.ChangeShapes Go.WideShapes Go.ChangeAt Go.RowKit Go.Sort
set_option linter.unusedVariables false
set_option linter.unusedSimpArgs false
theorem KG {w:World} {v0 v1 v2 v3 v4:Value} {m:Z4} (who:Int) (gu:Int) (h:Smy w v0 v1 v2 v3 v4 m) (hok:ZP m=true) :
  Calls Tryz.prog 322 #[.agg #[v0,v1,v2,v3,v4,.int .i64 m.now],.int .i64 who,.int .i64 gu] w fun e w'=>TX w.heap.size (SJ m who gu).1 (SJ m who gu).2 e w'/\Below w.heap.size w w':=by
 obtain ⟨X,hX⟩:∃ x,SJ m who gu=x:=⟨_,rfl⟩
 rw [hX]
 have HX:=Z9 hX
 clear hX
 have Hv0:=Z9 h
 obtain ⟨a0,p0,a1,p1,a2,p2,a3,p3,a4,p4,rfl,rfl,rfl,rfl,rfl,_,_,_,_,_,_,_,_,_,_⟩:=h.five
 clear h
 have Hok:=Z9 hok
 clear hok
 go_enter Tryz.func322,Tryz.ntmps322
 go_wp2_with fail
 have kb:Hid (Blk ((w.alloc (.cells (S6 a0 p0 a1 p1 a2 p2 a3 p3 a4 p4 m) 32)).alloc (.cells E6 32)) w.heap.size 32 (S6 a0 p0 a1 p1 a2 p2 a3 p3 a4 p4 m)):=Z9 ((Blk.new w _ _).alloc _)
 have kr:Hid (Blk ((w.alloc (.cells (S6 a0 p0 a1 p1 a2 p2 a3 p3 a4 p4 m) 32)).alloc (.cells E6 32)) (w.heap.size+1) 32 E6):=Z9 (by
  have k:=Blk.new (w.alloc (.cells (S6 a0 p0 a1 p1 a2 p2 a3 p3 a4 p4 m) 32)) 32 E6
  rw [World.size_alloc] at k
  exact k)
 have BB:Hid (Below w.heap.size w ((w.alloc (.cells (S6 a0 p0 a1 p1 a2 p2 a3 p3 a4 p4 m) 32)).alloc (.cells E6 32))):=Z9 (((Below.refl _ _).alloc (Nat.le_refl _) _).alloc (by simp) _)
 have Hv:=Z9 ((uh Hv0).below (uh BB))
 clear Hv0
 generalize (w.alloc (.cells (S6 a0 p0 a1 p1 a2 p2 a3 p3 a4 p4 m) 32)).alloc (.cells E6 32)=w1 at *
 have hlo:=ZU (uh Hok)
 have HLo:=Z9 hlo
 have HFew:=Z9 (XO hlo)
 clear hlo
 have hWs:w.heap.size+2<=w1.heap.size:=by have:=(uh kr).lt;omega
 refine (ZB (uh Hv) (uh HFew)).mono ?_
 rintro e w2 ⟨y0,y1,y2,y3,y4,oq,rfl,ho,hb⟩
 have k9:=ho.smy
 obtain ⟨b0,q0,b1,q1,b2,q2,b3,q3,b4,q4,rfl,rfl,rfl,rfl,rfl,_,_,_,_,_,_,_,_,_,_⟩:=k9.five
 clear k9
 replace kb:=bl kb hb
 replace kr:=bl kr hb
 replace Hv:=Z9 ((uh Hv).below hb)
 replace BB:=bt BB hb
 have HO:=Z9 (ho.mono hWs)
 have LO:Hid (∀ k,YG (.slice b0 m.rooms.length q0) (.slice b1 m.guilds.length q1) (.slice b2 m.smiths.length q2) (.slice b3 m.desks.length q3) (.slice b4 m.paces.length q4) oq k->w.heap.size+2<=k/\k<w2.heap.size):=Z9 (fun k e=>(uh HO).own e)
 have hsz9:=hb.size
 clear ho hb
 go_upto_region 2 with fail
 obtain ⟨W2,hW2,hba,ko⟩:=ZA w2 32 (S6 b0 q0 b1 q1 b2 q2 b3 q3 b4 q4 m)
 replace kb:=bl kb hba
 replace kr:=bl kr hba
 replace Hv:=Z9 ((uh Hv).below hba)
 replace HO:=Z9 ((uh HO).below hba)
 replace BB:=bt BB hba
 have hob:w.heap.size+2<=w2.heap.size:=Nat.le_trans hWs hsz9
 clear hba hsz9 hWs
 rw [hW2]
 clear hW2
 generalize w2.heap.size=ob at *
 obtain ⟨qw,hqw⟩:∃ q,Xl m who=q:=⟨_,rfl⟩
 have Hqw:=Z9 hqw
 clear hqw
 obtain ⟨c0,c1,c2,c3,c4,c5⟩:=(uh kb).c6
 go_wp2_with fail
 clear c0 c1 c2 c3 c4 c5
 refine (Vs (uh Hqw) (uh Hv)).mono ?_
 rintro e w3 ⟨rfl,hb⟩
 replace kb:=bl kb hb
 replace kr:=bl kr hb
 replace Hv:=Z9 ((uh Hv).below hb)
 replace HO:=Z9 ((uh HO).below hb)
 replace ko:=bl ko hb
 replace BB:=bt BB hb
 clear hb
 cases qw
 ·
  obtain ⟨x0,x1,x2,x3,x4,x5⟩:=(uh ko).c6
  obtain ⟨o0,o1,o2,o3,o4,o5⟩:=(uh kr).c6
  obtain ⟨f0,f1,f2,f3,f4,f5⟩:=(uh kr).f6
  go_wp2_with fail
  have hX0:X=(m,1):=by rw [<-uh HX];unfold SJ;rw [uh Hqw];rfl
  refine bodyPost_ret (v:= .tuple #[.agg (S6 b0 q0 b1 q1 b2 q2 b3 q3 b4 q4 m),.int .i64 1]) (by simp [results,Tryz.results322,go_sem, *]) rfl ⟨?_,?_⟩
  ·rw [hX0];refine ⟨_,_,_,_,_,oq,rfl,?_⟩
   iterate 6 (refine FullSmy.set_off ?_ (fun k e=>by have:=(uh LO k e).1;omega) _ _)
   exact (uh HO).mono (by omega)
  ·iterate 6 (refine Below.setCell ?_ (by show _<=w.heap.size+1;omega) _)
   exact uh BB
 obtain ⟨k,rfl,hk,hs0⟩:=Yz (uh Hqw)
 have hk1:(k:Int)<(m.smiths.length:Int):=by omega
 obtain ⟨qg,hqg⟩:∃ q,inB gu (-1) ((m.guilds.length:Int)-1)=q:=⟨_,rfl⟩
 have Hqg:=Z9 hqg
 clear hqg
 have hgl:=(uh HFew).guilds
 have c1:=(uh kb).cell (i:=1) (v:= .slice a1 m.guilds.length p1) rfl
 go_wp2_with fail
 refine (Z1 _ _ _ _).mono ?_
 rw [uh Hqg]
 rintro e w9 ⟨rfl,hw9⟩
 subst w9
 clear c1
 cases qg
 ·
  obtain ⟨x0,x1,x2,x3,x4,x5⟩:=(uh ko).c6
  obtain ⟨o0,o1,o2,o3,o4,o5⟩:=(uh kr).c6
  obtain ⟨f0,f1,f2,f3,f4,f5⟩:=(uh kr).f6
  go_wp2_with fail
  have hX0:X=(m,3):=by rw [<-uh HX];unfold SJ;rw [uh Hqw];simp only [if_true];rw [uh Hqg];rfl
  refine bodyPost_ret (v:= .tuple #[.agg (S6 b0 q0 b1 q1 b2 q2 b3 q3 b4 q4 m),.int .i64 3]) (by simp [results,Tryz.results322,go_sem, *]) rfl ⟨?_,?_⟩
  ·rw [hX0];refine ⟨_,_,_,_,_,oq,rfl,?_⟩
   iterate 6 (refine FullSmy.set_off ?_ (fun k e=>by have:=(uh LO k e).1;omega) _ _)
   exact (uh HO).mono (by omega)
  ·iterate 6 (refine Below.setCell ?_ (by show _<=w.heap.size+1;omega) _)
   exact uh BB
 obtain ⟨g2,hga,_,_,hc2,hz2⟩:=RecAt.view ZZ (by omega) (uh HO).smiths rfl (by omega)
 cases hga
 have hg2o:=(uh LO g2 (.inr (.inr (.inr (.inl rfl)))))
 have x2:=(uh ko).cell (i:=2) (v:= .slice (some ⟨g2,0,none⟩) m.smiths.length q2) rfl
 have s0:=hc2 k hk 4 _ rfl
 have f0:=hz2 (k*11+4)
 have hp0:=(uh HO).putS rfl (j:=k) (i:=4) hk (by omega) (.int .i64 gu) (Q9 (Z8 m.smiths k) gu) rfl
 have HP:=Z9 hp0
 clear hc2 hz2 HO hp0
 go_upto_region 7 with fail
 clear s0 f0 x2
 replace ko:Hid (Blk ((w3).setCell ⟨g2,k*11+4,none⟩ (.int .i64 gu)) ob 32 (S6 b0 q0 b1 q1 (some ⟨g2,0,none⟩) q2 b3 q3 b4 q4 m)):=Z9 ((uh ko).other (a:=⟨g2,k*11+4,none⟩) (by show ob ≠ g2;omega) (.int .i64 gu))
 replace kr:Hid (Blk ((w3).setCell ⟨g2,k*11+4,none⟩ (.int .i64 gu)) (w.heap.size+1) 32 E6):=Z9 ((uh kr).other (a:=⟨g2,k*11+4,none⟩) (by show w.heap.size+1 ≠ g2;omega) (.int .i64 gu))
 replace BB:Hid (Below w.heap.size w ((w3).setCell ⟨g2,k*11+4,none⟩ (.int .i64 gu))):=Z9 ((uh BB).setCell (p:=⟨g2,k*11+4,none⟩) (by show w.heap.size<=g2;omega) (.int .i64 gu))
 clear kb Hv
 generalize (w3).setCell ⟨g2,k*11+4,none⟩ (.int .i64 gu)=W3 at *
 have hfw:=uh HFew
 go_wp2_with fail
 have hofR:∀ k,YG (.slice b0 m.rooms.length q0) (.slice b1 m.guilds.length q1) (.slice (some ⟨g2,0,none⟩) m.smiths.length q2) (.slice b3 m.desks.length q3) (.slice b4 m.paces.length q4) oq k->k ≠ ob:=fun k e=>by have:=(uh LO k e).2;omega
 refine (Zf (m:=setS m k (Q9 (Z8 m.smiths k) gu)) (uh ko) (uh HP) (fun e=>hofR _ (.inr (.inr (.inr (.inl e)))) rfl) (fun e=>hofR _ (.inr (.inr (.inr (.inr (.inl e))))) rfl) (by show (m.smiths.set k _).length<=800;have:=hfw.smiths;simp;omega) hfw.desks).mono ?_
 rintro e w4 ⟨rfl,hf9,ht9⟩
 replace kr:=Z9 ((uh kr).two ht9 (fun e=>by have:=(uh LO _ (.inr (.inr (.inr (.inl e))))).1;omega) (fun e=>by have:=(uh LO _ (.inr (.inr (.inr (.inr (.inl e)))))).1;omega))
 replace BB:=Z9 ((uh BB).trans (ht9.below (uh BB).size (fun k e=>by have:=(uh LO k (.inr (.inr (.inr (.inl e))))).1;omega) (fun k e=>by have:=(uh LO k (.inr (.inr (.inr (.inr (.inl e)))))).1;omega)))
 have HF9:=Z9 hf9
 clear hf9 ht9 hofR
 obtain ⟨o0,o1,o2,o3,o4,o5⟩:=(uh kr).c6
 obtain ⟨f0,f1,f2,f3,f4,f5⟩:=(uh kr).f6
 go_wp2_with fail
 have hX0:X=(ZV (setS m k (Q9 (Z8 m.smiths k) gu)),0):=by rw [<-uh HX];unfold SJ;rw [uh Hqw];simp only [if_true,Int.toNat_natCast];rw [uh Hqg];rfl
 have hnow:(ZV (setS m k (Q9 (Z8 m.smiths k) gu))).now=m.now:=(ZQ _ _).2.2.2.1
 refine bodyPost_ret (v:= .tuple #[.agg (S6 b0 q0 b1 q1 (some ⟨g2,0,none⟩) q2 b3 q3 b4 q4 m),.int .i64 0]) (by simp [results,Tryz.results322,go_sem,setS,U4,YJ,pushS, *]) rfl ⟨?_,?_⟩
 ·rw [hX0];refine ⟨_,_,_,_,_,oq,by rw [hnow],?_⟩
  iterate 6 (refine FullSmy.set_off ?_ (fun k e=>by have:=(uh LO k e).1;omega) _ _)
  exact (uh HF9).mono (by omega)
 ·iterate 6 (refine Below.setCell ?_ (by show _<=w.heap.size+1;omega) _)
  exact uh BB
set_option maxRecDepth 100000
structure Hp (w W:World) (a0 a1 a2 a3 a4:Option Addr) (p0 p1 p2 p3 p4:Nat) (m:Z4) (k who a b:Int):Prop where
 v:Smy W (.slice a0 m.rooms.length p0) (.slice a1 m.guilds.length p1) (.slice a2 m.smiths.length p2) (.slice a3 m.desks.length p3) (.slice a4 m.paces.length p4) m
 s:Blk W w.heap.size 32 (S6 a0 p0 a1 p1 a2 p2 a3 p3 a4 p4 m)
 t:Blk W (w.heap.size+1) 241 #[.int .i64 k,.int .i64 who,.int .i64 a,.int .i64 b]
 r:Blk W (w.heap.size+1+1) 32 E6
 y:Below w.heap.size w W
theorem Hp.next {w W W':World} {a0 a1 a2 a3 a4:Option Addr} {p0 p1 p2 p3 p4:Nat} {m:Z4} {k who a b:Int} (h:Hid (Hp w W a0 a1 a2 a3 a4 p0 p1 p2 p3 p4 m k who a b)) (hb:Below W.heap.size W W'):Hid (Hp w W' a0 a1 a2 a3 a4 p0 p1 p2 p3 p4 m k who a b):=
 Z9 ⟨(uh h).v.below hb,(uh h).s.below hb (uh h).s.lt,(uh h).t.below hb (uh h).t.lt,(uh h).r.below hb (uh h).r.lt,(uh h).y.trans (hb.mono (uh h).y.size)⟩
theorem Hp.new {w:World} {a0 a1 a2 a3 a4:Option Addr} {p0 p1 p2 p3 p4:Nat} {m:Z4} (k who a b:Int) (h:Smy w (.slice a0 m.rooms.length p0) (.slice a1 m.guilds.length p1) (.slice a2 m.smiths.length p2) (.slice a3 m.desks.length p3) (.slice a4 m.paces.length p4) m):∃ W,((w.alloc (.cells (S6 a0 p0 a1 p1 a2 p2 a3 p3 a4 p4 m) 32)).alloc (.cells #[.int .i64 k,.int .i64 who,.int .i64 a,.int .i64 b] 241)).alloc (.cells E6 32)=W/\Hid (Hp w W a0 a1 a2 a3 a4 p0 p1 p2 p3 p4 m k who a b):=by
 have BB:=(((Below.refl w.heap.size w).alloc (Nat.le_refl _) (.cells (S6 a0 p0 a1 p1 a2 p2 a3 p3 a4 p4 m) 32)).alloc (by simp) (.cells #[.int .i64 k,.int .i64 who,.int .i64 a,.int .i64 b] 241)).alloc (by simp;omega) (.cells E6 32)
 have k1:=(Blk.new (w.alloc (.cells (S6 a0 p0 a1 p1 a2 p2 a3 p3 a4 p4 m) 32)) 241 #[.int .i64 k,.int .i64 who,.int .i64 a,.int .i64 b]).alloc (.cells E6 32)
 have k2:=Blk.new ((w.alloc (.cells (S6 a0 p0 a1 p1 a2 p2 a3 p3 a4 p4 m) 32)).alloc (.cells #[.int .i64 k,.int .i64 who,.int .i64 a,.int .i64 b] 241)) 32 E6
 rw [World.size_alloc] at k1
 rw [World.size_alloc,World.size_alloc] at k2
 exact ⟨_,rfl,Z9 ⟨h.below BB,((Blk.new w _ _).alloc _).alloc _,k1,k2,BB⟩⟩
theorem Dq {w:World} {v0 v1 v2 v3 v4:Value} {m:Z4} (h:Smy w v0 v1 v2 v3 v4 m):Calls Tryz.prog 69 #[.agg #[v0,v1,v2,v3,v4,.int .i64 m.now]] w fun e w'=>TX w.heap.size YM 3 e w'/\Below w.heap.size w w':=by
 refine (YC h).mono ?_
 rintro e w2 ⟨rfl,hb⟩
 exact ⟨⟨_,_,_,_,_,[],rfl,Zd _ _⟩,hb⟩
theorem D7 {w:World} {v0 v1 v2 v3 v4:Value} {m:Z4} (h:Smy w v0 v1 v2 v3 v4 m) (hok:ZP m=true):Calls Tryz.prog 70 #[.agg #[v0,v1,v2,v3,v4,.int .i64 m.now]] w fun e w'=>Dm w.heap.size m e w'/\Below w.heap.size w w':=by
 refine (ZB h (XO (ZU hok))).mono ?_
 rintro e w2 ⟨y0,y1,y2,y3,y4,oq,rfl,ho,hb⟩
 exact ⟨⟨_,_,_,_,_,oq,rfl,ho⟩,hb⟩
theorem gm {f:Nat} {args:Array Value} {w:World} {n:Nat} {X:Z4 × Int} {M:Z4} {cd:Int} (h:Calls Tryz.prog f args w fun e w'=>TX n X.1 X.2 e w'/\Below n w w') (he:X=(M,cd)):Calls Tryz.prog f args w fun e w'=>TX n M cd e w'/\Below n w w':=by subst he;exact h
theorem gl {f:Nat} {args:Array Value} {w:World} {n:Nat} {X M:Z4} (h:Calls Tryz.prog f args w fun e w'=>Dm n X e w'/\Below n w w') (he:X=M):Calls Tryz.prog f args w fun e w'=>Dm n M e w'/\Below n w w':=by subst he;exact h
theorem ID {m:Z4} (hok:ZP m=false) (k who a b:Int):ZC m k who a b=(YM,3):=by unfold ZC;rw [hok];rfl
theorem Px {w:World} {v0 v1 v2 v3 v4:Value} {m:Z4} (k who a b:Int) (h:Smy w v0 v1 v2 v3 v4 m) :
  Calls Tryz.prog 270 #[.agg #[v0,v1,v2,v3,v4,.int .i64 m.now],.agg #[.int .i64 k,.int .i64 who,.int .i64 a,.int .i64 b]] w fun e w'=>TX w.heap.size (ZC m k who a b).1 (ZC m k who a b).2 e w'/\Below w.heap.size w w':=by
 obtain ⟨Y,hY⟩:∃ y,ZC m k who a b=y:=⟨_,rfl⟩
 rw [hY]
 obtain ⟨M,cd⟩:=Y
 have HY:=Z9 hY
 have Hv:=Z9 h
 obtain ⟨q,hq⟩:∃ q,ZP m=q:=⟨_,rfl⟩
 have Hq:=Z9 hq
 obtain ⟨a0,p0,a1,p1,a2,p2,a3,p3,a4,p4,rfl,rfl,rfl,rfl,rfl,_,_,_,_,_,_,_,_,_,_⟩:=h.five
 clear h hY hq
 go_enter Tryz.func270,Tryz.ntmps270
 go_wp2_with fail
 obtain ⟨W,hW,H⟩:=Hp.new k who a b (uh Hv)
 rw [hW]
 clear hW Hv
 refine (Yb (uh Hq) (uh H).v).mono ?_
 rintro e w1 ⟨rfl,hb⟩
 replace H:=Hp.next H hb
 clear hb
 have hn:q=false\/(q=true/\(k<1\/14<k))\/(q=true/\(k=1\/k=2\/k=3\/k=4\/k=5\/k=6\/k=7\/k=8\/k=9\/k=10\/k=11\/k=12\/k=13\/k=14)):=by cases q<;>simp;omega
 rcases hn with rfl | ⟨rfl,hk⟩ | ⟨rfl,rfl | rfl | rfl | rfl | rfl | rfl | rfl | rfl | rfl | rfl | rfl | rfl | rfl | rfl⟩
 rotate_left
 have Hk:=Z9 hk
 have hne:∀ j:Int,1<=j->j<=14->(k ==j)=false/\decide (k=j)=false:=fun j _ _=>⟨beq_eq_false_iff_ne.mpr (by have:=uh Hk;omega),decide_eq_false (by have:=uh Hk;omega)⟩
 obtain ⟨n1,m1⟩:=hne 1 (by decide) (by decide)
 obtain ⟨n2,m2⟩:=hne 2 (by decide) (by decide)
 obtain ⟨n3,m3⟩:=hne 3 (by decide) (by decide)
 obtain ⟨n4,m4⟩:=hne 4 (by decide) (by decide)
 obtain ⟨n5,m5⟩:=hne 5 (by decide) (by decide)
 obtain ⟨n6,m6⟩:=hne 6 (by decide) (by decide)
 obtain ⟨n7,m7⟩:=hne 7 (by decide) (by decide)
 obtain ⟨n8,m8⟩:=hne 8 (by decide) (by decide)
 obtain ⟨n9,m9⟩:=hne 9 (by decide) (by decide)
 obtain ⟨n10,m10⟩:=hne 10 (by decide) (by decide)
 obtain ⟨n11,m11⟩:=hne 11 (by decide) (by decide)
 obtain ⟨n12,m12⟩:=hne 12 (by decide) (by decide)
 obtain ⟨n13,m13⟩:=hne 13 (by decide) (by decide)
 obtain ⟨n14,m14⟩:=hne 14 (by decide) (by decide)
 obtain ⟨hM,hC⟩:=Prod.mk.inj ((Qt (uh Hq) (uh Hk) who a b).symm.trans (uh HY))
 have HM:=Z9 hM
 have HC:=Z9 hC.symm
 clear hne hM hC hk
 rotate_left 13
 obtain ⟨hM,hC⟩:=Prod.mk.inj ((Kn (uh Hq) who a b).symm.trans (uh HY))
 have HM:=Z9 hM
 have HC:=Z9 hC.symm
 clear hM hC
 all_goals
  obtain ⟨c0,c1,c2,c3,c4,c5⟩:=(uh H).s.c6
  have d0:=(uh H).t.cell (i:=0) rfl
  have d1:=(uh H).t.cell (i:=1) rfl
  have d2:=(uh H).t.cell (i:=2) rfl
  have d3:=(uh H).t.cell (i:=3) rfl
  go_wp2_with fail
  clear c0 c1 c2 c3 c4 c5 d0 d1 d2 d3
  first
  | refine (gl (D7 (uh H).v (uh Hq)) (uh HM)).mono ?_
  | refine (gl (Rp (uh H).v) (uh HM)).mono ?_
  | refine (gm (Dq (uh H).v) ((ID (uh Hq) k who a b).symm.trans (uh HY))).mono ?_
  | refine (gm (MQ a b (-1) (uh H).v) ((GW (uh Hq) who a b).symm.trans (uh HY))).mono ?_
  | refine (gm (Sd who (uh H).v) ((GX (uh Hq) who a b).symm.trans (uh HY))).mono ?_
  | refine (gm (MR who (uh H).v) ((GY (uh Hq) who a b).symm.trans (uh HY))).mono ?_
  | refine (gm (SM who (uh H).v) ((GZ (uh Hq) who a b).symm.trans (uh HY))).mono ?_
  | refine (gm (PE who a (uh H).v) ((G0 (uh Hq) who a b).symm.trans (uh HY))).mono ?_
  | refine (gm (Qa who a (uh H).v) ((G5 (uh Hq) who a b).symm.trans (uh HY))).mono ?_
  | refine (gm (Qd who a b (uh H).v) ((G6 (uh Hq) who a b).symm.trans (uh HY))).mono ?_
  | refine (gm (Pw a (uh H).v) ((G7 (uh Hq) who a b).symm.trans (uh HY))).mono ?_
  | refine (gm (PC a (uh H).v) ((G8 (uh Hq) who a b).symm.trans (uh HY))).mono ?_
  | refine (gm (PG a (uh H).v) ((Kk (uh Hq) who a b).symm.trans (uh HY))).mono ?_
  | refine (gm (Qc a b (uh H).v) ((Kl (uh Hq) who a b).symm.trans (uh HY))).mono ?_
  | refine (gm (X:=(Io m,0)) (IL (uh H).v (uh Hq)) ((Km (uh Hq) who a b).symm.trans (uh HY))).mono ?_
  | refine (gm (KG who a (uh H).v (uh Hq)) ((Kp (uh Hq) who a b).symm.trans (uh HY))).mono ?_
  rintro e w2 ⟨⟨y0,y1,y2,y3,y4,oq,rfl,ho⟩,hb⟩
  have k9:=ho.smy
  obtain ⟨b0,q0,b1,q1,b2,q2,b3,q3,b4,q4,rfl,rfl,rfl,rfl,rfl,_,_,_,_,_,_,_,_,_,_⟩:=k9.five
  have HO:=Z9 (ho.mono (show w.heap.size+3<=w1.heap.size by have:=(uh H).r.lt;omega))
  clear ho k9
  replace H:=Hp.next H hb
  clear hb
  have o0:=(uh H).r.cell (i:=0) rfl
  have f0:=(uh H).r.free 0
  have o1:=(uh H).r.cell (i:=1) rfl
  have f1:=(uh H).r.free 1
  have o2:=(uh H).r.cell (i:=2) rfl
  have f2:=(uh H).r.free 2
  have o3:=(uh H).r.cell (i:=3) rfl
  have f3:=(uh H).r.free 3
  have o4:=(uh H).r.cell (i:=4) rfl
  have f4:=(uh H).r.free 4
  have o5:=(uh H).r.cell (i:=5) rfl
  have f5:=(uh H).r.free 5
  go_wp2_with fail
  (try have hC:=uh HC)
  refine bodyPost_ret (v:= .tuple #[.agg (S6 b0 q0 b1 q1 b2 q2 b3 q3 b4 q4 M),.int .i64 cd]) (by simp [results,Tryz.results270,go_sem, *]) rfl ⟨⟨_,_,_,_,_,oq,rfl,?_⟩,?_⟩
  ·refine FullSmy.mono (n₀:=w.heap.size+3) ?_ (by omega)
   iterate 6 (refine FullSmy.set ?_ _ _ _ (by omega))
   exact uh HO
  ·iterate 6 (refine Below.setCell ?_ (by show _<=w.heap.size+1+1;omega) _)
   exact (uh H).y
open Draw (St Off Row Cur)
set_option maxRecDepth 100000
structure Dbox (a:Option Addr) (len cap bc n₁:Nat) (w0 w:World) (M:Z4) (u0 u1 u2 u3 u4:Value) (rq:List (Z2 × Value)):Prop where
 st:St a len cap bc w
 off:Off bc w0 w
 ok:ZP M=true
 full:FullSmy n₁ w u0 u1 u2 u3 u4 M rq
 lo:bc<n₁
 hi:n₁<=w0.heap.size
 kb:Blk w w0.heap.size 32 #[u0,u1,u2,u3,u4,.int .i64 M.now]
 kr:Blk w (w0.heap.size+1) 32 E6
 own:∀ k,YG u0 u1 u2 u3 u4 rq k->k ≠ w0.heap.size/\k ≠ w0.heap.size+1
 bl:bc<w0.heap.size
section
variable {a : Option Addr} {len cap bc n₁ : Nat} {w0 w w' : World} {M : Z4} {u0 u1 u2 u3 u4 : Value} {rq : List (Z2 × Value)}
theorem Dbox.step (h:Dbox a len cap bc n₁ w0 w M u0 u1 u2 u3 u4 rq) (hs:St a len cap bc w') (ho:Off bc w w'):Dbox a len cap bc n₁ w0 w' M u0 u1 u2 u3 u4 rq:=
 have hb:=h.bl
 ⟨hs,h.off.trans ho,h.ok,h.full.away ho h.lo,h.lo,h.hi,h.kb.away ho (by omega),h.kr.away ho (by omega),h.own,h.bl⟩
theorem Dbox.below (h:Dbox a len cap bc n₁ w0 w M u0 u1 u2 u3 u4 rq) (hb:Below w.heap.size w w'):Dbox a len cap bc n₁ w0 w' M u0 u1 u2 u3 u4 rq:=
 h.step (Yc h.st (hb.mono (Wz h.st))) (WS hb)
theorem Dbox.put (h:Dbox a len cap bc n₁ w0 w M u0 u1 u2 u3 u4 rq) {n:Nat} {z0 z1 z2 z3 z4:Value} {M1:Z4} {zq:List (Z2 × Value)} (hf:FullSmy n w z0 z1 z2 z3 z4 M1 zq) (hn:w0.heap.size+2<=n) (hok:ZP M1=true) :
  Dbox a len cap bc n₁ w0 ((((((w.setCell ⟨w0.heap.size,0,none⟩ z0).setCell ⟨w0.heap.size,1,none⟩ z1).setCell ⟨w0.heap.size,2,none⟩ z2).setCell ⟨w0.heap.size,3,none⟩ z3).setCell ⟨w0.heap.size,4,none⟩ z4).setCell ⟨w0.heap.size,5,none⟩ (.int .i64 M1.now)) M1 z0 z1 z2 z3 z4 zq:=by
 have hb:=h.bl
 have hown:∀ k,YG z0 z1 z2 z3 z4 zq k->k ≠ w0.heap.size/\k ≠ w0.heap.size+1:=fun k e=>by have:=(hf.own e).1;omega
 have hh:=h.hi
 refine ⟨?_,?_,hok,?_,h.lo,h.hi,?_,?_,hown,h.bl⟩
 ·iterate 6 (refine St.newer ?_ hb _ _)
  exact h.st
 ·iterate 6 (refine Off.newer ?_ (Nat.le_refl _) _ _)
  exact h.off
 ·iterate 6 (refine FullSmy.set_off ?_ (fun k e=>(hown k e).1) _ _)
  exact hf.mono (by omega)
 ·exact (((((h.kb.set 0 z0).set 1 z1).set 2 z2).set 3 z3).set 4 z4).set 5 _
 ·iterate 6 (refine Blk.other ?_ (by show w0.heap.size+1 ≠ w0.heap.size;omega) _)
  exact h.kr
end
theorem FC (a:Option Addr) (len cap bc:Nat) {w:World} {n₁:Nat} {v0 v1 v2 v3 v4:Value} {m:Z4} {qs:List (Z2 × Value)} (hs:St a len cap bc w) (hf:FullSmy n₁ w v0 v1 v2 v3 v4 m qs) (hn:bc<n₁) (hn2:n₁<=w.heap.size) (hok:ZP m=true) (most:Int) (h0:0<most) (h1:most<=1000) :
  Calls Tryz.prog 208 #[.pointer (some ⟨bc,0,none⟩),.agg #[v0,v1,v2,v3,v4,.int .i64 m.now],.int .i64 most] w fun e w'=> ∃ M u0 u1 u2 u3 u4 rq,e= .returned (.agg #[u0,u1,u2,u3,u4,.int .i64 M.now])/\ZP M=true/\FullSmy n₁ w' u0 u1 u2 u3 u4 M rq/\St a len cap bc w'/\Off bc w w':=by
 have Hs:=Z9 hs
 have HF:=Z9 hf
 have hbc:=Wz hs
 have h:=hf.smy
 obtain ⟨a0,p0,a1,p1,a2,p2,a3,p3,a4,p4,rfl,rfl,rfl,rfl,rfl,_,_,_,_,_,_,_,_,_,_⟩:=h.five
 clear h hs hf
 have Hok:=Z9 hok
 clear hok
 have D0:Hid (Dbox a len cap bc n₁ w ((w.alloc (.cells (S6 a0 p0 a1 p1 a2 p2 a3 p3 a4 p4 m) 32)).alloc (.cells E6 32)) m (.slice a0 m.rooms.length p0) (.slice a1 m.guilds.length p1) (.slice a2 m.smiths.length p2) (.slice a3 m.desks.length p3) (.slice a4 m.paces.length p4) qs):=Z9 ⟨((uh Hs).alloc _).alloc _,((Off.refl _ _).alloc _).alloc _,uh Hok,(((uh HF).below ((Below.refl _ _).alloc (Nat.le_refl _) _)).below ((Below.refl _ _).alloc (Nat.le_refl _) _)),hn,hn2,(Blk.new w _ _).alloc _,by
  have k:=Blk.new (w.alloc (.cells (S6 a0 p0 a1 p1 a2 p2 a3 p3 a4 p4 m) 32)) 32 E6
  rw [World.size_alloc] at k
  exact k,fun k e=>by have:=((uh HF).own e).2;omega,hbc⟩
 clear Hs HF Hok
 go_enter Tryz.func208,Tryz.ntmps208
 go_wp2_with fail
 generalize (w.alloc (.cells (S6 a0 p0 a1 p1 a2 p2 a3 p3 a4 p4 m) 32)).alloc (.cells E6 32)=W at *
 refine (Draw.below_any a len cap bc most h0 (by omega) _ (uh D0).st).mono ?_
 rintro e w1 ⟨y,rfl,y0,y1,s9,p9⟩
 replace D0:=Z9 ((uh D0).step s9 p9)
 clear s9 p9
 go_wp2_with fail
 go_loopw [7] (fun i wr=> ∃ (k:Nat) (M:Z4) (u0 u1 u2 u3 u4:Value) (rq:List (Z2 × Value)),k<=1000/\i= .int .i64 k/\Dbox a len cap bc n₁ w wr M (u0) (u1) (u2) (u3) (u4) rq) (fun i _=>(intOf i).toNat)
 case atStart=>exact ⟨y.toNat,m,_,_,_,_,_,qs,by omega,by rw [show ((y.toNat:Nat):Int)=y by omega],uh D0⟩
 case round=>
  obtain ⟨k,M,u0,u1,u2,u3,u4,rq,hk1,rfl,hD⟩:=hrel
  have h:=hD.full.smy
  obtain ⟨b0,q0,b1,q1,b2,q2,b3,q3,b4,q4,rfl,rfl,rfl,rfl,rfl,_,_,_,_,_,_,_,_,_,_⟩:=h.five
  have HD:=Z9 hD
  clear h hD D0
  by_cases hk0:0<k
  ·
   have hlo:=ZU (uh HD).ok
   have g2:=Y3 hlo
   have g3':=WT hlo
   have g3:1<=M.desks.length:=by obtain ⟨j,hj,_⟩:=hlo.openD;omega
   have g4:1<=M.paces.length:=Rh hlo
   have g4':M.paces.length<=3:=by
    rw [WY hlo]
    have hd:=hlo.head
    unfold YW at hd
    simp only [Bool.and_eq_true,decide_eq_true_eq] at hd
    exact (Zi hd.1).2.1
   have g1:M.guilds.length<=6:=by
    have hd:=hlo.head
    unfold YW at hd
    simp only [Bool.and_eq_true,decide_eq_true_eq] at hd
    exact (Wr hd.2.1).2
   have G1:=Z9 g1
   have G2:=Z9 g2
   have G3:=Z9 g3
   have G3':=Z9 g3'
   have G4:=Z9 g4
   have G4':=Z9 g4'
   clear hlo g1 g2 g3 g3' g4 g4'
   obtain ⟨c0,c1,c2,c3,c4,c5⟩:=(uh HD).kb.c6
   go_wp2_with fail
   go_region_with (first
    | (go_at_call 271;refine (J8 a len cap bc _ _ _ _ _ _ _ _ _ _ _ _ _ _ _ _ (uh G1) (uh G2) (uh G3) (uh G3') (uh G4) (uh G4') _ ?_).mono ?_;exact Uv (uh HD).st;rintro e w5 ⟨kk,who,aa,bb,rfl,s9,p9⟩;have HD5:=Z9 ((uh HD).step s9 (UJ p9));have y0:=(uh HD5).kb.cell (i:=0) (v:= .slice b0 M.rooms.length q0) rfl;have y1:=(uh HD5).kb.cell (i:=1) (v:= .slice b1 M.guilds.length q1) rfl;have y2:=(uh HD5).kb.cell (i:=2) (v:= .slice b2 M.smiths.length q2) rfl;have y3:=(uh HD5).kb.cell (i:=3) (v:= .slice b3 M.desks.length q3) rfl;have y4:=(uh HD5).kb.cell (i:=4) (v:= .slice b4 M.paces.length q4) rfl;have y5:=(uh HD5).kb.cell (i:=5) (v:= .int .i64 M.now) rfl;clear s9 p9)
    | (go_at_call 270;go_loud (refine (Px kk who aa bb ?_).mono ?_;exact (uh HD5).full.smy;have hright:=Mu (uh HD5).ok kk who aa bb;generalize ZC M kk who aa bb=Y at *;obtain ⟨M1,cd⟩:=Y;rintro e w6 ⟨⟨z0,z1,z2,z3,z4,zq,rfl,ho⟩,hb⟩;dsimp only at ho hright ⊢;have k6:=ho.smy;obtain ⟨d0,r0,rfl,_,_⟩:=IsRooms.shape k6.rooms;obtain ⟨d1,r1,rfl,_,_⟩:=IsRec.shape k6.guilds;obtain ⟨d2,r2,rfl,_,_⟩:=IsRec.shape k6.smiths;obtain ⟨d3,r3,rfl,_,_⟩:=IsRec.shape k6.desks;obtain ⟨d4,r4,rfl,_,_⟩:=IsRec.shape k6.paces;have hz5:w.heap.size+2<=w5.heap.size:=(by have:=(uh HD5).kr.lt;omega);have HP:=Z9 (((uh HD5).below hb).put ho hz5 hright);have D6:=Z9 ((uh HD5).below hb);have o0:=(uh D6).kb.cell (i:=0) (v:= .slice b0 M.rooms.length q0) rfl;have f0:=(uh D6).kb.free 0;have o1:=(uh D6).kb.cell (i:=1) (v:= .slice b1 M.guilds.length q1) rfl;have f1:=(uh D6).kb.free 1;have o2:=(uh D6).kb.cell (i:=2) (v:= .slice b2 M.smiths.length q2) rfl;have f2:=(uh D6).kb.free 2;have o3:=(uh D6).kb.cell (i:=3) (v:= .slice b3 M.desks.length q3) rfl;have f3:=(uh D6).kb.free 3;have o4:=(uh D6).kb.cell (i:=4) (v:= .slice b4 M.paces.length q4) rfl;have f4:=(uh D6).kb.free 4;have o5:=(uh D6).kb.cell (i:=5) (v:= .int .i64 M.now) rfl;have f5:=(uh D6).kb.free 5;clear ho hb k6 hright)))
   all_goals
    go_wp2_with fail
    go_roundw
    case rel=>exact ⟨k-1,_,_,_,_,_,_,_,by omega,by rw [show ((k:Int)-1)=((k-1:Nat):Int) by omega],by first | exact uh HP | exact (uh HP).below (Below.refl _ _).drew⟩
    case measure=>simp [intOf];omega
  ·
   obtain rfl:k=0:=by omega
   have c0:=(uh HD).kb.cell (i:=0) (v:= .slice b0 M.rooms.length q0) rfl
   have o0:=(uh HD).kr.cell (i:=0) (v:= .slice none 0 0) rfl
   have f0:=(uh HD).kr.free 0
   have c1:=(uh HD).kb.cell (i:=1) (v:= .slice b1 M.guilds.length q1) rfl
   have o1:=(uh HD).kr.cell (i:=1) (v:= .slice none 0 0) rfl
   have f1:=(uh HD).kr.free 1
   have c2:=(uh HD).kb.cell (i:=2) (v:= .slice b2 M.smiths.length q2) rfl
   have o2:=(uh HD).kr.cell (i:=2) (v:= .slice none 0 0) rfl
   have f2:=(uh HD).kr.free 2
   have c3:=(uh HD).kb.cell (i:=3) (v:= .slice b3 M.desks.length q3) rfl
   have o3:=(uh HD).kr.cell (i:=3) (v:= .slice none 0 0) rfl
   have f3:=(uh HD).kr.free 3
   have c4:=(uh HD).kb.cell (i:=4) (v:= .slice b4 M.paces.length q4) rfl
   have o4:=(uh HD).kr.cell (i:=4) (v:= .slice none 0 0) rfl
   have f4:=(uh HD).kr.free 4
   have c5:=(uh HD).kb.cell (i:=5) (v:= .int .i64 M.now) rfl
   have o5:=(uh HD).kr.cell (i:=5) (v:= .int .i64 0) rfl
   have f5:=(uh HD).kr.free 5
   go_wp2_with fail
   refine bodyPost_ret (v:= .agg (S6 b0 q0 b1 q1 b2 q2 b3 q3 b4 q4 M)) (by simp [results,Tryz.results208,go_sem, *]) rfl ⟨M,_,_,_,_,_,rq,rfl,(uh HD).ok,?_,?_,?_⟩
   ·iterate 6 (refine FullSmy.set_off ?_ (fun k e=>((uh HD).own k e).2) _ _)
    exact (uh HD).full
   ·iterate 6 (refine St.newer ?_ (by omega) _ _)
    exact (uh HD).st
   ·iterate 6 (refine Off.newer ?_ (by omega) _ _)
    exact (uh HD).off
end Go.Proofs.YtjhijildaceadaaGreatDoor
namespace Go.Proofs.YtjhijildaceadaaGreatDoor.Draw
open Go.ChangeShapes Go.WideShapes Go.ChangeAt Go.RowKit
set_option linter.unusedVariables false
theorem Cx (p q r:Value) (k:IntKind) (j:Nat) (hj:j<3) (hp:∃ v:Int,p= .int k v) (hq:∃ v:Int,q= .int k v) (hr:∃ v:Int,r= .int k v) :
  ∃ v:Int,(#[p,q,r]:Array Value)[j]?=some (.int k v):=by
 obtain ⟨_,rfl⟩:=hp;obtain ⟨_,rfl⟩:=hq;obtain ⟨_,rfl⟩:=hr
 match j,hj with
 | 0,_=>exact ⟨_,rfl⟩
 | 1,_=>exact ⟨_,rfl⟩
 | 2,_=>exact ⟨_,rfl⟩
theorem drawForce_any (a:Option Addr) (len cap bc:Nat) (w:World) (hs:St a len cap bc w) :
  Calls Tryz.prog 66 #[.pointer (some ⟨bc,0,none⟩)] w fun e w'=> ∃ x:Int,e= .returned (.int .i64 x)/\St a len cap bc w'/\Off bc w w':=by
 have Hs:=Z9 hs
 clear hs
 go_enter Tryz.func66,Tryz.ntmps66
 go_wp2_with fail
 refine (once_any a len cap bc 8 (by omega) (by omega) _ (uh Hs)).mono ?_
 rintro e w1 ⟨b,rfl,s1,o1⟩
 have Hs1:=Z9 s1
 have Ho1:=Z9 o1
 have hb:=s1.cur.1
 clear s1 o1
 cases b
 ·go_wp2_with fail
  refine (below_any a len cap bc 1025 (by omega) (by omega) _ (uh Hs1)).mono ?_
  rintro e w2 ⟨x,rfl,x0,x1,s2,o2⟩
  have Hs2:=Z9 s2
  have Ho2:=Z9 o2
  clear s2 o2
  go_wp2_with fail
  go_ret
  exact ⟨_,rfl,uh Hs2,(uh Ho1).trans (uh Ho2)⟩
 ·go_wp2_with fail
  refine (below_any a len cap bc 3 (by omega) (by omega) _ ((uh Hs1).alloc _)).mono ?_
  rintro e w2 ⟨x,rfl,x0,x1,s2,o2⟩
  have hsz:w1.heap.size<w2.heap.size:=by have:=o2.size;simp at this;omega
  obtain ⟨v,hv⟩:=Cx (.int .i64 (-1)) (.int .i64 1024) (.int .i64 1025) .i64 x.toNat (by omega) ⟨_,rfl⟩ ⟨_,rfl⟩ ⟨_,rfl⟩
  have hcell:w2.cell? ⟨w1.heap.size,x.toNat,none⟩=some (.int .i64 v):=by
   rw [o2.cell (p:=⟨w1.heap.size,x.toNat,none⟩) (by simp) (by simp;omega),World.cell?_alloc_at _ _ _ _ rfl];exact hv
  clear hv
  have Hs2:=Z9 s2
  have Ho2:=Z9 o2
  clear s2 o2
  go_wp2_with fail
  go_ret
  exact ⟨_,rfl,uh Hs2,(uh Ho1).trans (((Off.refl _ _).alloc _).trans (uh Ho2))⟩
end Go.Proofs.YtjhijildaceadaaGreatDoor.Draw
namespace Go.Proofs.YtjhijildaceadaaGreatDoor
open Go.ChangeShapes Go.WideShapes Go.ChangeAt Go.RowKit Go.Sort
open Draw (St Off Row Cur)
set_option linter.unusedVariables false
theorem Il:Qj 90 3 (.agg #[.int .i64 0,.int .i64 0,.int .i64 0]) Xv:=
 ⟨FN,rfl,Yk,by omega,by omega,fun x u hu=>by
  unfold Xv at hu
  simp only [List.mem_cons,List.not_mem_nil,or_false] at hu
  rcases hu with rfl | rfl | rfl<;>rfl⟩
theorem OJ {w:World} (x0 x1 x2:Int) {g c:Nat} (hg:g=w.heap.size) (hc:1<=c) (hc2:c<=4000):XJ (w.alloc (.cells #[.int .i64 x0,.int .i64 x1,.int .i64 x2] 90)) (.slice (some ⟨g,0,none⟩) 1 c) [(x0,x1,x2)]:=
 We (e:=90) (enc:=Xv) (x0,x1,x2) hg hc hc2
theorem RecAt.away {α:Type} {t k:Nat} {enc:α->List Value} {n₀ bc:Nat} {w w':World} {v:Value} {xs:List α} (h:RecAt t k enc n₀ w v xs) (ho:Off bc w w') (hb:bc<n₀):RecAt t k enc n₀ w' v xs:=
 h.same fun i hi=>ho.block i (h.lt hi).2 (by have:=(h.lt hi).1;omega)
structure Gbox (a:Option Addr) (len cap bc:Nat) (w0 w:World) (v:Value) (ps:List ZF):Prop where
 st:St a len cap bc w
 off:Off bc w0 w
 gt:bc<w0.heap.size
 row:GuildsAt w0.heap.size w v ps
section
variable {a : Option Addr} {len cap bc : Nat} {w0 w w' : World} {v : Value} {ps : List ZF}
theorem Gbox.step (h:Gbox a len cap bc w0 w v ps) (hs:St a len cap bc w') (ho:Off bc w w'):Gbox a len cap bc w0 w' v ps:=⟨hs,h.off.trans ho,h.gt,RecAt.away h.row ho h.gt⟩
theorem Gbox.alloc (h:Gbox a len cap bc w0 w v ps) (o:Obj):Gbox a len cap bc w0 (w.alloc o) v ps:=h.step (h.st.alloc _) ((Off.refl _ _).alloc _)
theorem Gbox.grown (h:Gbox a len cap bc w0 w v ps) {v':Value} {qs:List ZF} (hg:w.grownBy w' v.ownBlock) (hr:GuildsAt w0.heap.size w' v' qs):Gbox a len cap bc w0 w' v' qs:=by
 have hk:∀ k,v.ownBlock=some k->w0.heap.size<=k:=fun k e=>(RecAt.lt h.row e).1
 have h1:=h.gt
 have h2:=h.off.size
 have hb:Below w0.heap.size w w':=(Below.refl _ _).grown hg h2 hk
 exact ⟨Yc h.st (hb.mono (by omega)),UI h.off hb,h.gt,hr⟩
end
theorem IT (a:Option Addr) (len cap bc:Nat) (w:World) (hs:St a len cap bc w) :
  Calls Tryz.prog 207 #[.pointer (some ⟨bc,0,none⟩)] w fun e w'=> ∃ v ps,e= .returned v/\ps.length<=4/\Gbox a len cap bc w w' v ps:=by
 have Hs:=Z9 hs
 have hbc:=Wz hs
 clear hs
 go_enter Tryz.func207,Tryz.ntmps207
 go_wp2_with fail
 have HE:Hid (GuildsAt w.heap.size (w.alloc (.cells #[] 90)) (.slice (some ⟨w.heap.size,0,none⟩) 0 0) []):=Z9 (Zh rfl (Nat.le_refl _))
 refine (Draw.below_any a len cap bc 5 (by omega) (by omega) _ ((uh Hs).alloc _)).mono ?_
 rintro e w1 ⟨n,rfl,n0,n1,s1,o1⟩
 have HG1:Hid (Gbox a len cap bc w w1 (.slice (some ⟨w.heap.size,0,none⟩) 0 0) []):=Z9 (Gbox.step ⟨(uh Hs).alloc _,(Off.refl _ _).alloc _,hbc,uh HE⟩ s1 o1)
 clear s1 o1 HE
 go_wp2_with fail
 go_loopw [3,4] (fun s i wr=> ∃ (k:Nat) (ps:List ZF),ps.length+k<=4/\i= .int .i64 k/\Gbox a len cap bc w wr s ps) (fun _ i _=>(intOf i).toNat)
 case atStart=>exact ⟨n.toNat,[],by simp;omega,by rw [show ((n.toNat:Nat):Int)=n by omega],uh HG1⟩
 case round=>
  obtain ⟨k,ps,hk,rfl,hG⟩:=hrel
  obtain ⟨ra,rcap,rfl⟩:=RecAt.shape hG.row
  have HG:=Z9 hG
  clear hG
  by_cases hk0:0<k
  ·go_wp2_with fail
   refine (Draw.below_any a len cap bc 600 (by omega) (by omega) _ (uh HG).st).mono ?_
   rintro e w2 ⟨low,rfl,l0,l1,s2,o2⟩
   have HG2:=Z9 ((uh HG).step s2 o2)
   clear s2 o2 HG
   go_wp2_with fail
   refine (Draw.below_any a len cap bc _ (by omega) (by omega) _ (uh HG2).st).mono ?_
   rintro e w3 ⟨ab,rfl,a0,a1,s3,o3⟩
   have HG3:=Z9 ((uh HG2).step s3 o3)
   clear s3 o3 HG2
   go_wp2_with fail
   refine (Draw.from_any a len cap bc low 1024 (by omega) (by omega) (by omega) _ (uh HG3).st).mono ?_
   rintro e w4 ⟨hi,rfl,h0,h1,s4,o4⟩
   have HG4:=Z9 ((uh HG3).step s4 o4)
   have hsz:=(uh HG4).off.size
   clear s4 o4 HG3
   go_wp2_with (at_builtin;refine ZO Il rfl (.tmp 15) (.tmp 27) 27 Tryz.underlying27 rfl w.heap.size _ _ ps [(ab-1,low,hi)] rfl rfl ((uh HG4).alloc _).row (OJ _ _ _ rfl (Nat.le_refl _) (by omega)) (by simp;omega) (by simp;omega) ?_;intro v' w5 hown hgrow hat)
   have HG5:=Z9 (((uh HG4).alloc _).grown hgrow hown)
   clear hown hgrow hat
   go_wp2_with fail
   go_roundw
   case rel=>exact ⟨k-1,ps++[(ab-1,low,hi)],by simp;omega,by rw [show ((k:Int)-1)=((k-1:Nat):Int) by omega],uh HG5⟩
   case measure=>simp [intOf];omega
  ·obtain rfl:k=0:=by omega
   go_wp2_with fail
   go_ret
   exact ⟨_,ps,rfl,by omega,uh HG⟩
end Go.Proofs.YtjhijildaceadaaGreatDoor
namespace Go.Proofs.YtjhijildaceadaaGreatDoor
open Go.ChangeShapes Go.WideShapes Go.ChangeAt Go.RowKit Go.Sort
open Draw (St Off Row Cur)
set_option linter.unusedVariables false
theorem Kj {ps:List ZF} {ab low hi:Int} (h:Zk ps=true) (hl:ps.length<=5) (a0:0<=ab) (a1:ab<(ps.length:Int)+1) (l0:0<=low) (l1:low<=hi) (h1:hi<=1024):Zk (ps++[(ab-1,low,hi)])=true:=by
 obtain ⟨hu,_⟩:=Wr h
 unfold Zk
 rw [List.length_append]
 show (Vf _ (ps.length+1) && decide (ps.length+1<=6))=true
 rw [decide_eq_true (by omega),Bool.and_true,SC]
 have hsame:Vf (ps++[(ab-1,low,hi)]) ps.length=true:=by
  unfold Vf
  refine List.all_eq_true.2 fun j hj=> ?_
  have hj':=List.mem_range.1 hj
  rw [Ww,if_neg (by omega)]
  exact LP hu hj'
 rw [hsame,Ww,if_pos rfl,Bool.true_and]
 unfold Xw Yq
 simp only [Bool.and_eq_true,decide_eq_true_eq]
 exact ⟨Zm (by omega) (by omega),⟨Zm l0 (by omega),Zm (by omega) h1⟩,l1⟩
theorem MB (a:Option Addr) (len cap bc:Nat) (w:World) (hs:St a len cap bc w) :
  Calls Tryz.prog 207 #[.pointer (some ⟨bc,0,none⟩)] w fun e w'=> ∃ v ps,e= .returned v/\Zk ps=true/\Gbox a len cap bc w w' v ps:=by
 have Hs:=Z9 hs
 have hbc:=Wz hs
 clear hs
 go_enter Tryz.func207,Tryz.ntmps207
 go_wp2_with fail
 have HE:Hid (GuildsAt w.heap.size (w.alloc (.cells #[] 90)) (.slice (some ⟨w.heap.size,0,none⟩) 0 0) []):=Z9 (Zh rfl (Nat.le_refl _))
 refine (Draw.below_any a len cap bc 5 (by omega) (by omega) _ ((uh Hs).alloc _)).mono ?_
 rintro e w1 ⟨n,rfl,n0,n1,s1,o1⟩
 have HG1:Hid (Gbox a len cap bc w w1 (.slice (some ⟨w.heap.size,0,none⟩) 0 0) []):=Z9 (Gbox.step ⟨(uh Hs).alloc _,(Off.refl _ _).alloc _,hbc,uh HE⟩ s1 o1)
 clear s1 o1 HE
 go_wp2_with fail
 go_loopw [3,4] (fun s i wr=> ∃ (k:Nat) (ps:List ZF),ps.length+k<=4/\Zk ps=true/\i= .int .i64 k/\Gbox a len cap bc w wr s ps) (fun _ i _=>(intOf i).toNat)
 case atStart=>exact ⟨n.toNat,[],by simp;omega,rfl,by rw [show ((n.toNat:Nat):Int)=n by omega],uh HG1⟩
 case round=>
  obtain ⟨k,ps,hk,hgs,rfl,hG⟩:=hrel
  have Hgs:=Z9 hgs
  clear hgs
  obtain ⟨ra,rcap,rfl⟩:=RecAt.shape hG.row
  have HG:=Z9 hG
  clear hG
  by_cases hk0:0<k
  ·go_wp2_with fail
   refine (Draw.below_any a len cap bc 600 (by omega) (by omega) _ (uh HG).st).mono ?_
   rintro e w2 ⟨low,rfl,l0,l1,s2,o2⟩
   have HG2:=Z9 ((uh HG).step s2 o2)
   clear s2 o2 HG
   go_wp2_with fail
   refine (Draw.below_any a len cap bc _ (by omega) (by omega) _ (uh HG2).st).mono ?_
   rintro e w3 ⟨ab,rfl,a0,a1,s3,o3⟩
   have HG3:=Z9 ((uh HG2).step s3 o3)
   clear s3 o3 HG2
   go_wp2_with fail
   refine (Draw.from_any a len cap bc low 1024 (by omega) (by omega) (by omega) _ (uh HG3).st).mono ?_
   rintro e w4 ⟨hi,rfl,h0,h1,s4,o4⟩
   have HG4:=Z9 ((uh HG3).step s4 o4)
   have hsz:=(uh HG4).off.size
   clear s4 o4 HG3
   go_wp2_with (at_builtin;refine ZO Il rfl (.tmp 15) (.tmp 27) 27 Tryz.underlying27 rfl w.heap.size _ _ ps [(ab-1,low,hi)] rfl rfl ((uh HG4).alloc _).row (OJ _ _ _ rfl (Nat.le_refl _) (by omega)) (by simp;omega) (by simp;omega) ?_;intro v' w5 hown hgrow hat)
   have HG5:=Z9 (((uh HG4).alloc _).grown hgrow hown)
   clear hown hgrow hat
   go_wp2_with fail
   go_roundw
   case rel=>exact ⟨k-1,ps++[(ab-1,low,hi)],by simp;omega,Kj (uh Hgs) (by omega) (by omega) (by omega) (by omega) (by omega) (by omega),by rw [show ((k:Int)-1)=((k-1:Nat):Int) by omega],uh HG5⟩
   case measure=>simp [intOf];omega
  ·obtain rfl:k=0:=by omega
   go_wp2_with fail
   go_ret
   exact ⟨_,ps,rfl,uh Hgs,uh HG⟩
end Go.Proofs.YtjhijildaceadaaGreatDoor
