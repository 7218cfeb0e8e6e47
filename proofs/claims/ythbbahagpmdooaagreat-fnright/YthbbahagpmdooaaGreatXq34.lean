/- Part 34 of what the proof rests on. No condition but those that a theorem names. -/
import Derived.Test.YthbbahagpmdooaaGreatXq20
import Derived.Test.YthbbahagpmdooaaGreatXq22
set_option maxHeartbeats 8000000
set_option maxRecDepth 100000
namespace Go.Proofs.YthbbahagpmdooaaGreat
open Go.ChangeShapes Go.WideShapes Go.ChangeAt Go.RowKit Go.Sort
set_option linter.unusedVariables false
set_option linter.unusedSimpArgs false
theorem LU {w:World} {v0 v1 v2 v3 v4:Value} {m:Z4} (who:Int) (gu:Int) (h:Smy w v0 v1 v2 v3 v4 m) (hok:ZO m=true) :
  Calls Tryz.prog 191 #[.agg #[v0,v1,v2,v3,v4,.int .i64 m.now],.int .i64 who,.int .i64 gu] w fun e w'=>WS w.heap.size (UE m who gu).1 (UE m who gu).2 e w'/\Below w.heap.size w w':=by
 obtain ⟨X,hX⟩:∃ x,UE m who gu=x:=⟨_,rfl⟩
 rw [hX]
 have HX:=Z9 hX
 clear hX
 have Hv0:=Z9 h
 obtain ⟨a0,p0,a1,p1,a2,p2,a3,p3,a4,p4,rfl,rfl,rfl,rfl,rfl,_,_,_,_,_,_,_,_,_,_⟩:=h.five
 clear h
 have Hok:=Z9 hok
 clear hok
 go_enter Tryz.func191,Tryz.ntmps191
 go_wp2_with fail
 have kb:Hid (Blk ((w.alloc (.cells #[.slice a0 m.rooms.length p0,.slice a1 m.guilds.length p1,.slice a2 m.smiths.length p2,.slice a3 m.desks.length p3,.slice a4 m.paces.length p4,.int .i64 m.now] 32)).alloc (.cells #[.slice none 0 0,.slice none 0 0,.slice none 0 0,.slice none 0 0,.slice none 0 0,.int .i64 0] 32)) w.heap.size 32 #[.slice a0 m.rooms.length p0,.slice a1 m.guilds.length p1,.slice a2 m.smiths.length p2,.slice a3 m.desks.length p3,.slice a4 m.paces.length p4,.int .i64 m.now]):=Z9 ((Blk.new w _ _).alloc _)
 have kr:Hid (Blk ((w.alloc (.cells #[.slice a0 m.rooms.length p0,.slice a1 m.guilds.length p1,.slice a2 m.smiths.length p2,.slice a3 m.desks.length p3,.slice a4 m.paces.length p4,.int .i64 m.now] 32)).alloc (.cells #[.slice none 0 0,.slice none 0 0,.slice none 0 0,.slice none 0 0,.slice none 0 0,.int .i64 0] 32)) (w.heap.size+1) 32 #[.slice none 0 0,.slice none 0 0,.slice none 0 0,.slice none 0 0,.slice none 0 0,.int .i64 0]):=Z9 (by
  have k:=Blk.new (w.alloc (.cells #[.slice a0 m.rooms.length p0,.slice a1 m.guilds.length p1,.slice a2 m.smiths.length p2,.slice a3 m.desks.length p3,.slice a4 m.paces.length p4,.int .i64 m.now] 32)) 32 #[.slice none 0 0,.slice none 0 0,.slice none 0 0,.slice none 0 0,.slice none 0 0,.int .i64 0]
  rw [World.size_alloc] at k
  exact k)
 have BB:Hid (Below w.heap.size w ((w.alloc (.cells #[.slice a0 m.rooms.length p0,.slice a1 m.guilds.length p1,.slice a2 m.smiths.length p2,.slice a3 m.desks.length p3,.slice a4 m.paces.length p4,.int .i64 m.now] 32)).alloc (.cells #[.slice none 0 0,.slice none 0 0,.slice none 0 0,.slice none 0 0,.slice none 0 0,.int .i64 0] 32))):=Z9 (((Below.refl _ _).alloc (Nat.le_refl _) _).alloc (by simp) _)
 have Hv:=Z9 ((uh Hv0).below (uh BB))
 clear Hv0
 generalize (w.alloc (.cells #[.slice a0 m.rooms.length p0,.slice a1 m.guilds.length p1,.slice a2 m.smiths.length p2,.slice a3 m.desks.length p3,.slice a4 m.paces.length p4,.int .i64 m.now] 32)).alloc (.cells #[.slice none 0 0,.slice none 0 0,.slice none 0 0,.slice none 0 0,.slice none 0 0,.int .i64 0] 32)=w1 at *
 have hlo:=ZW (uh Hok)
 have HLo:=Z9 hlo
 have HFew:=Z9 (Xk hlo)
 clear hlo
 have hWs:w.heap.size+2<=w1.heap.size:=by have:=(uh kr).lt;omega
 refine (ZB (uh Hv) (uh HFew)).mono ?_
 rintro e w2 ⟨y0,y1,y2,y3,y4,oq,rfl,ho,hb⟩
 have k9:=ho.smy
 obtain ⟨b0,q0,b1,q1,b2,q2,b3,q3,b4,q4,rfl,rfl,rfl,rfl,rfl,_,_,_,_,_,_,_,_,_,_⟩:=k9.five
 clear k9
 replace kb:=bl kb hb
 replace kr:=bl kr hb
 replace Hv:=Z9 ((uh Hv).below hb)
 replace BB:=bt BB hb
 have HO:=Z9 (ho.mono hWs)
 have LO:Hid (∀ k,Yy (.slice b0 m.rooms.length q0) (.slice b1 m.guilds.length q1) (.slice b2 m.smiths.length q2) (.slice b3 m.desks.length q3) (.slice b4 m.paces.length q4) oq k->w.heap.size+2<=k/\k<w2.heap.size):=Z9 (fun k e=>(uh HO).own e)
 have hsz9:=hb.size
 clear ho hb
 go_upto_region 2 with fail
 obtain ⟨W2,hW2,hba,ko⟩:=ZD w2 32 (S6 b0 q0 b1 q1 b2 q2 b3 q3 b4 q4 m)
 replace kb:=bl kb hba
 replace kr:=bl kr hba
 replace Hv:=Z9 ((uh Hv).below hba)
 replace HO:=Z9 ((uh HO).below hba)
 replace BB:=bt BB hba
 have hob:w.heap.size+2<=w2.heap.size:=Nat.le_trans hWs hsz9
 clear hba hsz9 hWs
 rw [hW2]
 clear hW2
 generalize w2.heap.size=ob at *
 obtain ⟨qw,hqw⟩:∃ q,WT m who=q:=⟨_,rfl⟩
 have Hqw:=Z9 hqw
 clear hqw
 obtain ⟨c0,c1,c2,c3,c4,c5⟩:=(uh kb).c6
 go_wp2_with fail
 clear c0 c1 c2 c3 c4 c5
 refine (V9 (uh Hqw) (uh Hv)).mono ?_
 rintro e w3 ⟨rfl,hb⟩
 replace kb:=bl kb hb
 replace kr:=bl kr hb
 replace Hv:=Z9 ((uh Hv).below hb)
 replace HO:=Z9 ((uh HO).below hb)
 replace ko:=bl ko hb
 replace BB:=bt BB hb
 clear hb
 cases qw
 ·
  obtain ⟨x0,x1,x2,x3,x4,x5⟩:=(uh ko).c6
  obtain ⟨o0,o1,o2,o3,o4,o5⟩:=(uh kr).c6
  obtain ⟨f0,f1,f2,f3,f4,f5⟩:=(uh kr).f6
  go_wp2_with fail
  have hX0:X=(m,1):=by rw [<-uh HX];unfold UE;rw [uh Hqw];rfl
  refine bodyPost_ret (v:= .tuple #[.agg #[.slice b0 m.rooms.length q0,.slice b1 m.guilds.length q1,.slice b2 m.smiths.length q2,.slice b3 m.desks.length q3,.slice b4 m.paces.length q4,.int .i64 m.now],.int .i64 1]) (by simp [results,Tryz.results191,go_sem, *]) rfl ⟨?_,?_⟩
  ·rw [hX0];refine ⟨_,_,_,_,_,oq,rfl,?_⟩
   iterate 6 (refine FullSmy.set_off ?_ (fun k e=>by have:=(uh LO k e).1;omega) _ _)
   exact (uh HO).mono (by omega)
  ·iterate 6 (refine Below.setCell ?_ (by show _<=w.heap.size+1;omega) _)
   exact uh BB
 obtain ⟨k,rfl,hk,hs0⟩:=X6 (uh Hqw)
 have hk1:(k:Int)<(m.smiths.length:Int):=by omega
 obtain ⟨qg,hqg⟩:∃ q,inB gu (-1) ((m.guilds.length:Int)-1)=q:=⟨_,rfl⟩
 have Hqg:=Z9 hqg
 clear hqg
 have hgl:=(uh HFew).guilds
 have c1:=(uh kb).cell (i:=1) (v:= .slice a1 m.guilds.length p1) rfl
 go_wp2_with fail
 refine (Z1 _ _ _ _).mono ?_
 rw [uh Hqg]
 rintro e w9 ⟨rfl,hw9⟩
 subst w9
 clear c1
 cases qg
 ·
  obtain ⟨x0,x1,x2,x3,x4,x5⟩:=(uh ko).c6
  obtain ⟨o0,o1,o2,o3,o4,o5⟩:=(uh kr).c6
  obtain ⟨f0,f1,f2,f3,f4,f5⟩:=(uh kr).f6
  go_wp2_with fail
  have hX0:X=(m,3):=by rw [<-uh HX];unfold UE;rw [uh Hqw];simp only [if_true];rw [uh Hqg];rfl
  refine bodyPost_ret (v:= .tuple #[.agg #[.slice b0 m.rooms.length q0,.slice b1 m.guilds.length q1,.slice b2 m.smiths.length q2,.slice b3 m.desks.length q3,.slice b4 m.paces.length q4,.int .i64 m.now],.int .i64 3]) (by simp [results,Tryz.results191,go_sem, *]) rfl ⟨?_,?_⟩
  ·rw [hX0];refine ⟨_,_,_,_,_,oq,rfl,?_⟩
   iterate 6 (refine FullSmy.set_off ?_ (fun k e=>by have:=(uh LO k e).1;omega) _ _)
   exact (uh HO).mono (by omega)
  ·iterate 6 (refine Below.setCell ?_ (by show _<=w.heap.size+1;omega) _)
   exact uh BB
 obtain ⟨g2,hga,_,_,hc2,hz2⟩:=RecAt.view ZQ (by omega) (uh HO).smiths rfl (by omega)
 cases hga
 have hg2o:=(uh LO g2 (.inr (.inr (.inr (.inl rfl)))))
 have x2:=(uh ko).cell (i:=2) (v:= .slice (some ⟨g2,0,none⟩) m.smiths.length q2) rfl
 have s0:=hc2 k hk 4 _ rfl
 have f0:=hz2 (k*11+4)
 have hp0:=(uh HO).putS rfl (j:=k) (i:=4) hk (by omega) (.int .i64 gu) (Rt (Z8 m.smiths k) gu) rfl
 have HP:=Z9 hp0
 clear hc2 hz2 HO hp0
 go_upto_region 7 with fail
 clear s0 f0 x2
 replace ko:Hid (Blk ((w3).setCell ⟨g2,k*11+4,none⟩ (.int .i64 gu)) ob 32 #[.slice b0 m.rooms.length q0,.slice b1 m.guilds.length q1,.slice (some ⟨g2,0,none⟩) m.smiths.length q2,.slice b3 m.desks.length q3,.slice b4 m.paces.length q4,.int .i64 m.now]):=Z9 ((uh ko).other (a:=⟨g2,k*11+4,none⟩) (by show ob ≠ g2;omega) (.int .i64 gu))
 replace kr:Hid (Blk ((w3).setCell ⟨g2,k*11+4,none⟩ (.int .i64 gu)) (w.heap.size+1) 32 #[.slice none 0 0,.slice none 0 0,.slice none 0 0,.slice none 0 0,.slice none 0 0,.int .i64 0]):=Z9 ((uh kr).other (a:=⟨g2,k*11+4,none⟩) (by show w.heap.size+1 ≠ g2;omega) (.int .i64 gu))
 replace BB:Hid (Below w.heap.size w ((w3).setCell ⟨g2,k*11+4,none⟩ (.int .i64 gu))):=Z9 ((uh BB).setCell (p:=⟨g2,k*11+4,none⟩) (by show w.heap.size<=g2;omega) (.int .i64 gu))
 clear kb Hv
 generalize (w3).setCell ⟨g2,k*11+4,none⟩ (.int .i64 gu)=W3 at *
 have hfw:=uh HFew
 go_wp2_with fail
 have hofR:∀ k,Yy (.slice b0 m.rooms.length q0) (.slice b1 m.guilds.length q1) (.slice (some ⟨g2,0,none⟩) m.smiths.length q2) (.slice b3 m.desks.length q3) (.slice b4 m.paces.length q4) oq k->k ≠ ob:=fun k e=>by have:=(uh LO k e).2;omega
 refine (Zc (m:=setS m k (Rt (Z8 m.smiths k) gu)) (uh ko) (uh HP) (fun e=>hofR _ (.inr (.inr (.inr (.inl e)))) rfl) (fun e=>hofR _ (.inr (.inr (.inr (.inr (.inl e))))) rfl) (by show (m.smiths.set k _).length<=800;have:=hfw.smiths;simp;omega) hfw.desks).mono ?_
 rintro e w4 ⟨rfl,hf9,ht9⟩
 replace kr:=Z9 ((uh kr).two ht9 (fun e=>by have:=(uh LO _ (.inr (.inr (.inr (.inl e))))).1;omega) (fun e=>by have:=(uh LO _ (.inr (.inr (.inr (.inr (.inl e)))))).1;omega))
 replace BB:=Z9 ((uh BB).trans (ht9.below (uh BB).size (fun k e=>by have:=(uh LO k (.inr (.inr (.inr (.inl e))))).1;omega) (fun k e=>by have:=(uh LO k (.inr (.inr (.inr (.inr (.inl e)))))).1;omega)))
 have HF9:=Z9 hf9
 clear hf9 ht9 hofR
 obtain ⟨o0,o1,o2,o3,o4,o5⟩:=(uh kr).c6
 obtain ⟨f0,f1,f2,f3,f4,f5⟩:=(uh kr).f6
 go_wp2_with fail
 have hX0:X=(ZP (setS m k (Rt (Z8 m.smiths k) gu)),0):=by rw [<-uh HX];unfold UE;rw [uh Hqw];simp only [if_true,Int.toNat_natCast];rw [uh Hqg];rfl
 have hnow:(ZP (setS m k (Rt (Z8 m.smiths k) gu))).now=m.now:=(ZL _ _).2.2.2.1
 refine bodyPost_ret (v:= .tuple #[.agg #[.slice b0 m.rooms.length q0,.slice b1 m.guilds.length q1,.slice (some ⟨g2,0,none⟩) m.smiths.length q2,.slice b3 m.desks.length q3,.slice b4 m.paces.length q4,.int .i64 m.now],.int .i64 0]) (by simp [results,Tryz.results191,go_sem,setS,U5,YH,pushS, *]) rfl ⟨?_,?_⟩
 ·rw [hX0];refine ⟨_,_,_,_,_,oq,by rw [hnow],?_⟩
  iterate 6 (refine FullSmy.set_off ?_ (fun k e=>by have:=(uh LO k e).1;omega) _ _)
  exact (uh HF9).mono (by omega)
 ·iterate 6 (refine Below.setCell ?_ (by show _<=w.heap.size+1;omega) _)
  exact uh BB
end Go.Proofs.YthbbahagpmdooaaGreat
