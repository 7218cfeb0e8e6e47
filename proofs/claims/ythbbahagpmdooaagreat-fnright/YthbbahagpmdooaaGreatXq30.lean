/- Part 30 of what the proof rests on. No condition but those that a theorem names. -/
import Derived.Test.YthbbahagpmdooaaGreatXq23
set_option maxHeartbeats 8000000
set_option maxRecDepth 100000
namespace Go.Proofs.YthbbahagpmdooaaGreat
open Go.ChangeShapes Go.WideShapes Go.ChangeAt Go.RowKit Go.Sort
set_option linter.unusedVariables false
set_option linter.unusedSimpArgs false
variable {w w' w0 w1 w2 w3 w₀ wr W W' X A B C : World} {v v0 v1 v2 v3 v4 u u0 u1 u2 u3 u4 : Value} {m : Z4}
theorem QF  (who:Int) (lo:Int) (hi:Int) (h:Smy w v0 v1 v2 v3 v4 m) :
  Calls Tryz.prog 184 #[.agg #[v0,v1,v2,v3,v4,.int .i64 m.now],.int .i64 who,.int .i64 lo,.int .i64 hi] w fun e w'=>WS w.heap.size (WH m who lo hi).1 (WH m who lo hi).2 e w'/\Below w.heap.size w w':=by
 obtain ⟨X,hX⟩:∃ x,WH m who lo hi=x:=⟨_,rfl⟩
 rw [hX]
 have HX:=Z9 hX
 clear hX
 have Hv0:=Z9 h
 obtain ⟨a0,p0,a1,p1,a2,p2,a3,p3,a4,p4,rfl,rfl,rfl,rfl,rfl,_,_,_,_,_,_,_,_,_,_⟩:=h.five
 clear h
 obtain ⟨ok,hok⟩:∃ q,ZO m=q:=⟨_,rfl⟩
 have Hok:=Z9 hok
 clear hok
 go_enter Tryz.func184,Tryz.ntmps184
 go_wp2_with fail
 obtain ⟨W,hW,kb,kr,BB⟩:=Yt w 32 (S6 a0 p0 a1 p1 a2 p2 a3 p3 a4 p4 m) 32 E6
 have Hv:=Z9 ((uh Hv0).below (uh BB))
 clear Hv0
 rw [hW]
 clear hW
 refine (Zi (uh Hok) (uh Hv)).mono ?_
 rintro e w1 ⟨rfl,hb⟩
 replace kb:=bl kb hb
 replace kr:=bl kr hb
 replace Hv:=Z9 ((uh Hv).below hb)
 replace BB:=bt BB hb
 clear hb
 cases ok
 ·
  obtain ⟨c0,c1,c2,c3,c4,c5⟩:=(uh kb).c6
  go_wp2_with fail
  clear c0 c1 c2 c3 c4 c5
  refine (Yz (uh Hv)).mono ?_
  rintro e w2 ⟨rfl,hb⟩
  replace kb:=bl kb hb
  replace kr:=bl kr hb
  replace Hv:=Z9 ((uh Hv).below hb)
  replace BB:=bt BB hb
  clear hb
  obtain ⟨o0,o1,o2,o3,o4,o5⟩:=(uh kr).c6
  obtain ⟨f0,f1,f2,f3,f4,f5⟩:=(uh kr).f6
  go_wp2_with fail
  have hX0:X=(Yp,3):=by rw [<-uh HX];unfold WH;rw [uh Hok];rfl
  refine bodyPost_ret (v:= .tuple #[.agg #[.slice none 0 0,.slice none 0 0,.slice none 0 0,.slice none 0 0,.slice none 0 0,.int .i64 0],.int .i64 3]) (by simp [results,Tryz.results184,go_sem, *]) rfl ⟨?_,?_⟩
  ·rw [hX0];exact ⟨_,_,_,_,_,[],rfl,YC _ _⟩
  ·iterate 6 (refine Below.setCell ?_ (by show _<=w.heap.size+1;omega) _)
   exact uh BB
 have hlo:=ZW (uh Hok)
 have HLo:=Z9 hlo
 have HFew:=Z9 (Xk hlo)
 clear hlo
 obtain ⟨c0,c1,c2,c3,c4,c5⟩:=(uh kb).c6
 go_wp2_with fail
 clear c0 c1 c2 c3 c4 c5
 have hWs:w.heap.size+2<=w1.heap.size:=by have:=(uh kr).lt;omega
 refine (ZB (uh Hv) (uh HFew)).mono ?_
 rintro e w2 ⟨y0,y1,y2,y3,y4,oq,rfl,ho,hb⟩
 have k9:=ho.smy
 obtain ⟨b0,q0,b1,q1,b2,q2,b3,q3,b4,q4,rfl,rfl,rfl,rfl,rfl,_,_,_,_,_,_,_,_,_,_⟩:=k9.five
 clear k9
 replace kb:=bl kb hb
 replace kr:=bl kr hb
 replace Hv:=Z9 ((uh Hv).below hb)
 replace BB:=bt BB hb
 have HO:=Z9 (ho.mono hWs)
 have LO:Hid (∀ k,Yy (.slice b0 m.rooms.length q0) (.slice b1 m.guilds.length q1) (.slice b2 m.smiths.length q2) (.slice b3 m.desks.length q3) (.slice b4 m.paces.length q4) oq k->w.heap.size+2<=k/\k<w2.heap.size):=Z9 (fun k e=>(uh HO).own e)
 have hsz9:=hb.size
 clear ho hb
 go_upto_region 4 with fail
 obtain ⟨W2,hW2,hba,ko⟩:=ZD w2 32 (S6 b0 q0 b1 q1 b2 q2 b3 q3 b4 q4 m)
 replace kb:=bl kb hba
 replace kr:=bl kr hba
 replace Hv:=Z9 ((uh Hv).below hba)
 replace HO:=Z9 ((uh HO).below hba)
 replace BB:=bt BB hba
 have hob:w.heap.size+2<=w2.heap.size:=Nat.le_trans hWs hsz9
 clear hba hsz9 hWs
 rw [hW2]
 clear hW2
 generalize w2.heap.size=ob at *
 obtain ⟨qw,hqw⟩:∃ q,WT m who=q:=⟨_,rfl⟩
 have Hqw:=Z9 hqw
 clear hqw
 obtain ⟨c0,c1,c2,c3,c4,c5⟩:=(uh kb).c6
 go_wp2_with fail
 clear c0 c1 c2 c3 c4 c5
 refine (V9 (uh Hqw) (uh Hv)).mono ?_
 rintro e w3 ⟨rfl,hb⟩
 replace kb:=bl kb hb
 replace kr:=bl kr hb
 replace Hv:=Z9 ((uh Hv).below hb)
 replace HO:=Z9 ((uh HO).below hb)
 replace ko:=bl ko hb
 replace BB:=bt BB hb
 clear hb
 cases qw
 ·
  obtain ⟨x0,x1,x2,x3,x4,x5⟩:=(uh ko).c6
  obtain ⟨o0,o1,o2,o3,o4,o5⟩:=(uh kr).c6
  obtain ⟨f0,f1,f2,f3,f4,f5⟩:=(uh kr).f6
  go_wp2_with fail
  have hX0:X=(m,1):=by rw [<-uh HX];unfold WH;rw [uh Hok,uh Hqw];rfl
  refine bodyPost_ret (v:= .tuple #[.agg #[.slice b0 m.rooms.length q0,.slice b1 m.guilds.length q1,.slice b2 m.smiths.length q2,.slice b3 m.desks.length q3,.slice b4 m.paces.length q4,.int .i64 m.now],.int .i64 1]) (by simp [results,Tryz.results184,go_sem, *]) rfl ⟨?_,?_⟩
  ·rw [hX0];refine ⟨_,_,_,_,_,oq,rfl,?_⟩
   iterate 6 (refine FullSmy.set_off ?_ (fun k e=>by have:=(uh LO k e).1;omega) _ _)
   exact (uh HO).mono (by omega)
  ·iterate 6 (refine Below.setCell ?_ (by show _<=w.heap.size+1;omega) _)
   exact uh BB
 obtain ⟨k,rfl,hk,hs0⟩:=X6 (uh Hqw)
 have hk1:(k:Int)<(m.smiths.length:Int):=by omega
 obtain ⟨pb,hpb⟩:∃ q,YJ lo hi=q:=⟨_,rfl⟩
 have Hpb:=Z9 hpb
 clear hpb
 go_wp2_with fail
 refine (Zg lo hi _).mono ?_
 rw [uh Hpb]
 rintro e w9 ⟨rfl,hw9⟩
 subst w9
 cases pb
 ·
  obtain ⟨x0,x1,x2,x3,x4,x5⟩:=(uh ko).c6
  obtain ⟨o0,o1,o2,o3,o4,o5⟩:=(uh kr).c6
  obtain ⟨f0,f1,f2,f3,f4,f5⟩:=(uh kr).f6
  go_wp2_with fail
  have hX0:X=(m,3):=by rw [<-uh HX];unfold WH;rw [uh Hok,uh Hqw];simp only [if_true];rw [uh Hpb];rfl
  refine bodyPost_ret (v:= .tuple #[.agg #[.slice b0 m.rooms.length q0,.slice b1 m.guilds.length q1,.slice b2 m.smiths.length q2,.slice b3 m.desks.length q3,.slice b4 m.paces.length q4,.int .i64 m.now],.int .i64 3]) (by simp [results,Tryz.results184,go_sem, *]) rfl ⟨?_,?_⟩
  ·rw [hX0];refine ⟨_,_,_,_,_,oq,rfl,?_⟩
   iterate 6 (refine FullSmy.set_off ?_ (fun k e=>by have:=(uh LO k e).1;omega) _ _)
   exact (uh HO).mono (by omega)
  ·iterate 6 (refine Below.setCell ?_ (by show _<=w.heap.size+1;omega) _)
   exact uh BB
 obtain ⟨g2,hga,_,_,hc2,hz2⟩:=RecAt.view ZQ (by omega) (uh HO).smiths rfl (by omega)
 cases hga
 have hg2o:=(uh LO g2 (.inr (.inr (.inr (.inl rfl)))))
 have x2:=(uh ko).cell (i:=2) (v:= .slice (some ⟨g2,0,none⟩) m.smiths.length q2) rfl
 have s0:=hc2 k hk 5 _ rfl
 have f0:=hz2 (k*11+5)
 have hp0:=(uh HO).putS rfl (j:=k) (i:=5) hk (by omega) (.int .i64 lo) (((Z8 m.smiths k).1,(Z8 m.smiths k).2.1,(Z8 m.smiths k).2.2.1,(Z8 m.smiths k).2.2.2.1,(Z8 m.smiths k).2.2.2.2.1,lo,(Z8 m.smiths k).2.2.2.2.2.2)) rfl
 have hl1:(m.smiths.set k (((Z8 m.smiths k).1,(Z8 m.smiths k).2.1,(Z8 m.smiths k).2.2.1,(Z8 m.smiths k).2.2.2.1,(Z8 m.smiths k).2.2.2.2.1,lo,(Z8 m.smiths k).2.2.2.2.2.2))).length=m.smiths.length:=by simp
 have hr1:Z8 (m.smiths.set k (((Z8 m.smiths k).1,(Z8 m.smiths k).2.1,(Z8 m.smiths k).2.2.1,(Z8 m.smiths k).2.2.2.1,(Z8 m.smiths k).2.2.2.2.1,lo,(Z8 m.smiths k).2.2.2.2.2.2))) k=(((Z8 m.smiths k).1,(Z8 m.smiths k).2.1,(Z8 m.smiths k).2.2.1,(Z8 m.smiths k).2.2.2.1,(Z8 m.smiths k).2.2.2.2.1,lo,(Z8 m.smiths k).2.2.2.2.2.2)):=by rw [ZC hk,if_pos rfl]
 have hp1:=hp0.putS hl1.symm (j:=k) (i:=6) (by show k<(m.smiths.set k _).length;omega) (by omega) (.int .i64 hi) (J3 (Z8 m.smiths k) lo hi) (by show ZT (J3 (Z8 m.smiths k) lo hi)=(ZT (Z8 (m.smiths.set k (((Z8 m.smiths k).1,(Z8 m.smiths k).2.1,(Z8 m.smiths k).2.2.1,(Z8 m.smiths k).2.2.2.1,(Z8 m.smiths k).2.2.2.2.1,lo,(Z8 m.smiths k).2.2.2.2.2.2))) k)).set 6 _;rw [hr1];rfl)
 obtain ⟨_,hga,_,_,hd1,hy1⟩:=RecAt.view ZQ (by omega) hp0.smiths hl1.symm (by show 0<(m.smiths.set k _).length;omega)
 cases hga
 have s1:=hd1 k (by show k<(m.smiths.set k _).length;omega) 6 _ rfl
 have f1:=hy1 (k*11+6)
 simp only [List.set_set] at hp1
 have x2':=((uh ko).other (a:=⟨g2,k*11+5,none⟩) (by show ob ≠ g2;omega) (.int .i64 lo)).cell (i:=2) (v:= .slice (some ⟨g2,0,none⟩) m.smiths.length q2) rfl
 have HP:=Z9 hp1
 clear hc2 hz2 HO hp0 hp1
 go_upto_region 10 with fail
 clear s0 s1 f0 f1 x2
 replace ko:Hid (Blk (((w3).setCell ⟨g2,k*11+5,none⟩ (.int .i64 lo)).setCell ⟨g2,k*11+6,none⟩ (.int .i64 hi)) ob 32 #[.slice b0 m.rooms.length q0,.slice b1 m.guilds.length q1,.slice (some ⟨g2,0,none⟩) m.smiths.length q2,.slice b3 m.desks.length q3,.slice b4 m.paces.length q4,.int .i64 m.now]):=Z9 (((uh ko).other (a:=⟨g2,k*11+5,none⟩) (by show ob ≠ g2;omega) (.int .i64 lo)).other (a:=⟨g2,k*11+6,none⟩) (by show ob ≠ g2;omega) (.int .i64 hi))
 replace kr:Hid (Blk (((w3).setCell ⟨g2,k*11+5,none⟩ (.int .i64 lo)).setCell ⟨g2,k*11+6,none⟩ (.int .i64 hi)) (w.heap.size+1) 32 #[.slice none 0 0,.slice none 0 0,.slice none 0 0,.slice none 0 0,.slice none 0 0,.int .i64 0]):=Z9 (((uh kr).other (a:=⟨g2,k*11+5,none⟩) (by show w.heap.size+1 ≠ g2;omega) (.int .i64 lo)).other (a:=⟨g2,k*11+6,none⟩) (by show w.heap.size+1 ≠ g2;omega) (.int .i64 hi))
 replace BB:Hid (Below w.heap.size w (((w3).setCell ⟨g2,k*11+5,none⟩ (.int .i64 lo)).setCell ⟨g2,k*11+6,none⟩ (.int .i64 hi))):=Z9 (((uh BB).setCell (p:=⟨g2,k*11+5,none⟩) (by show w.heap.size<=g2;omega) (.int .i64 lo)).setCell (p:=⟨g2,k*11+6,none⟩) (by show w.heap.size<=g2;omega) (.int .i64 hi))
 clear kb Hv
 generalize ((w3).setCell ⟨g2,k*11+5,none⟩ (.int .i64 lo)).setCell ⟨g2,k*11+6,none⟩ (.int .i64 hi)=W3 at *
 have hfw:=uh HFew
 go_wp2_with fail
 have hofR:∀ k,Yy (.slice b0 m.rooms.length q0) (.slice b1 m.guilds.length q1) (.slice (some ⟨g2,0,none⟩) m.smiths.length q2) (.slice b3 m.desks.length q3) (.slice b4 m.paces.length q4) oq k->k ≠ ob:=fun k e=>by have:=(uh LO k e).2;omega
 refine (Zc (m:=setS m k (J3 (Z8 m.smiths k) lo hi)) (uh ko) (uh HP) (fun e=>hofR _ (.inr (.inr (.inr (.inl e)))) rfl) (fun e=>hofR _ (.inr (.inr (.inr (.inr (.inl e))))) rfl) (by show (m.smiths.set k _).length<=800;have:=hfw.smiths;simp;omega) hfw.desks).mono ?_
 rintro e w4 ⟨rfl,hf9,ht9⟩
 replace kr:=Z9 ((uh kr).two ht9 (fun e=>by have:=(uh LO _ (.inr (.inr (.inr (.inl e))))).1;omega) (fun e=>by have:=(uh LO _ (.inr (.inr (.inr (.inr (.inl e)))))).1;omega))
 replace BB:=Z9 ((uh BB).trans (ht9.below (uh BB).size (fun k e=>by have:=(uh LO k (.inr (.inr (.inr (.inl e))))).1;omega) (fun k e=>by have:=(uh LO k (.inr (.inr (.inr (.inr (.inl e)))))).1;omega)))
 have HF9:=Z9 hf9
 clear hf9 ht9 hofR
 obtain ⟨o0,o1,o2,o3,o4,o5⟩:=(uh kr).c6
 obtain ⟨f0,f1,f2,f3,f4,f5⟩:=(uh kr).f6
 go_wp2_with fail
 have hX0:X=(ZP (setS m k (J3 (Z8 m.smiths k) lo hi)),0):=by rw [<-uh HX];unfold WH;rw [uh Hok,uh Hqw];simp only [if_true,Int.toNat_natCast];rw [uh Hpb];rfl
 have hnow:(ZP (setS m k (J3 (Z8 m.smiths k) lo hi))).now=m.now:=(ZL _ _).2.2.2.1
 refine bodyPost_ret (v:= .tuple #[.agg #[.slice b0 m.rooms.length q0,.slice b1 m.guilds.length q1,.slice (some ⟨g2,0,none⟩) m.smiths.length q2,.slice b3 m.desks.length q3,.slice b4 m.paces.length q4,.int .i64 m.now],.int .i64 0]) (by simp [results,Tryz.results184,go_sem,setS,U5,YH,pushS, *]) rfl ⟨?_,?_⟩
 ·rw [hX0];refine ⟨_,_,_,_,_,oq,by rw [hnow],?_⟩
  iterate 6 (refine FullSmy.set_off ?_ (fun k e=>by have:=(uh LO k e).1;omega) _ _)
  exact (uh HF9).mono (by omega)
 ·iterate 6 (refine Below.setCell ?_ (by show _<=w.heap.size+1;omega) _)
  exact uh BB
theorem RA (h:Loose m):0<m.paces.length:=by
 rw [WZ h]
 have hd:=h.head
 unfold YY at hd
 simp only [Bool.and_eq_true,decide_eq_true_eq] at hd
 have:=(Zf hd.1).1
 omega
theorem Q8 {R n₀:Nat}  {qs:List (Z0 × Value)} {nw:Int} (hn:m.now=nw) (kb:Blk w R 32 #[v0,v1,v2,v3,v4,.int .i64 nw]) (hf:FullSmy n₀ w v0 v1 v2 v3 v4 m qs) (h2:v2.ownBlock ≠ some R) (h3:v3.ownBlock ≠ some R) (hl:m.smiths.length<=800) (hd:m.desks.length<=1000) :
  Calls Tryz.prog 206 #[.pointer (some ⟨R,0,none⟩)] w fun e w'=>e= .returned (.tuple #[.agg #[v0,v1,v2,v3,v4,.int .i64 nw],.int .i64 0])/\FullSmy n₀ w' v0 v1 v2 v3 v4 (ZP m) qs/\Two v2.ownBlock v3.ownBlock w w':=by
 subst hn
 exact Zc kb hf h2 h3 hl hd
theorem JT  (h:Smy w v0 v1 v2 v3 v4 m) (hok:ZO m=true) :
  Calls Tryz.prog 189 #[.agg #[v0,v1,v2,v3,v4,.int .i64 m.now]] w fun e w'=>WS w.heap.size (Nb m) 0 e w'/\Below w.heap.size w w':=by
 obtain ⟨X,hX⟩:∃ x,Nb m=x:=⟨_,rfl⟩
 rw [hX]
 have HX:=Z9 hX
 clear hX
 have Hv0:=Z9 h
 obtain ⟨a0,p0,a1,p1,a2,p2,a3,p3,a4,p4,rfl,rfl,rfl,rfl,rfl,_,_,_,_,_,_,_,_,_,_⟩:=h.five
 clear h
 have Hok:=Z9 hok
 clear hok
 go_enter Tryz.func189,Tryz.ntmps189
 go_wp2_with fail
 have kb:Hid (Blk ((w.alloc (.cells #[.slice a0 m.rooms.length p0,.slice a1 m.guilds.length p1,.slice a2 m.smiths.length p2,.slice a3 m.desks.length p3,.slice a4 m.paces.length p4,.int .i64 m.now] 32)).alloc (.cells #[.slice none 0 0,.slice none 0 0,.slice none 0 0,.slice none 0 0,.slice none 0 0,.int .i64 0] 32)) w.heap.size 32 #[.slice a0 m.rooms.length p0,.slice a1 m.guilds.length p1,.slice a2 m.smiths.length p2,.slice a3 m.desks.length p3,.slice a4 m.paces.length p4,.int .i64 m.now]):=Z9 ((Blk.new w _ _).alloc _)
 have kr:Hid (Blk ((w.alloc (.cells #[.slice a0 m.rooms.length p0,.slice a1 m.guilds.length p1,.slice a2 m.smiths.length p2,.slice a3 m.desks.length p3,.slice a4 m.paces.length p4,.int .i64 m.now] 32)).alloc (.cells #[.slice none 0 0,.slice none 0 0,.slice none 0 0,.slice none 0 0,.slice none 0 0,.int .i64 0] 32)) (w.heap.size+1) 32 #[.slice none 0 0,.slice none 0 0,.slice none 0 0,.slice none 0 0,.slice none 0 0,.int .i64 0]):=Z9 (by
  have k:=Blk.new (w.alloc (.cells #[.slice a0 m.rooms.length p0,.slice a1 m.guilds.length p1,.slice a2 m.smiths.length p2,.slice a3 m.desks.length p3,.slice a4 m.paces.length p4,.int .i64 m.now] 32)) 32 #[.slice none 0 0,.slice none 0 0,.slice none 0 0,.slice none 0 0,.slice none 0 0,.int .i64 0]
  rw [World.size_alloc] at k
  exact k)
 have BB:Hid (Below w.heap.size w ((w.alloc (.cells #[.slice a0 m.rooms.length p0,.slice a1 m.guilds.length p1,.slice a2 m.smiths.length p2,.slice a3 m.desks.length p3,.slice a4 m.paces.length p4,.int .i64 m.now] 32)).alloc (.cells #[.slice none 0 0,.slice none 0 0,.slice none 0 0,.slice none 0 0,.slice none 0 0,.int .i64 0] 32))):=Z9 (((Below.refl _ _).alloc (Nat.le_refl _) _).alloc (by simp) _)
 have Hv:=Z9 ((uh Hv0).below (uh BB))
 generalize (w.alloc (.cells #[.slice a0 m.rooms.length p0,.slice a1 m.guilds.length p1,.slice a2 m.smiths.length p2,.slice a3 m.desks.length p3,.slice a4 m.paces.length p4,.int .i64 m.now] 32)).alloc (.cells #[.slice none 0 0,.slice none 0 0,.slice none 0 0,.slice none 0 0,.slice none 0 0,.int .i64 0] 32)=w1 at *
 have hlo:=ZW (uh Hok)
 have HLo:=Z9 hlo
 have HFew:=Z9 (Xk hlo)
 clear hlo
 have hWs:w.heap.size+2<=w1.heap.size:=by have:=(uh kr).lt;omega
 refine (ZB (uh Hv) (uh HFew)).mono ?_
 rintro e w2 ⟨y0,y1,y2,y3,y4,oq,rfl,ho,hb⟩
 have k9:=ho.smy
 obtain ⟨b0,q0,b1,q1,b2,q2,b3,q3,b4,q4,rfl,rfl,rfl,rfl,rfl,_,_,_,_,_,_,_,_,_,_⟩:=k9.five
 clear k9
 replace kb:=bl kb hb
 replace kr:=bl kr hb
 replace Hv:=Z9 ((uh Hv).below hb)
 replace BB:=bt BB hb
 have HO:=Z9 (ho.mono hWs)
 have LO:Hid (∀ k,Yy (.slice b0 m.rooms.length q0) (.slice b1 m.guilds.length q1) (.slice b2 m.smiths.length q2) (.slice b3 m.desks.length q3) (.slice b4 m.paces.length q4) oq k->w.heap.size+2<=k/\k<w2.heap.size):=Z9 (fun k e=>(uh HO).own e)
 have hsz9:=hb.size
 clear ho hb
 go_upto_region 2 with fail
 obtain ⟨W2,hW2,hba,ko⟩:=ZD w2 32 (S6 b0 q0 b1 q1 b2 q2 b3 q3 b4 q4 m)
 replace kb:=bl kb hba
 replace kr:=bl kr hba
 replace Hv:=Z9 ((uh Hv).below hba)
 replace HO:=Z9 ((uh HO).below hba)
 replace BB:=bt BB hba
 have hob:w.heap.size+2<=w2.heap.size:=Nat.le_trans hWs hsz9
 clear hba hsz9 hWs
 rw [hW2]
 clear hW2
 generalize w2.heap.size=ob at *
 have hpp:=RA (uh HLo)
 have hpr:=WZ (uh HLo)
 have HSn:=Z9 (uh HLo).sane
 have hp9:=(uh HFew).paces
 obtain ⟨g4,hga,_,hg4w,_,_⟩:=RecAt.view YT (by omega) (uh HO).paces rfl (by omega)
 cases hga
 have hg4o:=(uh LO g4 (.inr (.inr (.inr (.inr (.inr rfl))))))
 have Hpr:=Z9 hpr
 clear hpr hp9
 go_wp2_with fail
 go_loopw [5] (fun i wr=> ∃ k:Nat,k<=m.paces.length/\i= .int .i64 k/\FullSmy (w.heap.size+2) wr (.slice b0 m.rooms.length q0) (.slice b1 m.guilds.length q1) (.slice b2 m.smiths.length q2) (.slice b3 m.desks.length q3) (.slice (some ⟨g4,0,none⟩) m.paces.length q4) (RQ m k) oq/\Two none (some g4) W2 wr) (fun i _=>m.paces.length-(intOf i).toNat)
 case atStart=>exact ⟨0,Nat.zero_le _,rfl,uh HO,Two.refl _ _ _⟩
 case round=>
  obtain ⟨k,hk,rfl,hf1,htw⟩:=hrel
  have hbw:=(uh BB).trans (htw.below (uh BB).size (fun _ e=>by cases e) (fun j e=>by cases e;omega))
  have B1:=Z9 hbw
  have Hv1:=Z9 ((uh Hv0).below hbw)
  have kb1:=Z9 ((uh kb).two htw (by simp) (fun e=>by cases e;omega))
  have ko1:=Z9 ((uh ko).two htw (by simp) (fun e=>by cases e;omega))
  have kr1:=Z9 ((uh kr).two htw (by simp) (fun e=>by cases e;omega))
  have HF1:=Z9 hf1
  have Tw:=Z9 htw
  clear hbw hf1 htw
  by_cases hlt:k<m.paces.length
  ·
   obtain ⟨c0,c1,c2,c3,c4,c5⟩:=(uh kb1).c6
   have x4:=(uh ko1).cell (i:=4) (v:= .slice (some ⟨g4,0,none⟩) m.paces.length q4) rfl
   have hkp1:(k:Int)<(m.paces.length:Int):=by omega
   go_wp2_with fail
   refine ZN (S:=fun w'=>w'.cell? ⟨w.heap.size,0,none⟩=some (.slice a0 m.rooms.length p0)/\w'.cell? ⟨w.heap.size,1,none⟩=some (.slice a1 m.guilds.length p1)/\w'.cell? ⟨w.heap.size,2,none⟩=some (.slice a2 m.smiths.length p2)/\w'.cell? ⟨w.heap.size,3,none⟩=some (.slice a3 m.desks.length p3)/\w'.cell? ⟨w.heap.size,4,none⟩=some (.slice a4 m.paces.length p4)/\w'.cell? ⟨w.heap.size,5,none⟩=some (.int .i64 m.now)/\w'.cell? ⟨ob,4,none⟩=some (.slice (some ⟨g4,0,none⟩) m.paces.length q4)) (by kernel_rfl) (List.cons_ne_nil _ _) (by kernel_rfl) ⟨c0,c1,c2,c3,c4,c5,x4⟩ (fun hHeld=> ?_)
   clear c0 c1 c2 c3 c4 c5 x4
   simp only [List.dropLast_cons_cons,List.dropLast_singleton,List.length_cons,List.length_nil,Nat.zero_add,Nat.reduceAdd]
   (refine tk 0 rfl (by assumption) ?_;(try simp only [Act.put,sA,sZ,sS]))
   (refine tk 1 rfl (by assumption) ?_;(try simp only [Act.put,sA,sZ,sS]))
   (refine tk 2 rfl (by assumption) ?_;(try simp only [Act.put,sA,sZ,sS]))
   (refine tk 3 rfl (by assumption) ?_;(try simp only [Act.put,sA,sZ,sS]))
   (refine tk 4 rfl (by assumption) ?_;(try simp only [Act.put,sA,sZ,sS]))
   refine rd 5 rfl (fun K hK=> ?_)
   go_simp
   refine (OF (r:=k) ((uh Hv1).below (Below.refl _ _).drew) (uh HSn) (by rw [<-uh Hpr];exact hlt)).mono ?_
   rintro e9 w9 ⟨rfl,hb8⟩
   have hb9:Below wr.heap.size wr w9:=(Below.refl wr.heap.size wr).drew.trans hb8
   clear hb8
   have kb9:=(uh kb1).below hb9 (uh kb1).lt
   have ko9:=(uh ko1).below hb9 (uh ko1).lt
   refine hK.out _ _ ⟨kb9.cell (i:=0) rfl,kb9.cell (i:=1) rfl,kb9.cell (i:=2) rfl,kb9.cell (i:=3) rfl,kb9.cell (i:=4) rfl,kb9.cell (i:=5) rfl,ko9.cell (i:=4) rfl⟩ (fun hHeld=> ?_)
   clear hK K kb9 ko9
   (try simp only [Act.put,sA,sZ,sS])
   have HF9:=Z9 ((uh HF1).below hb9)
   have T9:=Z9 ((uh Tw).trans (Two.of_below hb9))
   have hal:m.paces.length=(RQ m k).paces.length:=(S0 m k).2.2.2.2.2.symm
   obtain ⟨_,hga,_,_,hc4,hz4⟩:=RecAt.view YT (by omega) (uh HF9).paces hal (by omega)
   cases hga
   have s0:=hc4 k (by omega) 0 _ rfl
   have f0:=hz4 k
   have hput:=(uh HF9).putP hal (j:=k) (by omega) (UC m k)
   simp only [Nat.add_zero,Nat.mul_one] at s0
   have HP:=Z9 hput
   clear hc4 hz4 hput hb9 hal
   (refine tk 6 rfl (by assumption) ?_;(try simp only [Act.put,sA,sZ,sS]))
   refine wpAnyH_done (by kernel_rfl) ?_ _
   refine ZV rfl rfl ?_
   go_simp
   clear hHeld
   go_wp2_with fail
   go_roundw
   case rel=>exact ⟨k+1,by omega,by go_num,uh HP,(uh T9).trans (Two.of_set _ (.inr rfl) _ _)⟩
   case measure=>simp [intOf];omega
  ·
   obtain rfl:k=m.paces.length:=by omega
   have c4:=(uh kb1).cell (i:=4) (v:= .slice a4 m.paces.length p4) rfl
   have hno:¬ ((m.paces.length:Nat):Int)<(m.paces.length:Int):=by omega
   obtain ⟨e1,e2,e3,e4,e5,e6⟩:=S0 m m.paces.length
   have hfw:=uh HFew
   go_wp2_with fail
   have hofR:∀ k,Yy (.slice b0 m.rooms.length q0) (.slice b1 m.guilds.length q1) (.slice b2 m.smiths.length q2) (.slice b3 m.desks.length q3) (.slice (some ⟨g4,0,none⟩) m.paces.length q4) oq k->k ≠ ob:=fun k e=>by have:=(uh LO k e).2;omega
   refine (Q8 (m:=RQ m m.paces.length) e5 (uh ko1) (uh HF1) (fun e=>hofR _ (.inr (.inr (.inr (.inl e)))) rfl) (fun e=>hofR _ (.inr (.inr (.inr (.inr (.inl e))))) rfl) (by rw [e3];have:=hfw.smiths;omega) (by rw [e4];exact hfw.desks)).mono ?_
   rintro e w3 ⟨rfl,hf9,ht9⟩
   replace kr:=Z9 ((uh kr1).two ht9 (fun e=>by have:=(uh LO _ (.inr (.inr (.inr (.inl e))))).1;omega) (fun e=>by have:=(uh LO _ (.inr (.inr (.inr (.inr (.inl e)))))).1;omega))
   replace BB:=Z9 ((uh B1).trans (ht9.below (uh B1).size (fun k e=>by have:=(uh LO k (.inr (.inr (.inr (.inl e))))).1;omega) (fun k e=>by have:=(uh LO k (.inr (.inr (.inr (.inr (.inl e)))))).1;omega)))
   have hnow:(ZP (RQ m m.paces.length)).now=m.now:=(ZL _ _).2.2.2.1.trans e5
   have HF9:=Z9 hf9
   have Hn9:=Z9 hnow
   clear hf9 ht9 hofR e1 e2 e3 e4 e5 e6 hnow c4
   obtain ⟨o0,o1,o2,o3,o4,o5⟩:=(uh kr).c6
   obtain ⟨f0,f1,f2,f3,f4,f5⟩:=(uh kr).f6
   go_wp2_with fail
   refine bodyPost_ret (v:= .tuple #[.agg #[.slice b0 m.rooms.length q0,.slice b1 m.guilds.length q1,.slice b2 m.smiths.length q2,.slice b3 m.desks.length q3,.slice (some ⟨g4,0,none⟩) m.paces.length q4,.int .i64 m.now],.int .i64 0]) (by simp [results,Tryz.results189,go_sem, *]) rfl ⟨?_,?_⟩
   ·rw [<-uh HX];refine ⟨_,_,_,_,_,oq,by unfold Nb;rw [uh Hn9],?_⟩
    iterate 6 (refine FullSmy.set_off ?_ (fun k e=>by have:=(uh LO k e).1;omega) _ _)
    exact (uh HF9).mono (by omega)
   ·iterate 6 (refine Below.setCell ?_ (by show _<=w.heap.size+1;omega) _)
    exact uh BB
end Go.Proofs.YthbbahagpmdooaaGreat
