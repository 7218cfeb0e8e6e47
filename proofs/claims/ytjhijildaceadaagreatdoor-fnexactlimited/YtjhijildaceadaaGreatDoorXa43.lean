/- Part 43 of what the proof rests on. No condition but those that a theorem names. -/
import Derived.Test.YtjhijildaceadaaGreatDoorXa37
set_option maxHeartbeats 8000000
set_option maxRecDepth 100000
namespace Go.Proofs.YtjhijildaceadaaGreatDoor
open Go.ChangeShapes Go.WideShapes Go.ChangeAt Go.RowKit Go.Sort
set_option linter.unusedVariables false
set_option linter.unusedSimpArgs false
theorem Pn {w:World} {v0 v1 v2 v3 v4:Value} {m:Z4} (who:Int) (lo:Int) (hi:Int) (h:Smy w v0 v1 v2 v3 v4 m) :
  Calls Tryz.prog 23 #[.agg #[v0,v1,v2,v3,v4,.int .i64 m.now],.int .i64 who,.int .i64 lo,.int .i64 hi] w fun e w'=>Uz w.heap.size (Yj m who lo hi).1 (Yj m who lo hi).2 e w'/\Below w.heap.size w w':=by
 obtain ⟨X,hX⟩:∃ x,Yj m who lo hi=x:=⟨_,rfl⟩
 rw [hX]
 have HX:=Z9 hX
 clear hX
 have Hv0:=Z9 h
 obtain ⟨a0,p0,a1,p1,a2,p2,a3,p3,a4,p4,rfl,rfl,rfl,rfl,rfl,_,_,_,_,_,_,_,_,_,_⟩:=h.five
 clear h
 obtain ⟨ok,hok⟩:∃ q,Zo m=q:=⟨_,rfl⟩
 have Hok:=Z9 hok
 clear hok
 go_enter Tryz.func23,Tryz.ntmps23
 go_wp2_with fail
 obtain ⟨W,hW,kb,kr,BB⟩:=Xu w 32 (S6 a0 p0 a1 p1 a2 p2 a3 p3 a4 p4 m) 32 E6
 have Hv:=Z9 ((uh Hv0).below (uh BB))
 clear Hv0
 rw [hW]
 clear hW
 refine (OJ (uh Hok) (uh Hv)).mono ?_
 rintro e w1 ⟨rfl,hb⟩
 replace kb:=bl kb hb
 replace kr:=bl kr hb
 replace Hv:=Z9 ((uh Hv).below hb)
 replace BB:=bt BB hb
 clear hb
 cases ok
 ·
  obtain ⟨c0,c1,c2,c3,c4,c5⟩:=(uh kb).c6
  go_wp2_with fail
  clear c0 c1 c2 c3 c4 c5
  refine (UW (uh Hv)).mono ?_
  rintro e w2 ⟨rfl,hb⟩
  replace kb:=bl kb hb
  replace kr:=bl kr hb
  replace Hv:=Z9 ((uh Hv).below hb)
  replace BB:=bt BB hb
  clear hb
  obtain ⟨o0,o1,o2,o3,o4,o5⟩:=(uh kr).c6
  obtain ⟨f0,f1,f2,f3,f4,f5⟩:=(uh kr).f6
  go_wp2_with fail
  have hX0:X=(WV,3):=by rw [<-uh HX];unfold Yj;rw [uh Hok];rfl
  refine bodyPost_ret (v:= .tuple #[.agg #[.slice none 0 0,.slice none 0 0,.slice none 0 0,.slice none 0 0,.slice none 0 0,.int .i64 0],.int .i64 3]) (by simp [results,Tryz.results23,go_sem, *]) rfl ⟨?_,?_⟩
  ·rw [hX0];exact ⟨_,_,_,_,_,[],rfl,VT _ _⟩
  ·iterate 6 (refine Below.setCell ?_ (by show _<=w.heap.size+1;omega) _)
   exact uh BB
 have hlo:=Ze (uh Hok)
 have HLo:=Z9 hlo
 have HFew:=Z9 (TH hlo)
 clear hlo
 obtain ⟨c0,c1,c2,c3,c4,c5⟩:=(uh kb).c6
 go_wp2_with fail
 clear c0 c1 c2 c3 c4 c5
 have hWs:w.heap.size+2<=w1.heap.size:=by have:=(uh kr).lt;omega
 refine (Xk (uh Hv) (uh HFew)).mono ?_
 rintro e w2 ⟨y0,y1,y2,y3,y4,oq,rfl,ho,hb⟩
 have k9:=ho.smy
 obtain ⟨b0,q0,b1,q1,b2,q2,b3,q3,b4,q4,rfl,rfl,rfl,rfl,rfl,_,_,_,_,_,_,_,_,_,_⟩:=k9.five
 clear k9
 replace kb:=bl kb hb
 replace kr:=bl kr hb
 replace Hv:=Z9 ((uh Hv).below hb)
 replace BB:=bt BB hb
 have HO:=Z9 (ho.mono hWs)
 have LO:Hid (∀ k,XW (.slice b0 m.rooms.length q0) (.slice b1 m.guilds.length q1) (.slice b2 m.smiths.length q2) (.slice b3 m.desks.length q3) (.slice b4 m.paces.length q4) oq k->w.heap.size+2<=k/\k<w2.heap.size):=Z9 (fun k e=>(uh HO).own e)
 have hsz9:=hb.size
 clear ho hb
 go_upto_region 4 with fail
 obtain ⟨W2,hW2,hba,ko⟩:=WH w2 32 (S6 b0 q0 b1 q1 b2 q2 b3 q3 b4 q4 m)
 replace kb:=bl kb hba
 replace kr:=bl kr hba
 replace Hv:=Z9 ((uh Hv).below hba)
 replace HO:=Z9 ((uh HO).below hba)
 replace BB:=bt BB hba
 have hob:w.heap.size+2<=w2.heap.size:=Nat.le_trans hWs hsz9
 clear hba hsz9 hWs
 rw [hW2]
 clear hW2
 generalize w2.heap.size=ob at *
 obtain ⟨qw,hqw⟩:∃ q,V7 m who=q:=⟨_,rfl⟩
 have Hqw:=Z9 hqw
 clear hqw
 obtain ⟨c0,c1,c2,c3,c4,c5⟩:=(uh kb).c6
 go_wp2_with fail
 clear c0 c1 c2 c3 c4 c5
 refine (NX (uh Hqw) (uh Hv)).mono ?_
 rintro e w3 ⟨rfl,hb⟩
 replace kb:=bl kb hb
 replace kr:=bl kr hb
 replace Hv:=Z9 ((uh Hv).below hb)
 replace HO:=Z9 ((uh HO).below hb)
 replace ko:=bl ko hb
 replace BB:=bt BB hb
 clear hb
 cases qw
 ·
  obtain ⟨x0,x1,x2,x3,x4,x5⟩:=(uh ko).c6
  obtain ⟨o0,o1,o2,o3,o4,o5⟩:=(uh kr).c6
  obtain ⟨f0,f1,f2,f3,f4,f5⟩:=(uh kr).f6
  go_wp2_with fail
  have hX0:X=(m,1):=by rw [<-uh HX];unfold Yj;rw [uh Hok,uh Hqw];rfl
  refine bodyPost_ret (v:= .tuple #[.agg #[.slice b0 m.rooms.length q0,.slice b1 m.guilds.length q1,.slice b2 m.smiths.length q2,.slice b3 m.desks.length q3,.slice b4 m.paces.length q4,.int .i64 m.now],.int .i64 1]) (by simp [results,Tryz.results23,go_sem, *]) rfl ⟨?_,?_⟩
  ·rw [hX0];refine ⟨_,_,_,_,_,oq,rfl,?_⟩
   iterate 6 (refine FullSmy.set_off ?_ (fun k e=>by have:=(uh LO k e).1;omega) _ _)
   exact (uh HO).mono (by omega)
  ·iterate 6 (refine Below.setCell ?_ (by show _<=w.heap.size+1;omega) _)
   exact uh BB
 obtain ⟨k,rfl,hk,hs0⟩:=WI (uh Hqw)
 have hk1:(k:Int)<(m.smiths.length:Int):=by omega
 obtain ⟨pb,hpb⟩:∃ q,YU lo hi=q:=⟨_,rfl⟩
 have Hpb:=Z9 hpb
 clear hpb
 go_wp2_with fail
 refine (Y6 lo hi _).mono ?_
 rw [uh Hpb]
 rintro e w9 ⟨rfl,hw9⟩
 subst w9
 cases pb
 ·
  obtain ⟨x0,x1,x2,x3,x4,x5⟩:=(uh ko).c6
  obtain ⟨o0,o1,o2,o3,o4,o5⟩:=(uh kr).c6
  obtain ⟨f0,f1,f2,f3,f4,f5⟩:=(uh kr).f6
  go_wp2_with fail
  have hX0:X=(m,3):=by rw [<-uh HX];unfold Yj;rw [uh Hok,uh Hqw];simp only [if_true];rw [uh Hpb];rfl
  refine bodyPost_ret (v:= .tuple #[.agg #[.slice b0 m.rooms.length q0,.slice b1 m.guilds.length q1,.slice b2 m.smiths.length q2,.slice b3 m.desks.length q3,.slice b4 m.paces.length q4,.int .i64 m.now],.int .i64 3]) (by simp [results,Tryz.results23,go_sem, *]) rfl ⟨?_,?_⟩
  ·rw [hX0];refine ⟨_,_,_,_,_,oq,rfl,?_⟩
   iterate 6 (refine FullSmy.set_off ?_ (fun k e=>by have:=(uh LO k e).1;omega) _ _)
   exact (uh HO).mono (by omega)
  ·iterate 6 (refine Below.setCell ?_ (by show _<=w.heap.size+1;omega) _)
   exact uh BB
 obtain ⟨g2,hga,_,_,hc2,hz2⟩:=RecAt.view Z1 (by omega) (uh HO).smiths rfl (by omega)
 cases hga
 have hg2o:=(uh LO g2 (.inr (.inr (.inr (.inl rfl)))))
 have x2:=(uh ko).cell (i:=2) (v:= .slice (some ⟨g2,0,none⟩) m.smiths.length q2) rfl
 have s0:=hc2 k hk 5 _ rfl
 have f0:=hz2 (k*11+5)
 have hp0:=(uh HO).putS rfl (j:=k) (i:=5) hk (by omega) (.int .i64 lo) (((Z8 m.smiths k).1,(Z8 m.smiths k).2.1,(Z8 m.smiths k).2.2.1,(Z8 m.smiths k).2.2.2.1,(Z8 m.smiths k).2.2.2.2.1,lo,(Z8 m.smiths k).2.2.2.2.2.2)) rfl
 have hl1:(m.smiths.set k (((Z8 m.smiths k).1,(Z8 m.smiths k).2.1,(Z8 m.smiths k).2.2.1,(Z8 m.smiths k).2.2.2.1,(Z8 m.smiths k).2.2.2.2.1,lo,(Z8 m.smiths k).2.2.2.2.2.2))).length=m.smiths.length:=by simp
 have hr1:Z8 (m.smiths.set k (((Z8 m.smiths k).1,(Z8 m.smiths k).2.1,(Z8 m.smiths k).2.2.1,(Z8 m.smiths k).2.2.2.1,(Z8 m.smiths k).2.2.2.2.1,lo,(Z8 m.smiths k).2.2.2.2.2.2))) k=(((Z8 m.smiths k).1,(Z8 m.smiths k).2.1,(Z8 m.smiths k).2.2.1,(Z8 m.smiths k).2.2.2.1,(Z8 m.smiths k).2.2.2.2.1,lo,(Z8 m.smiths k).2.2.2.2.2.2)):=by rw [ZV hk,if_pos rfl]
 have hp1:=hp0.putS hl1.symm (j:=k) (i:=6) (by show k<(m.smiths.set k _).length;omega) (by omega) (.int .i64 hi) (Jl (Z8 m.smiths k) lo hi) (by show ZR (Jl (Z8 m.smiths k) lo hi)=(ZR (Z8 (m.smiths.set k (((Z8 m.smiths k).1,(Z8 m.smiths k).2.1,(Z8 m.smiths k).2.2.1,(Z8 m.smiths k).2.2.2.1,(Z8 m.smiths k).2.2.2.2.1,lo,(Z8 m.smiths k).2.2.2.2.2.2))) k)).set 6 _;rw [hr1];rfl)
 obtain ⟨_,hga,_,_,hd1,hy1⟩:=RecAt.view Z1 (by omega) hp0.smiths hl1.symm (by show 0<(m.smiths.set k _).length;omega)
 cases hga
 have s1:=hd1 k (by show k<(m.smiths.set k _).length;omega) 6 _ rfl
 have f1:=hy1 (k*11+6)
 simp only [List.set_set] at hp1
 have x2':=((uh ko).other (a:=⟨g2,k*11+5,none⟩) (by show ob ≠ g2;omega) (.int .i64 lo)).cell (i:=2) (v:= .slice (some ⟨g2,0,none⟩) m.smiths.length q2) rfl
 have HP:=Z9 hp1
 clear hc2 hz2 HO hp0 hp1
 go_upto_region 10 with fail
 clear s0 s1 f0 f1 x2
 replace ko:Hid (Blk (((w3).setCell ⟨g2,k*11+5,none⟩ (.int .i64 lo)).setCell ⟨g2,k*11+6,none⟩ (.int .i64 hi)) ob 32 #[.slice b0 m.rooms.length q0,.slice b1 m.guilds.length q1,.slice (some ⟨g2,0,none⟩) m.smiths.length q2,.slice b3 m.desks.length q3,.slice b4 m.paces.length q4,.int .i64 m.now]):=Z9 (((uh ko).other (a:=⟨g2,k*11+5,none⟩) (by show ob ≠ g2;omega) (.int .i64 lo)).other (a:=⟨g2,k*11+6,none⟩) (by show ob ≠ g2;omega) (.int .i64 hi))
 replace kr:Hid (Blk (((w3).setCell ⟨g2,k*11+5,none⟩ (.int .i64 lo)).setCell ⟨g2,k*11+6,none⟩ (.int .i64 hi)) (w.heap.size+1) 32 #[.slice none 0 0,.slice none 0 0,.slice none 0 0,.slice none 0 0,.slice none 0 0,.int .i64 0]):=Z9 (((uh kr).other (a:=⟨g2,k*11+5,none⟩) (by show w.heap.size+1 ≠ g2;omega) (.int .i64 lo)).other (a:=⟨g2,k*11+6,none⟩) (by show w.heap.size+1 ≠ g2;omega) (.int .i64 hi))
 replace BB:Hid (Below w.heap.size w (((w3).setCell ⟨g2,k*11+5,none⟩ (.int .i64 lo)).setCell ⟨g2,k*11+6,none⟩ (.int .i64 hi))):=Z9 (((uh BB).setCell (p:=⟨g2,k*11+5,none⟩) (by show w.heap.size<=g2;omega) (.int .i64 lo)).setCell (p:=⟨g2,k*11+6,none⟩) (by show w.heap.size<=g2;omega) (.int .i64 hi))
 clear kb Hv
 generalize ((w3).setCell ⟨g2,k*11+5,none⟩ (.int .i64 lo)).setCell ⟨g2,k*11+6,none⟩ (.int .i64 hi)=W3 at *
 have hfw:=uh HFew
 go_wp2_with fail
 have hofR:∀ k,XW (.slice b0 m.rooms.length q0) (.slice b1 m.guilds.length q1) (.slice (some ⟨g2,0,none⟩) m.smiths.length q2) (.slice b3 m.desks.length q3) (.slice b4 m.paces.length q4) oq k->k ≠ ob:=fun k e=>by have:=(uh LO k e).2;omega
 refine (Xl (m:=setS m k (Jl (Z8 m.smiths k) lo hi)) (uh ko) (uh HP) (fun e=>hofR _ (.inr (.inr (.inr (.inl e)))) rfl) (fun e=>hofR _ (.inr (.inr (.inr (.inr (.inl e))))) rfl) (by show (m.smiths.set k _).length<=800;have:=hfw.smiths;simp;omega) hfw.desks).mono ?_
 rintro e w4 ⟨rfl,hf9,ht9⟩
 replace kr:=Z9 ((uh kr).two ht9 (fun e=>by have:=(uh LO _ (.inr (.inr (.inr (.inl e))))).1;omega) (fun e=>by have:=(uh LO _ (.inr (.inr (.inr (.inr (.inl e)))))).1;omega))
 replace BB:=Z9 ((uh BB).trans (ht9.below (uh BB).size (fun k e=>by have:=(uh LO k (.inr (.inr (.inr (.inl e))))).1;omega) (fun k e=>by have:=(uh LO k (.inr (.inr (.inr (.inr (.inl e)))))).1;omega)))
 have HF9:=Z9 hf9
 clear hf9 ht9 hofR
 obtain ⟨o0,o1,o2,o3,o4,o5⟩:=(uh kr).c6
 obtain ⟨f0,f1,f2,f3,f4,f5⟩:=(uh kr).f6
 go_wp2_with fail
 have hX0:X=(ZL (setS m k (Jl (Z8 m.smiths k) lo hi)),0):=by rw [<-uh HX];unfold Yj;rw [uh Hok,uh Hqw];simp only [if_true,Int.toNat_natCast];rw [uh Hpb];rfl
 have hnow:(ZL (setS m k (Jl (Z8 m.smiths k) lo hi))).now=m.now:=(ZA _ _).2.2.2.1
 refine bodyPost_ret (v:= .tuple #[.agg #[.slice b0 m.rooms.length q0,.slice b1 m.guilds.length q1,.slice (some ⟨g2,0,none⟩) m.smiths.length q2,.slice b3 m.desks.length q3,.slice b4 m.paces.length q4,.int .i64 m.now],.int .i64 0]) (by simp [results,Tryz.results23,go_sem,setS,Zt, *]) rfl ⟨?_,?_⟩
 ·rw [hX0];refine ⟨_,_,_,_,_,oq,by rw [hnow],?_⟩
  iterate 6 (refine FullSmy.set_off ?_ (fun k e=>by have:=(uh LO k e).1;omega) _ _)
  exact (uh HF9).mono (by omega)
 ·iterate 6 (refine Below.setCell ?_ (by show _<=w.heap.size+1;omega) _)
  exact uh BB
theorem To {q:Int->Addr} (hS:(∀ (w:World) (v0 v1 v2 v3 v4:Value) (m:Z4) (who:Int) (low:Int) (high:Int),Smy w v0 v1 v2 v3 v4 m->Calls Tryz.prog 23 #[.agg #[v0,v1,v2,v3,v4,.int .i64 m.now],.int .i64 who,.int .i64 low,.int .i64 high] w fun e w'=>Uz w.heap.size (Yj m who low high).1 (Yj m who low high).2 e w'/\Below w.heap.size w w')) (hI:(∀ (w:World) (v0 v1 v2 v3 v4:Value) (m:Z4) (who:Int) (low:Int) (high:Int),Errs w q->Smy w v0 v1 v2 v3 v4 m->Calls Tryz.prog 19 #[.agg #[v0,v1,v2,v3,v4,.int .i64 m.now],.int .i64 who,.int .i64 low,.int .i64 high] w fun e w'=>Uz w.heap.size (Yj m who low high).1 (Yj m who low high).2 e w'/\Below w.heap.size w w')) (hlen:∀ (m:Z4) (who:Int) (low:Int) (high:Int),YT (Yj m who low high).1) (v0 v1 v2 v3 v4:Value) (m:Z4) (who:Int) (low:Int) (high:Int) (w:World) (her:Errs w q) (h:Smy w v0 v1 v2 v3 v4 m) :
  Calls Tryz.prog 10 #[.agg #[v0,v1,v2,v3,v4,.int .i64 m.now],.int .i64 who,.int .i64 low,.int .i64 high] w fun e w'=>e= .returned (.bool true)/\Below w.heap.size w w':=by
 have HEr:=Z9 her
 clear her
 have HS:=Z9 hS
 have HI:=Z9 hI
 clear hS hI
 have Hv:=Z9 h
 obtain ⟨a0,p0,a1,p1,a2,p2,a3,p3,a4,p4,rfl,rfl,rfl,rfl,rfl,_,_,_,_,_,_,_,_,_,_⟩:=h.five
 clear h
 have hLs:=Z9 (hlen m who low high)
 have HS1:=Z9 (fun W u0 u1 u2 u3 u4=>uh HS W u0 u1 u2 u3 u4 m who low high)
 have HI1:=Z9 (fun W u0 u1 u2 u3 u4=>uh HI W u0 u1 u2 u3 u4 m who low high)
 clear HS HI hlen
 obtain ⟨⟨M,cd⟩,hM⟩:∃ x,Yj m who low high=x:=⟨_,rfl⟩
 rw [hM] at hLs HS1 HI1
 simp only at hLs HS1 HI1
 clear hM
 go_enter Tryz.func10,Tryz.ntmps10
 go_wp2_with fail
 refine (Wn ((uh Hv).alloc _)).mono ?_
 rintro e w1 ⟨x,rfl,hx,hb⟩
 have ka:Hid (Blk w1 w.heap.size 61 #[.slice a0 m.rooms.length p0,.slice a1 m.guilds.length p1,.slice a2 m.smiths.length p2,.slice a3 m.desks.length p3,.slice a4 m.paces.length p4,.int .i64 m.now]):=Z9 ((Blk.new w _ _).below hb (by simp))
 have BB:Hid (Below w.heap.size w w1):=Z9 (((Below.refl _ _).alloc (Nat.le_refl _) _).trans (hb.mono (by simp)))
 have Hx:=Z9 hx
 clear hx hb
 by_cases hx0:x<0
 ·go_wp2_with fail
  go_ret
  exact ⟨rfl,uh BB⟩
 have Hs:=Z9 (uh Hx (by omega))
 have HsM:=hLs
 clear Hx hLs
 obtain ⟨c0,c1,c2,c3,c4,c5⟩:=(uh ka).c6
 go_wp2_with fail
 refine (Zw ((uh Hv).below (uh BB)) (uh Hs)).mono ?_
 rintro e w2 ⟨u0,u1,u2,u3,u4,rfl,ho,hb⟩
 clear c0 c1 c2 c3 c4 c5
 have k2:=ho.smy
 obtain ⟨b0,q0,b1,q1,b2,q2,b3,q3,b4,q4,rfl,rfl,rfl,rfl,rfl,_,_,_,_,_,_,_,_,_,_⟩:=k2.five
 have K2:=Z9 k2
 clear k2 ho
 replace ka:=bl ka hb
 replace BB:=bt BB hb
 have hw2:w.heap.size<w2.heap.size:=(uh ka).lt
 clear hb
 go_wp2_with fail
 refine (uh HS1 _ _ _ _ _ _ (uh K2)).mono ?_
 rintro e w3 ⟨⟨y0,y1,y2,y3,y4,uq,rfl,ho⟩,hb⟩
 have k9:=ho.smy
 obtain ⟨ua0,uc0,ua1,uc1,ua2,uc2,ua3,uc3,ua4,uc4,rfl,rfl,rfl,rfl,rfl,_,_,_,_,_,_,_,_,_,_⟩:=k9.five
 clear k9 K2
 replace ka:=bl ka hb
 replace BB:=bt BB hb
 have HU:=Z9 ho
 have LU:Hid (∀ k,XW (.slice ua0 M.rooms.length uc0) (.slice ua1 M.guilds.length uc1) (.slice ua2 M.smiths.length uc2) (.slice ua3 M.desks.length uc3) (.slice ua4 M.paces.length uc4) uq k->w2.heap.size<=k/\k<w3.heap.size):=Z9 (fun k e=>ho.own e)
 have hw3:w.heap.size<w3.heap.size:=(uh ka).lt
 clear ho hb
 go_upto_region 6 with fail
 have hba:Below w3.heap.size w3 (w3.alloc (.cells #[.slice ua0 M.rooms.length uc0,.slice ua1 M.guilds.length uc1,.slice ua2 M.smiths.length uc2,.slice ua3 M.desks.length uc3,.slice ua4 M.paces.length uc4,.int .i64 M.now] 32)):=(Below.refl _ _).alloc (Nat.le_refl _) _
 replace ka:=bl ka hba
 replace HU:=Z9 ((uh HU).below hba)
 replace BB:=bt BB hba
 have ku:Hid (Blk (w3.alloc (.cells #[.slice ua0 M.rooms.length uc0,.slice ua1 M.guilds.length uc1,.slice ua2 M.smiths.length uc2,.slice ua3 M.desks.length uc3,.slice ua4 M.paces.length uc4,.int .i64 M.now] 32)) w3.heap.size 32 #[.slice ua0 M.rooms.length uc0,.slice ua1 M.guilds.length uc1,.slice ua2 M.smiths.length uc2,.slice ua3 M.desks.length uc3,.slice ua4 M.paces.length uc4,.int .i64 M.now]):=Z9 (Blk.new _ _ _)
 have hsz_W3:w3.heap.size+1<=(w3.alloc (.cells #[.slice ua0 M.rooms.length uc0,.slice ua1 M.guilds.length uc1,.slice ua2 M.smiths.length uc2,.slice ua3 M.desks.length uc3,.slice ua4 M.paces.length uc4,.int .i64 M.now] 32)).heap.size:=by simp
 clear hba
 generalize w3.alloc (.cells #[.slice ua0 M.rooms.length uc0,.slice ua1 M.guilds.length uc1,.slice ua2 M.smiths.length uc2,.slice ua3 M.desks.length uc3,.slice ua4 M.paces.length uc4,.int .i64 M.now] 32)=W3 at *
 generalize w3.heap.size=ub at *
 obtain ⟨c0,c1,c2,c3,c4,c5⟩:=(uh ka).c6
 go_wp2_with fail
 clear c0 c1 c2 c3 c4 c5
 refine (WN ((uh Hv).below (uh BB)) (uh Hs)).mono ?_
 rintro e w4 ⟨z0,z1,z2,z3,z4,xq,rfl,ho,hb⟩
 have k4:=ho.smy
 obtain ⟨d0,r0,d1,r1,d2,r2,d3,r3,d4,r4,rfl,rfl,rfl,rfl,rfl,_,_,_,_,_,_,_,_,_,_⟩:=k4.five
 clear k4
 replace ka:=bl ka hb
 replace HU:=Z9 ((uh HU).below hb)
 replace ku:=bl ku hb
 replace BB:=bt BB hb
 have HX:=Z9 ho
 have LX:Hid (∀ k,XW (.slice d0 m.rooms.length r0) (.slice d1 m.guilds.length r1) (.slice d2 m.smiths.length r2) (.slice d3 m.desks.length r3) (.slice d4 m.paces.length r4) xq k->ub<k/\k<w4.heap.size):=Z9 (fun k e=>⟨Nat.lt_of_lt_of_le (Nat.lt_of_succ_le hsz_W3) (ho.own e).1,(ho.own e).2⟩)
 have hw4:ub+1<=w4.heap.size:=Nat.le_trans hsz_W3 hb.size
 clear ho hb hsz_W3
 go_upto_region 7 with fail
 have hba:Below w4.heap.size w4 (w4.alloc (.cells #[.slice d0 m.rooms.length r0,.slice d1 m.guilds.length r1,.slice d2 m.smiths.length r2,.slice d3 m.desks.length r3,.slice d4 m.paces.length r4,.int .i64 m.now] 32)):=(Below.refl _ _).alloc (Nat.le_refl _) _
 replace ka:=bl ka hba
 replace HU:=Z9 ((uh HU).below hba)
 replace ku:=bl ku hba
 replace HX:=Z9 ((uh HX).below hba)
 replace BB:=bt BB hba
 have kx:Hid (Blk (w4.alloc (.cells #[.slice d0 m.rooms.length r0,.slice d1 m.guilds.length r1,.slice d2 m.smiths.length r2,.slice d3 m.desks.length r3,.slice d4 m.paces.length r4,.int .i64 m.now] 32)) w4.heap.size 32 #[.slice d0 m.rooms.length r0,.slice d1 m.guilds.length r1,.slice d2 m.smiths.length r2,.slice d3 m.desks.length r3,.slice d4 m.paces.length r4,.int .i64 m.now]):=Z9 (Blk.new _ _ _)
 have hsz_W4:w4.heap.size+1<=(w4.alloc (.cells #[.slice d0 m.rooms.length r0,.slice d1 m.guilds.length r1,.slice d2 m.smiths.length r2,.slice d3 m.desks.length r3,.slice d4 m.paces.length r4,.int .i64 m.now] 32)).heap.size:=by simp
 clear hba
 generalize w4.alloc (.cells #[.slice d0 m.rooms.length r0,.slice d1 m.guilds.length r1,.slice d2 m.smiths.length r2,.slice d3 m.desks.length r3,.slice d4 m.paces.length r4,.int .i64 m.now] 32)=W4 at *
 generalize w4.heap.size=xb at *
 obtain ⟨x0,x1,x2,x3,x4,x5⟩:=(uh kx).c6
 go_wp2_with fail
 clear x0 x1 x2 x3 x4 x5
 refine (uh HI1 _ _ _ _ _ _ ((uh HEr).below (uh BB)) (uh HX).smy).mono ?_
 rintro e w5 ⟨⟨y0,y1,y2,y3,y4,gq,rfl,ho⟩,hb⟩
 have k9:=ho.smy
 obtain ⟨ga0,gc0,ga1,gc1,ga2,gc2,ga3,gc3,ga4,gc4,rfl,rfl,rfl,rfl,rfl,_,_,_,_,_,_,_,_,_,_⟩:=k9.five
 clear k9
 replace ka:=bl ka hb
 replace HU:=Z9 ((uh HU).below hb)
 replace ku:=bl ku hb
 replace HX:=Z9 ((uh HX).below hb)
 replace kx:=bl kx hb
 replace BB:=bt BB hb
 have HG:=Z9 ho
 have LG:Hid (∀ k,XW (.slice ga0 M.rooms.length gc0) (.slice ga1 M.guilds.length gc1) (.slice ga2 M.smiths.length gc2) (.slice ga3 M.desks.length gc3) (.slice ga4 M.paces.length gc4) gq k->xb<k/\k<w5.heap.size):=Z9 (fun k e=>⟨Nat.lt_of_lt_of_le (Nat.lt_of_succ_le hsz_W4) (ho.own e).1,(ho.own e).2⟩)
 have hw5:xb+1<=w5.heap.size:=Nat.le_trans hsz_W4 hb.size
 clear ho hb hsz_W4
 obtain ⟨x0,x1,x2,x3,x4,x5⟩:=(uh ku).c6
 go_upto_region 8 with fail
 clear x0 x1 x2 x3 x4 x5
 have hba:Below w5.heap.size w5 (w5.alloc (.cells #[.slice ga0 M.rooms.length gc0,.slice ga1 M.guilds.length gc1,.slice ga2 M.smiths.length gc2,.slice ga3 M.desks.length gc3,.slice ga4 M.paces.length gc4,.int .i64 M.now] 32)):=(Below.refl _ _).alloc (Nat.le_refl _) _
 replace ka:=bl ka hba
 replace HU:=Z9 ((uh HU).below hba)
 replace ku:=bl ku hba
 replace HX:=Z9 ((uh HX).below hba)
 replace kx:=bl kx hba
 replace HG:=Z9 ((uh HG).below hba)
 replace BB:=bt BB hba
 have kg:Hid (Blk (w5.alloc (.cells #[.slice ga0 M.rooms.length gc0,.slice ga1 M.guilds.length gc1,.slice ga2 M.smiths.length gc2,.slice ga3 M.desks.length gc3,.slice ga4 M.paces.length gc4,.int .i64 M.now] 32)) w5.heap.size 32 #[.slice ga0 M.rooms.length gc0,.slice ga1 M.guilds.length gc1,.slice ga2 M.smiths.length gc2,.slice ga3 M.desks.length gc3,.slice ga4 M.paces.length gc4,.int .i64 M.now]):=Z9 (Blk.new _ _ _)
 have hsz_W5:w5.heap.size+1<=(w5.alloc (.cells #[.slice ga0 M.rooms.length gc0,.slice ga1 M.guilds.length gc1,.slice ga2 M.smiths.length gc2,.slice ga3 M.desks.length gc3,.slice ga4 M.paces.length gc4,.int .i64 M.now] 32)).heap.size:=by simp
 clear hba
 generalize w5.alloc (.cells #[.slice ga0 M.rooms.length gc0,.slice ga1 M.guilds.length gc1,.slice ga2 M.smiths.length gc2,.slice ga3 M.desks.length gc3,.slice ga4 M.paces.length gc4,.int .i64 M.now] 32)=W5 at *
 generalize w5.heap.size=gb at *
 clear hsz_W5
 obtain ⟨x0,x1,x2,x3,x4,x5⟩:=(uh ku).c6
 obtain ⟨y0,y1,y2,y3,y4,y5⟩:=(uh kg).c6
 go_wp2_with fail
 clear x0 x1 x2 x3 x4 x5 y0 y1 y2 y3 y4 y5
 refine (ZK (uh HG).smy (uh HU).smy).mono ?_
 rintro e w6 ⟨rfl,hb⟩
 replace ka:=bl ka hb
 replace HU:=Z9 ((uh HU).below hb)
 replace ku:=bl ku hb
 replace HX:=Z9 ((uh HX).below hb)
 replace kx:=bl kx hb
 replace HG:=Z9 ((uh HG).below hb)
 replace kg:=bl kg hb
 replace BB:=bt BB hb
 clear hb
 obtain ⟨c0,c1,c2,c3,c4,c5⟩:=(uh ka).c6
 obtain ⟨x0,x1,x2,x3,x4,x5⟩:=(uh kx).c6
 have V6:=Z9 ((uh Hv).below (uh BB))
 go_upto_region 10 with fail
 go_cut [57] (fun s wc=>s= .bool false/\Below w6.heap.size w6 wc)
 case first=>
  go_region_with (first
   | (go_at_call 50;refine (Zw (m:=m) ?_ (uh Hs)).mono ?_;exact (uh V6).below (Below.refl _ _).drew;rintro e w7 ⟨t0,t1,t2,t3,t4,rfl,ho,hb⟩;have k7:=ho.smy;obtain ⟨f0,j0,rfl,_,_⟩:=IsRooms.shape k7.rooms;obtain ⟨f1,j1,rfl,_,_⟩:=IsRec.shape k7.guilds;obtain ⟨f2,j2,rfl,_,_⟩:=IsRec.shape k7.smiths;obtain ⟨f3,j3,rfl,_,_⟩:=IsRec.shape k7.desks;obtain ⟨f4,j4,rfl,_,_⟩:=IsRec.shape k7.paces;have K7:=Z9 k7;have Hb7:Hid (Below w6.heap.size w6 w7):=Z9 ⟨hb.os,hb.tape,hb.output,hb.size,hb.block⟩;have kx7:=(uh kx).below (uh Hb7) (uh kx).lt;have y0:=kx7.cell (i:=0) (v:= .slice d0 m.rooms.length r0) rfl;have y1:=kx7.cell (i:=1) (v:= .slice d1 m.guilds.length r1) rfl;have y2:=kx7.cell (i:=2) (v:= .slice d2 m.smiths.length r2) rfl;have y3:=kx7.cell (i:=3) (v:= .slice d3 m.desks.length r3) rfl;have y4:=kx7.cell (i:=4) (v:= .slice d4 m.paces.length r4) rfl;have y5:=kx7.cell (i:=5) (v:= .int .i64 m.now) rfl;clear k7 ho hb kx7)
   | (go_at_call 51;refine (ZK (m:=m) ?_ ?_).mono ?_;exact ((uh HX).below (uh Hb7)).smy;exact uh K7;rintro e w8 ⟨rfl,hb⟩;have Hb8:=Z9 hb;clear hb))
  all_goals
   go_wp2_with fail
   go_meet
   exact ⟨rfl,(uh Hb7).trans ((uh Hb8).mono (uh Hb7).size)⟩
 case rest=>
  obtain ⟨rfl,hb⟩:=hcut
  obtain ⟨w8,rfl⟩:∃ x,x=wc:=⟨wc,rfl⟩
  clear c0 c1 c2 c3 c4 c5 x0 x1 x2 x3 x4 x5
  replace ka:=bl ka hb
  replace HU:=Z9 ((uh HU).below hb)
  replace ku:=bl ku hb
  replace HX:=Z9 ((uh HX).below hb)
  replace kx:=bl kx hb
  replace HG:=Z9 ((uh HG).below hb)
  replace kg:=bl kg hb
  replace BB:=bt BB hb
  clear hb V6
  obtain ⟨x0,x1,x2,x3,x4,x5⟩:=(uh kx).c6
  go_wp2_with fail
  clear x0 x1 x2 x3 x4 x5
  refine (Za 1 ((uh HX).mono (n₁:=0) (Nat.zero_le _)) (uh Hs) (Nat.zero_le _) (by omega) (by omega)).mono ?_
  rintro e w9 ⟨rfl,_,hon⟩
  have hen:=VM (uh Hs) (uh HX).rooms
  generalize SI 1 m xq=em at *
  have hwle:=(uh BB).size
  replace HU:=Z9 ((uh HU).keep fun k e=>hon.at ((uh HU).own e).2 fun e9=>by have h1:=uh LU k e;have h2:=uh LX k e9;omega)
  replace HG:=Z9 ((uh HG).keep fun k e=>hon.at ((uh HG).own e).2 fun e9=>by have h1:=uh LG k e;have h2:=uh LX k e9;omega)
  replace ku:=Z9 ((uh ku).same (hon.at (uh ku).lt fun e9=>by have h2:=uh LX _ e9;omega))
  replace kg:=Z9 ((uh kg).same (hon.at (uh kg).lt fun e9=>by have h2:=uh LX _ e9;omega))
  replace ka:=Z9 ((uh ka).same (hon.at (uh ka).lt fun e9=>by have h2:=uh LX _ e9;omega))
  replace BB:=Z9 ((uh BB).trans (hon.below hwle (fun k e=>by have h2:=uh LX k e;omega)))
  clear hon kx HX hwle
  have hk0:¬ em<0:=by omega
  obtain ⟨x0,x1,x2,x3,x4,x5⟩:=(uh ku).c6
  obtain ⟨y0,y1,y2,y3,y4,y5⟩:=(uh kg).c6
  go_wp2_with fail
  clear x0 x1 x2 x3 x4 x5 y0 y1 y2 y3 y4 y5
  refine (ZK (uh HG).smy (uh HU).smy).mono ?_
  rintro e w10 ⟨rfl,hb⟩
  replace ka:=bl ka hb
  replace HU:=Z9 ((uh HU).below hb)
  replace ku:=bl ku hb
  replace HG:=Z9 ((uh HG).below hb)
  replace kg:=bl kg hb
  replace BB:=bt BB hb
  clear hb
  obtain ⟨y0,y1,y2,y3,y4,y5⟩:=(uh kg).c6
  go_wp2_with fail
  clear y0 y1 y2 y3 y4 y5
  refine (Za 1 ((uh HG).mono (n₁:=0) (Nat.zero_le _)) (uh HsM) (Nat.zero_le _) (by omega) (by omega)).mono ?_
  rintro e w11 ⟨rfl,hgm,hon⟩
  have hgr:=(uh HG).rooms
  have hen2:=VM (uh HsM) hgr
  have hwle:=(uh BB).size
  replace HU:=Z9 ((uh HU).keep fun k e=>hon.at ((uh HU).own e).2 fun e9=>by have h1:=uh LU k e;have h2:=uh LG k e9;omega)
  replace ku:=Z9 ((uh ku).same (hon.at (uh ku).lt fun e9=>by have h2:=uh LG _ e9;omega))
  replace kg:=Z9 ((uh kg).same (hon.at (uh kg).lt fun e9=>by have h2:=uh LG _ e9;omega))
  replace ka:=Z9 ((uh ka).same (hon.at (uh ka).lt fun e9=>by have h2:=uh LG _ e9;omega))
  replace BB:=Z9 ((uh BB).trans (hon.below hwle (fun k e=>by have h2:=uh LG k e;omega)))
  replace HG:=Z9 hgm
  have Hgr:=Z9 hgr
  clear hgm hon hwle hgr
  obtain ⟨y0,y1,y2,y3,y4,y5⟩:=(uh kg).c6
  go_wp2_with fail
  clear y0 y1 y2 y3 y4 y5
  refine (Y8 1 (uh HG) (uh HsM).rooms (uh Hgr) (uh HsM) (by omega) (by omega)).mono ?_
  rintro e w12 ⟨rfl,hb⟩
  replace ka:=bl ka hb
  replace HU:=Z9 ((uh HU).below hb)
  replace ku:=bl ku hb
  replace HG:=Z9 ((uh HG).below hb)
  replace kg:=bl kg hb
  replace BB:=bt BB hb
  clear hb
  have Hen2:=Z9 hen2
  obtain ⟨en,hene⟩:∃ x,SI 1 M gq=x:=⟨_,rfl⟩
  have hnn:¬ en<0:=by rw [<-hene];omega
  have Hene:=Z9 hene
  rw [hene]
  clear hene hen2
  obtain ⟨c0,c1,c2,c3,c4,c5⟩:=(uh ka).c6
  go_wp2_with fail
  clear c0 c1 c2 c3 c4 c5
  refine (Zw ((uh Hv).below (uh BB)) (uh Hs)).mono ?_
  rintro e w13 ⟨s0,s1,s2,s3,s4,rfl,ho,hb⟩
  have k13:=ho.smy
  obtain ⟨f0,j0,f1,j1,f2,j2,f3,j3,f4,j4,rfl,rfl,rfl,rfl,rfl,_,_,_,_,_,_,_,_,_,_⟩:=k13.five
  have K13:=Z9 k13
  clear k13 ho
  replace ka:=bl ka hb
  replace HU:=Z9 ((uh HU).below hb)
  replace ku:=bl ku hb
  replace HG:=Z9 ((uh HG).below hb)
  replace kg:=bl kg hb
  replace BB:=bt BB hb
  clear hb
  go_wp2_with fail
  refine (uh HI1 _ _ _ _ _ _ ((uh HEr).below (uh BB)) (uh K13)).mono ?_
  rintro e w14 ⟨⟨y0,y1,y2,y3,y4,hq,rfl,ho⟩,hb⟩
  have k9:=ho.smy
  obtain ⟨ha0,hc0,ha1,hc1,ha2,hc2,ha3,hc3,ha4,hc4,rfl,rfl,rfl,rfl,rfl,_,_,_,_,_,_,_,_,_,_⟩:=k9.five
  clear ho K13
  replace ka:=bl ka hb
  replace HU:=Z9 ((uh HU).below hb)
  replace ku:=bl ku hb
  replace HG:=Z9 ((uh HG).below hb)
  replace kg:=bl kg hb
  replace BB:=bt BB hb
  have HH:=Z9 k9
  clear k9 hb
  go_upto_region 25 with fail
  have hba:Below w14.heap.size w14 (w14.alloc (.cells #[.slice ha0 M.rooms.length hc0,.slice ha1 M.guilds.length hc1,.slice ha2 M.smiths.length hc2,.slice ha3 M.desks.length hc3,.slice ha4 M.paces.length hc4,.int .i64 M.now] 32)):=(Below.refl _ _).alloc (Nat.le_refl _) _
  replace ka:=bl ka hba
  replace HU:=Z9 ((uh HU).below hba)
  replace ku:=bl ku hba
  replace HG:=Z9 ((uh HG).below hba)
  replace kg:=bl kg hba
  replace HH:=Z9 ((uh HH).below hba)
  replace BB:=bt BB hba
  have kh:Hid (Blk (w14.alloc (.cells #[.slice ha0 M.rooms.length hc0,.slice ha1 M.guilds.length hc1,.slice ha2 M.smiths.length hc2,.slice ha3 M.desks.length hc3,.slice ha4 M.paces.length hc4,.int .i64 M.now] 32)) w14.heap.size 32 #[.slice ha0 M.rooms.length hc0,.slice ha1 M.guilds.length hc1,.slice ha2 M.smiths.length hc2,.slice ha3 M.desks.length hc3,.slice ha4 M.paces.length hc4,.int .i64 M.now]):=Z9 (Blk.new _ _ _)
  have hsz_W14:w14.heap.size+1<=(w14.alloc (.cells #[.slice ha0 M.rooms.length hc0,.slice ha1 M.guilds.length hc1,.slice ha2 M.smiths.length hc2,.slice ha3 M.desks.length hc3,.slice ha4 M.paces.length hc4,.int .i64 M.now] 32)).heap.size:=by simp
  clear hba
  generalize w14.alloc (.cells #[.slice ha0 M.rooms.length hc0,.slice ha1 M.guilds.length hc1,.slice ha2 M.smiths.length hc2,.slice ha3 M.desks.length hc3,.slice ha4 M.paces.length hc4,.int .i64 M.now] 32)=W14 at *
  generalize w14.heap.size=hb2 at *
  clear hsz_W14
  obtain ⟨x0,x1,x2,x3,x4,x5⟩:=(uh ku).c6
  obtain ⟨y0,y1,y2,y3,y4,y5⟩:=(uh kh).c6
  go_wp2_with fail
  clear x0 x1 x2 x3 x4 x5 y0 y1 y2 y3 y4 y5
  refine (ZK (uh HH) (uh HU).smy).mono ?_
  rintro e w15 ⟨rfl,hb⟩
  replace ka:=bl ka hb
  replace HU:=Z9 ((uh HU).below hb)
  replace ku:=bl ku hb
  replace HG:=Z9 ((uh HG).below hb)
  replace kg:=bl kg hb
  replace HH:=Z9 ((uh HH).below hb)
  replace kh:=bl kh hb
  replace BB:=bt BB hb
  clear hb
  obtain ⟨y0,y1,y2,y3,y4,y5⟩:=(uh kg).c6
  go_wp2_with fail
  clear y0 y1 y2 y3 y4 y5
  refine (Y8 1 (uh HG) (uh HsM).rooms (uh Hgr) (uh HsM) (by omega) (by omega)).mono ?_
  rw [uh Hene]
  rintro e w16 ⟨rfl,hb⟩
  replace ka:=bl ka hb
  replace HU:=Z9 ((uh HU).below hb)
  replace ku:=bl ku hb
  replace HG:=Z9 ((uh HG).below hb)
  replace kg:=bl kg hb
  replace HH:=Z9 ((uh HH).below hb)
  replace kh:=bl kh hb
  replace BB:=bt BB hb
  clear hb
  go_wp2_with fail
  go_ret
  exact ⟨rfl,uh BB⟩
theorem RU (v0 v1 v2 v3 v4:Value) (m:Z4) (who low high:Int) (w:World) (h:Smy w v0 v1 v2 v3 v4 m) (her:∃ q,Errs w q) :
  Calls Tryz.prog 10 #[.agg #[v0,v1,v2,v3,v4,.int .i64 m.now],.int .i64 who,.int .i64 low,.int .i64 high] w fun e w'=>e= .returned (.bool true)/\Below w.heap.size w w':=by
 obtain ⟨q,he⟩:=her
 exact To (fun _ _ _ _ _ _ _ who low high h=>Pn who low high h) (fun _ _ _ _ _ _ _ who low high he h=>Pb who low high he h) (fun m who low high=>Jn m who low high) v0 v1 v2 v3 v4 m who low high w he h
end Go.Proofs.YtjhijildaceadaaGreatDoor
