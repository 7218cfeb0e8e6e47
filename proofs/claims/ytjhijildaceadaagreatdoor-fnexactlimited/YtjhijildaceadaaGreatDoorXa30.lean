/- Part 30 of what the proof rests on. No condition but those that a theorem names. -/
import Derived.Test.YtjhijildaceadaaGreatDoorXa27
import Derived.Test.YtjhijildaceadaaGreatDoorXa29
set_option maxHeartbeats 8000000
set_option maxRecDepth 100000
namespace Go.Proofs.YtjhijildaceadaaGreatDoor
open Go.ChangeShapes Go.WideShapes Go.ChangeAt Go.RowKit Go.Sort Go.Shelf
set_option linter.unusedVariables false
set_option linter.unusedSimpArgs false
set_option maxRecDepth 100000
variable {w w' w0 w1 w2 w3 w₀ wr W W' X A B C : World} {v v0 v1 v2 v3 v4 u u0 u1 u2 u3 u4 : Value} {m : Z4}
theorem E4  {m X:Z4} {c:Int} {q:Int->Addr} {cb:Nat} (h:Smy w v0 v1 v2 v3 v4 m) (he:Errs w q) (H:∀ (w1 W:World) (R:Nat) (v0 v1 v2 v3 v4:Value) (rs:List (Z3 × Value)),Below w.heap.size w w1->Zo m=true->Nx w1 W R v0 v1 v2 v3 v4 m rs->Calls Tryz.prog 139 #[.pointer (some ⟨R,0,none⟩),.pointer (some ⟨cb,0,none⟩)] W fun e W'=>Chg w1 R q X c e W'):Calls Tryz.prog 95 #[.agg #[v0,v1,v2,v3,v4,.int .i64 m.now],.func (Fn.func 139) #[] #[.pointer (some ⟨cb,0,none⟩)]] w fun e w'=>Tr w q m X c e w':=by
 obtain ⟨ok,hok⟩:∃ x,Zo m=x:=⟨_,rfl⟩
 have Hok:=Z9 hok
 clear hok
 have HE:=Z9 he
 have HH:=Z9 H
 have Hlow:Hid (0<w.heap.size):=Z9 (World.block_lt_of_cell? _ _ he.c3)
 clear he H
 obtain ⟨a0,p0,a1,p1,a2,p2,a3,p3,a4,p4,rfl,rfl,rfl,rfl,rfl,K⟩:=Bx.new h
 clear h
 replace K:=K.alloc (.cells #[.slice none 0 0,.slice none 0 0,.slice none 0 0,.slice none 0 0,.slice none 0 0,.int .i64 0] 32)
 have kr:Hid (Blk ((w.alloc (.cells #[.slice a0 m.rooms.length p0,.slice a1 m.guilds.length p1,.slice a2 m.smiths.length p2,.slice a3 m.desks.length p3,.slice a4 m.paces.length p4,.int .i64 m.now] 32)).alloc (.cells #[.slice none 0 0,.slice none 0 0,.slice none 0 0,.slice none 0 0,.slice none 0 0,.int .i64 0] 32)) (w.heap.size+1) 32 #[.slice none 0 0,.slice none 0 0,.slice none 0 0,.slice none 0 0,.slice none 0 0,.int .i64 0]):=Z9 (by
  have k:=Blk.new (w.alloc (.cells #[.slice a0 m.rooms.length p0,.slice a1 m.guilds.length p1,.slice a2 m.smiths.length p2,.slice a3 m.desks.length p3,.slice a4 m.paces.length p4,.int .i64 m.now] 32)) 32 #[.slice none 0 0,.slice none 0 0,.slice none 0 0,.slice none 0 0,.slice none 0 0,.int .i64 0]
  rw [World.size_alloc] at k
  exact k)
 replace HE:=Z9 ((uh HE).below K.bb)
 go_enter Tryz.func95,Tryz.ntmps95
 go_wp2_with fail
 generalize ((w.alloc (.cells #[.slice a0 m.rooms.length p0,.slice a1 m.guilds.length p1,.slice a2 m.smiths.length p2,.slice a3 m.desks.length p3,.slice a4 m.paces.length p4,.int .i64 m.now] 32)).alloc (.cells #[.slice none 0 0,.slice none 0 0,.slice none 0 0,.slice none 0 0,.slice none 0 0,.int .i64 0] 32))=W1 at *
 refine (NL _ _ _ _ _ _ _ _ (uh Hok) K.smy).mono ?_
 rintro e w1 ⟨rfl,hb⟩
 replace K:=K.next hb
 replace kr:=bl kr hb
 replace HE:=Z9 ((uh HE).below hb)
 clear hb
 cases ok
 ·
  have x1:=(uh HE).c3
  obtain ⟨o0,o1,o2,o3,o4,o5⟩:=(uh kr).c6
  obtain ⟨f0,f1,f2,f3,f4,f5⟩:=(uh kr).f6
  go_wp2_with fail
  go_region
  all_goals (try go_wp2_with fail)
  all_goals (refine bodyPost_ret (v:= .tuple #[.agg #[.slice none 0 0,.slice none 0 0,.slice none 0 0,.slice none 0 0,.slice none 0 0,.int .i64 0],Zv (q 3)]) (by simp [results,Tryz.results95,go_sem, *]) rfl ⟨?_,.inl ⟨uh Hok,rfl⟩⟩)
  all_goals (refine Below.drew ?_)
  all_goals (iterate 6 (refine Below.setCell ?_ (by show _<=w.heap.size+1;omega) _))
  all_goals (exact K.bb)
 have HFew:=Z9 (TH (Ze (uh Hok)))
 have Hbw:=K.bb
 obtain ⟨c0,c1,c2,c3,c4,c5⟩:=K.cells
 go_wp2_with fail
 have hw1:w.heap.size+2<=w1.heap.size:=by have:=(uh kr).lt;omega
 refine (VR K.smy (uh HFew)).mono ?_
 rintro e w2 ⟨u0,u1,u2,u3,u4,rs,rfl,hf,hb⟩
 clear c0 c1 c2 c3 c4 c5
 obtain ⟨b0,r0,b1,r1,b2,r2,b3,r3,b4,r4,rfl,rfl,rfl,rfl,rfl⟩:=YQ hf
 have N1:Nx w1 (w2.alloc (.cells #[.slice b0 m.rooms.length r0,.slice b1 m.guilds.length r1,.slice b2 m.smiths.length r2,.slice b3 m.desks.length r3,.slice b4 m.paces.length r4,.int .i64 m.now] 32)) w2.heap.size (.slice b0 m.rooms.length r0) (.slice b1 m.guilds.length r1) (.slice b2 m.smiths.length r2) (.slice b3 m.desks.length r3) (.slice b4 m.paces.length r4) m rs:=by
  have hba:Below w2.heap.size w2 (w2.alloc (.cells #[.slice b0 m.rooms.length r0,.slice b1 m.guilds.length r1,.slice b2 m.smiths.length r2,.slice b3 m.desks.length r3,.slice b4 m.paces.length r4,.int .i64 m.now] 32)):=(Below.refl _ _).alloc (Nat.le_refl _) _
  exact ⟨hf.below hba,Blk.new _ _ _,fun k e=>by have:=(hf.own e).2;omega,hb.trans (hba.mono hb.size),hb.size⟩
 have HN:=Z9 N1
 clear N1 hf hb
 go_upto_region 4 with fail
 generalize w2.alloc (.cells #[.slice b0 m.rooms.length r0,.slice b1 m.guilds.length r1,.slice b2 m.smiths.length r2,.slice b3 m.desks.length r3,.slice b4 m.paces.length r4,.int .i64 m.now] 32)=W3 at *
 generalize w2.heap.size=R at *
 go_wp2_with fail
 refine (uh HH _ _ _ _ _ _ _ _ _ (Hbw) (uh Hok) (uh HN)).mono ?_
 rintro e w4 ⟨hb4,h9⟩
 have hKs:=K.smy.below hb4
 have hKb:=K.blk.below hb4 K.blk.lt
 have hrb:=(uh kr).below hb4 (uh kr).lt
 have hbb:=K.bb.trans (hb4.mono K.bb.size)
 have K4:Bx w w4 w.heap.size a0 p0 a1 p1 a2 p2 a3 p3 a4 p4 m:=⟨hKs,hKb,hbb⟩
 clear K
 have K:=K4
 replace kr:=Z9 hrb
 clear K4 hKs hKb hrb hbb
 rcases h9 with ⟨hc0,rfl,v0,v1,v2,v3,v4,rs4,N4⟩ | ⟨hc0,rfl⟩
 ·
  obtain ⟨d0,s0,d1,s1,d2,s2,d3,s3,d4,s4,rfl,rfl,rfl,rfl,rfl⟩:=YQ N4.full
  have HN4:=Z9 N4
  obtain ⟨c0,c1,c2,c3,c4,c5⟩:=N4.cells
  clear N4 HN
  go_wp2_with fail
  refine (NM _ _ _ _ _ _ _ (uh HN4).full.smy).mono ?_
  rintro e w5 ⟨u0,u1,u2,u3,u4,rs5,rfl,hf,hb⟩
  clear c0 c1 c2 c3 c4 c5
  obtain ⟨e0,g0,e1,g1,e2,g2,e3,g3,e4,g4,rfl,rfl,rfl,rfl,rfl⟩:=YQ hf
  have hsz:w.heap.size+2<=w4.heap.size:=by have:=(uh kr).lt;omega
  have HF:=Z9 (hf.mono (n₁:=w.heap.size+2) hsz)
  replace K:=K.next hb
  replace kr:=bl kr hb
  clear hb hf
  obtain ⟨o0,o1,o2,o3,o4,o5⟩:=(uh kr).c6
  obtain ⟨f0,f1,f2,f3,f4,f5⟩:=(uh kr).f6
  go_wp2_with fail
  refine bodyPost_ret (v:= .tuple #[.agg #[.slice e0 (Zq X).rooms.length g0,.slice e1 (Zq X).guilds.length g1,.slice e2 (Zq X).smiths.length g2,.slice e3 (Zq X).desks.length g3,.slice e4 (Zq X).paces.length g4,.int .i64 (Zq X).now],.nilIface]) (by simp [results,Tryz.results95,go_sem, *]) rfl ⟨?_,.inr (.inl ⟨uh Hok,hc0,e0,g0,e1,g1,e2,g2,e3,g3,e4,g4,rs5,rfl,?_⟩)⟩
  ·iterate 6 (refine Below.setCell ?_ (by show _<=w.heap.size+1;omega) _)
   exact K.bb
  ·refine FullSmy.mono (n₀:=w.heap.size+2) ?_ (by omega)
   iterate 6 (refine FullSmy.set_off ?_ (fun k e=>by have:=((uh HF).own e).1;omega) _ _)
   exact uh HF
 ·
  clear HN
  obtain ⟨c0,c1,c2,c3,c4,c5⟩:=K.cells
  go_wp2_with fail
  refine (VR K.smy (uh HFew)).mono ?_
  rintro e w5 ⟨u0,u1,u2,u3,u4,rs5,rfl,hf,hb⟩
  clear c0 c1 c2 c3 c4 c5
  obtain ⟨e0,g0,e1,g1,e2,g2,e3,g3,e4,g4,rfl,rfl,rfl,rfl,rfl⟩:=YQ hf
  have hsz:w.heap.size+2<=w4.heap.size:=by have:=(uh kr).lt;omega
  have hba:Below w5.heap.size w5 (w5.alloc (.cells #[.slice e0 m.rooms.length g0,.slice e1 m.guilds.length g1,.slice e2 m.smiths.length g2,.slice e3 m.desks.length g3,.slice e4 m.paces.length g4,.int .i64 m.now,Zv (q c)] 163)):=(Below.refl _ _).alloc (Nat.le_refl _) _
  have kp:Hid (Blk (w5.alloc (.cells #[.slice e0 m.rooms.length g0,.slice e1 m.guilds.length g1,.slice e2 m.smiths.length g2,.slice e3 m.desks.length g3,.slice e4 m.paces.length g4,.int .i64 m.now,Zv (q c)] 163)) w5.heap.size 163 #[.slice e0 m.rooms.length g0,.slice e1 m.guilds.length g1,.slice e2 m.smiths.length g2,.slice e3 m.desks.length g3,.slice e4 m.paces.length g4,.int .i64 m.now,Zv (q c)]):=Z9 (Blk.new _ _ _)
  have HF:=Z9 ((hf.mono (n₁:=w.heap.size+2) hsz).below hba)
  have h5:w.heap.size+2<=w5.heap.size:=Nat.le_trans hsz hb.size
  replace K:=(K.next hb).next hba
  replace kr:=bl (bl kr hb) hba
  clear hb hf hba
  obtain ⟨o0,o1,o2,o3,o4,o5⟩:=(uh kr).c6
  obtain ⟨f0,f1,f2,f3,f4,f5⟩:=(uh kr).f6
  go_wp2_with fail
  refine bodyPost_ret (v:= .tuple #[.agg #[.slice none 0 0,.slice none 0 0,.slice none 0 0,.slice none 0 0,.slice none 0 0,.int .i64 0],Qm w5.heap.size]) (by simp [results,Tryz.results95,go_sem, *]) rfl ⟨?_,.inr (.inr ⟨uh Hok,hc0,w5.heap.size,e0,g0,e1,g1,e2,g2,e3,g3,e4,g4,rs5,rfl,?_,?_⟩)⟩
  ·iterate 6 (refine Below.setCell ?_ (by show _<=w.heap.size+1;omega) _)
   exact K.bb
  ·iterate 6 (refine Blk.other ?_ (by show w5.heap.size ≠ w.heap.size+1;omega) _)
   exact uh kp
  ·refine FullSmy.mono (n₀:=w.heap.size+2) ?_ (by omega)
   iterate 6 (refine FullSmy.set_off ?_ (fun k e=>by have:=((uh HF).own e).1;omega) _ _)
   exact uh HF
theorem WJ  {ff:Nat} {cap:Array Value} {m X:Z4} {c:Int} {q:Int->Addr} (he:Errs w q) (h:Smy w v0 v1 v2 v3 v4 m) (H:∀ (cb:Nat) (w1 W:World) (R:Nat) (v0 v1 v2 v3 v4:Value) (rs:List (Z3 × Value)),Below w.heap.size w w1->w1.cell? ⟨cb,0,none⟩=some (.func (Fn.func ff) #[] cap)->Zo m=true->Nx w1 W R v0 v1 v2 v3 v4 m rs->Calls Tryz.prog 139 #[.pointer (some ⟨R,0,none⟩),.pointer (some ⟨cb,0,none⟩)] W fun e W'=>Chg w1 R q X c e W'):Calls Tryz.prog 58 #[.agg #[v0,v1,v2,v3,v4,.int .i64 m.now],.func (Fn.func ff) #[] cap] w fun e w'=>Uz w.heap.size (Wb m X c).1 (Wb m X c).2 e w'/\Below w.heap.size w w':=by
 have HE:=Z9 he
 have HH:=Z9 H
 clear he H
 obtain ⟨a0,p0,a1,p1,a2,p2,a3,p3,a4,p4,rfl,rfl,rfl,rfl,rfl,K⟩:=Bx.new h
 clear h
 replace K:=(K.alloc (.cells #[.func (Fn.func ff) #[] cap] 76)).alloc (.cells #[.slice none 0 0,.slice none 0 0,.slice none 0 0,.slice none 0 0,.slice none 0 0,.int .i64 0] 32)
 have kr:Hid (Blk (((w.alloc (.cells #[.slice a0 m.rooms.length p0,.slice a1 m.guilds.length p1,.slice a2 m.smiths.length p2,.slice a3 m.desks.length p3,.slice a4 m.paces.length p4,.int .i64 m.now] 32)).alloc (.cells #[.func (Fn.func ff) #[] cap] 76)).alloc (.cells #[.slice none 0 0,.slice none 0 0,.slice none 0 0,.slice none 0 0,.slice none 0 0,.int .i64 0] 32)) (w.heap.size+1+1) 32 #[.slice none 0 0,.slice none 0 0,.slice none 0 0,.slice none 0 0,.slice none 0 0,.int .i64 0]):=Z9 (by
  have k:=Blk.new ((w.alloc (.cells #[.slice a0 m.rooms.length p0,.slice a1 m.guilds.length p1,.slice a2 m.smiths.length p2,.slice a3 m.desks.length p3,.slice a4 m.paces.length p4,.int .i64 m.now] 32)).alloc (.cells #[.func (Fn.func ff) #[] cap] 76)) 32 #[.slice none 0 0,.slice none 0 0,.slice none 0 0,.slice none 0 0,.slice none 0 0,.int .i64 0]
  rw [World.size_alloc,World.size_alloc] at k
  exact k)
 have kc:Hid (Blk (((w.alloc (.cells #[.slice a0 m.rooms.length p0,.slice a1 m.guilds.length p1,.slice a2 m.smiths.length p2,.slice a3 m.desks.length p3,.slice a4 m.paces.length p4,.int .i64 m.now] 32)).alloc (.cells #[.func (Fn.func ff) #[] cap] 76)).alloc (.cells #[.slice none 0 0,.slice none 0 0,.slice none 0 0,.slice none 0 0,.slice none 0 0,.int .i64 0] 32)) (w.heap.size+1) 76 #[.func (Fn.func ff) #[] cap]):=Z9 (by
  have k:=Blk.new (w.alloc (.cells #[.slice a0 m.rooms.length p0,.slice a1 m.guilds.length p1,.slice a2 m.smiths.length p2,.slice a3 m.desks.length p3,.slice a4 m.paces.length p4,.int .i64 m.now] 32)) 76 #[.func (Fn.func ff) #[] cap]
  rw [World.size_alloc] at k
  exact k.alloc _)
 replace HE:=Z9 ((uh HE).below K.bb)
 have hsz:(((w.alloc (.cells #[.slice a0 m.rooms.length p0,.slice a1 m.guilds.length p1,.slice a2 m.smiths.length p2,.slice a3 m.desks.length p3,.slice a4 m.paces.length p4,.int .i64 m.now] 32)).alloc (.cells #[.func (Fn.func ff) #[] cap] 76)).alloc (.cells #[.slice none 0 0,.slice none 0 0,.slice none 0 0,.slice none 0 0,.slice none 0 0,.int .i64 0] 32)).heap.size=w.heap.size+1+1+1:=by simp
 obtain ⟨X9,hX9⟩:∃ x,Wb m X c=x:=⟨_,rfl⟩
 rw [hX9]
 have HX9:=Z9 hX9
 clear hX9
 go_enter Tryz.func58,Tryz.ntmps58
 go_upto_region 1 with fail
 generalize (((w.alloc (.cells #[.slice a0 m.rooms.length p0,.slice a1 m.guilds.length p1,.slice a2 m.smiths.length p2,.slice a3 m.desks.length p3,.slice a4 m.paces.length p4,.int .i64 m.now] 32)).alloc (.cells #[.func (Fn.func ff) #[] cap] 76)).alloc (.cells #[.slice none 0 0,.slice none 0 0,.slice none 0 0,.slice none 0 0,.slice none 0 0,.int .i64 0] 32))=W1 at *
 obtain ⟨c0,c1,c2,c3,c4,c5⟩:=K.cells
 go_wp2_with fail
 refine (E4 (X:=X) (c:=c) K.smy (uh HE) (fun w1 W R v0 v1 v2 v3 v4 rs h1 h2 h3=>uh HH _ w1 W R v0 v1 v2 v3 v4 rs (K.bb.trans (h1.mono K.bb.size)) (((uh kc).below h1 (uh kc).lt).cell (i:=0) rfl) h2 h3)).mono ?_
 rintro e w2 ⟨hb,h9⟩
 replace K:=K.next hb
 replace kr:=bl kr hb
 replace HE:=Z9 ((uh HE).below hb)
 clear c0 c1 c2 c3 c4 c5 kc
 rcases h9 with ⟨hm,rfl⟩ | ⟨hm,hc0,b0,r0,b1,r1,b2,r2,b3,r3,b4,r4,rs,rfl,hf⟩ | ⟨hm,hc0,p,b0,r0,b1,r1,b2,r2,b3,r3,b4,r4,rs,rfl,kp,hf⟩
 ·
  have hX0:=Z9 ((uh HX9).symm.trans (Uf hm _ _))
  clear hb
  go_wp2_with fail
  refine (EY (uh HE)).mono ?_
  rintro e w3 ⟨rfl,hb⟩
  replace K:=K.next hb
  replace kr:=bl kr hb
  clear hb
  obtain ⟨o0,o1,o2,o3,o4,o5⟩:=(uh kr).c6
  obtain ⟨f0,f1,f2,f3,f4,f5⟩:=(uh kr).f6
  go_wp2_with fail
  refine bodyPost_ret (v:= .tuple #[.agg #[.slice none 0 0,.slice none 0 0,.slice none 0 0,.slice none 0 0,.slice none 0 0,.int .i64 0],.int .i64 3]) (by simp [results,Tryz.results58,go_sem, *]) rfl ⟨by rw [uh hX0];exact ⟨_,_,_,_,_,[],rfl,VT _ _⟩,?_⟩
  iterate 6 (refine Below.setCell ?_ (by show _<=w.heap.size+1+1;omega) _)
  exact K.bb
 ·
  have hX0:Hid (X9=(Zq X,0)):=Z9 (by rw [<-uh HX9,hc0];exact UP hm _)
  have HF:=Z9 (hf.mono (n₁:=w.heap.size+1+1+1) (by omega))
  clear hf hb HX9
  generalize Zq X=Y at *
  go_wp2_with fail
  refine DS.mono ?_
  rintro e w3 ⟨rfl,hb⟩
  replace K:=K.next hb
  replace kr:=bl kr hb
  replace HF:=Z9 ((uh HF).below hb)
  clear hb
  obtain ⟨o0,o1,o2,o3,o4,o5⟩:=(uh kr).c6
  obtain ⟨f0,f1,f2,f3,f4,f5⟩:=(uh kr).f6
  go_wp2_with fail
  refine bodyPost_ret (v:= .tuple #[.agg #[.slice b0 Y.rooms.length r0,.slice b1 Y.guilds.length r1,.slice b2 Y.smiths.length r2,.slice b3 Y.desks.length r3,.slice b4 Y.paces.length r4,.int .i64 Y.now],.int .i64 0]) (by simp [results,Tryz.results58,go_sem, *]) rfl ⟨?_,?_⟩
  ·rw [uh hX0]
   refine ⟨_,_,_,_,_,rs,rfl,?_⟩
   refine FullSmy.mono (n₀:=w.heap.size+1+1+1) ?_ (by omega)
   iterate 6 (refine FullSmy.set_off ?_ (fun k e=>by have:=((uh HF).own e).1;omega) _ _)
   exact uh HF
  ·iterate 6 (refine Below.setCell ?_ (by show _<=w.heap.size+1+1;omega) _)
   exact K.bb
 ·
  have hcn:c ≠ 0:=by omega
  have hX0:=Z9 ((uh HX9).symm.trans (WX hm _ hcn))
  have HF:=Z9 (hf.mono (n₁:=w.heap.size+1+1+1) (by omega))
  have Hkp:=Z9 kp
  clear hf hb kp hcn HX9
  go_wp2_with fail
  refine (EZ (uh HE) hc0 (uh Hkp)).mono ?_
  rintro e w3 ⟨rfl,hb⟩
  replace K:=K.next hb
  replace kr:=bl kr hb
  replace HF:=Z9 ((uh HF).below hb)
  clear hb Hkp
  obtain ⟨o0,o1,o2,o3,o4,o5⟩:=(uh kr).c6
  obtain ⟨f0,f1,f2,f3,f4,f5⟩:=(uh kr).f6
  go_wp2_with fail
  refine bodyPost_ret (v:= .tuple #[.agg #[.slice b0 m.rooms.length r0,.slice b1 m.guilds.length r1,.slice b2 m.smiths.length r2,.slice b3 m.desks.length r3,.slice b4 m.paces.length r4,.int .i64 m.now],.int .i64 c]) (by simp [results,Tryz.results58,go_sem, *]) rfl ⟨?_,?_⟩
  ·rw [uh hX0]
   refine ⟨_,_,_,_,_,rs,rfl,?_⟩
   refine FullSmy.mono (n₀:=w.heap.size+1+1+1) ?_ (by omega)
   iterate 6 (refine FullSmy.set_off ?_ (fun k e=>by have:=((uh HF).own e).1;omega) _ _)
   exact uh HF
  ·iterate 6 (refine Below.setCell ?_ (by show _<=w.heap.size+1+1;omega) _)
   exact K.bb
theorem NJ  {q:Int->Addr} (who rank:Int) (he:Errs w q) (h:Smy w v0 v1 v2 v3 v4 m):Calls Tryz.prog 15 #[.agg #[v0,v1,v2,v3,v4,.int .i64 m.now],.int .i64 who,.int .i64 rank] w fun e w'=>Uz w.heap.size (Yk m who rank).1 (Yk m who rank).2 e w'/\Below w.heap.size w w':=by
 have HE:=Z9 he
 clear he
 obtain ⟨a0,p0,a1,p1,a2,p2,a3,p3,a4,p4,rfl,rfl,rfl,rfl,rfl,K⟩:=Bx.new h
 clear h
 replace K:=K.alloc (.cells #[.int .i64 who] 2)
 replace K:=K.alloc (.cells #[.int .i64 rank] 2)
 replace K:=K.alloc (.cells #[.slice none 0 0,.slice none 0 0,.slice none 0 0,.slice none 0 0,.slice none 0 0,.int .i64 0] 32)
 have kc0:Hid (Blk ((((w.alloc (.cells #[.slice a0 m.rooms.length p0,.slice a1 m.guilds.length p1,.slice a2 m.smiths.length p2,.slice a3 m.desks.length p3,.slice a4 m.paces.length p4,.int .i64 m.now] 32)).alloc (.cells #[.int .i64 who] 2)).alloc (.cells #[.int .i64 rank] 2)).alloc (.cells #[.slice none 0 0,.slice none 0 0,.slice none 0 0,.slice none 0 0,.slice none 0 0,.int .i64 0] 32)) (w.heap.size+1) 2 #[.int .i64 who]):=Z9 (by
  have k:=Blk.new (w.alloc (.cells #[.slice a0 m.rooms.length p0,.slice a1 m.guilds.length p1,.slice a2 m.smiths.length p2,.slice a3 m.desks.length p3,.slice a4 m.paces.length p4,.int .i64 m.now] 32)) 2 #[.int .i64 who]
  rw [World.size_alloc] at k
  exact (k.alloc _).alloc _)
 have kc1:Hid (Blk ((((w.alloc (.cells #[.slice a0 m.rooms.length p0,.slice a1 m.guilds.length p1,.slice a2 m.smiths.length p2,.slice a3 m.desks.length p3,.slice a4 m.paces.length p4,.int .i64 m.now] 32)).alloc (.cells #[.int .i64 who] 2)).alloc (.cells #[.int .i64 rank] 2)).alloc (.cells #[.slice none 0 0,.slice none 0 0,.slice none 0 0,.slice none 0 0,.slice none 0 0,.int .i64 0] 32)) (w.heap.size+1+1) 2 #[.int .i64 rank]):=Z9 (by
  have k:=Blk.new ((w.alloc (.cells #[.slice a0 m.rooms.length p0,.slice a1 m.guilds.length p1,.slice a2 m.smiths.length p2,.slice a3 m.desks.length p3,.slice a4 m.paces.length p4,.int .i64 m.now] 32)).alloc (.cells #[.int .i64 who] 2)) 2 #[.int .i64 rank]
  rw [World.size_alloc,World.size_alloc] at k
  exact k.alloc _)
 have kr:Hid (Blk ((((w.alloc (.cells #[.slice a0 m.rooms.length p0,.slice a1 m.guilds.length p1,.slice a2 m.smiths.length p2,.slice a3 m.desks.length p3,.slice a4 m.paces.length p4,.int .i64 m.now] 32)).alloc (.cells #[.int .i64 who] 2)).alloc (.cells #[.int .i64 rank] 2)).alloc (.cells #[.slice none 0 0,.slice none 0 0,.slice none 0 0,.slice none 0 0,.slice none 0 0,.int .i64 0] 32)) (w.heap.size+1+1+1) 32 #[.slice none 0 0,.slice none 0 0,.slice none 0 0,.slice none 0 0,.slice none 0 0,.int .i64 0]):=Z9 (by
  have k:=Blk.new (((w.alloc (.cells #[.slice a0 m.rooms.length p0,.slice a1 m.guilds.length p1,.slice a2 m.smiths.length p2,.slice a3 m.desks.length p3,.slice a4 m.paces.length p4,.int .i64 m.now] 32)).alloc (.cells #[.int .i64 who] 2)).alloc (.cells #[.int .i64 rank] 2)) 32 #[.slice none 0 0,.slice none 0 0,.slice none 0 0,.slice none 0 0,.slice none 0 0,.int .i64 0]
  rw [World.size_alloc,World.size_alloc,World.size_alloc] at k
  exact k)
 replace HE:=Z9 ((uh HE).below K.bb)
 have hsz:((((w.alloc (.cells #[.slice a0 m.rooms.length p0,.slice a1 m.guilds.length p1,.slice a2 m.smiths.length p2,.slice a3 m.desks.length p3,.slice a4 m.paces.length p4,.int .i64 m.now] 32)).alloc (.cells #[.int .i64 who] 2)).alloc (.cells #[.int .i64 rank] 2)).alloc (.cells #[.slice none 0 0,.slice none 0 0,.slice none 0 0,.slice none 0 0,.slice none 0 0,.int .i64 0] 32)).heap.size=(w.heap.size+1+1+1+1):=by simp
 obtain ⟨⟨M,cd⟩,hD⟩:∃ D,Wb m (Tt m who rank) (Wz m who rank)=D:=⟨_,rfl⟩
 rw [Ci,hD]
 have HD:=Z9 hD
 clear hD
 go_enter Tryz.func15,Tryz.ntmps15
 go_upto_region 1 with fail
 generalize ((((w.alloc (.cells #[.slice a0 m.rooms.length p0,.slice a1 m.guilds.length p1,.slice a2 m.smiths.length p2,.slice a3 m.desks.length p3,.slice a4 m.paces.length p4,.int .i64 m.now] 32)).alloc (.cells #[.int .i64 who] 2)).alloc (.cells #[.int .i64 rank] 2)).alloc (.cells #[.slice none 0 0,.slice none 0 0,.slice none 0 0,.slice none 0 0,.slice none 0 0,.int .i64 0] 32))=W1 at *
 obtain ⟨c0,c1,c2,c3,c4,c5⟩:=K.cells
 go_wp2_with fail
 refine (WJ (X:=Tt m who rank) (c:=Wz m who rank) (uh HE) K.smy (fun cb w1 W R v0 v1 v2 v3 v4 rs h0 h1 h2 h3=>D8 h3 ((uh HE).below h0) h2 ((h3.bb.cell (World.block_lt_of_cell? _ _ h1)).trans h1) (h3.bb.cell (World.block_lt_of_cell? _ _ (((uh kc0).below h0 (uh kc0).lt).cell (i:=0) (v:= .int .i64 who) rfl)) |>.trans (((uh kc0).below h0 (uh kc0).lt).cell (i:=0) rfl)) (h3.bb.cell (World.block_lt_of_cell? _ _ (((uh kc1).below h0 (uh kc1).lt).cell (i:=0) (v:= .int .i64 rank) rfl)) |>.trans (((uh kc1).below h0 (uh kc1).lt).cell (i:=0) rfl)))).mono ?_
 rintro e w2 ⟨⟨u0,u1,u2,u3,u4,rs,he9,hf⟩,hb⟩
 rw [uh HD] at he9 hf
 simp only at he9 hf
 subst he9
 have HF:=Z9 hf
 clear hf c0 c1 c2 c3 c4 c5
 replace K:=K.next hb
 replace kr:=bl kr hb
 clear hb
 obtain ⟨e0,g0,e1,g1,e2,g2,e3,g3,e4,g4,rfl,rfl,rfl,rfl,rfl⟩:=YQ (uh HF)
 obtain ⟨o0,o1,o2,o3,o4,o5⟩:=(uh kr).c6
 obtain ⟨f0,f1,f2,f3,f4,f5⟩:=(uh kr).f6
 go_wp2_with fail
 refine bodyPost_ret (v:= .tuple #[.agg #[.slice e0 M.rooms.length g0,.slice e1 M.guilds.length g1,.slice e2 M.smiths.length g2,.slice e3 M.desks.length g3,.slice e4 M.paces.length g4,.int .i64 M.now],.int .i64 cd]) (by simp [results,Tryz.results15,go_sem, *]) rfl ⟨?_,?_⟩
 ·refine ⟨_,_,_,_,_,rs,rfl,?_⟩
  refine FullSmy.mono (n₀:=(w.heap.size+1+1+1+1)) ?_ (by omega)
  iterate 6 (refine FullSmy.set_off ?_ (fun k e=>by have:=((uh HF).own e).1;omega) _ _)
  exact (uh HF).mono (Nat.le_of_eq hsz.symm)
 ·iterate 6 (refine Below.setCell ?_ (by show _<=w.heap.size+1+1+1;omega) _)
  exact K.bb
theorem Pb  {q:Int->Addr} (who low high:Int) (he:Errs w q) (h:Smy w v0 v1 v2 v3 v4 m):Calls Tryz.prog 19 #[.agg #[v0,v1,v2,v3,v4,.int .i64 m.now],.int .i64 who,.int .i64 low,.int .i64 high] w fun e w'=>Uz w.heap.size (Yj m who low high).1 (Yj m who low high).2 e w'/\Below w.heap.size w w':=by
 have HE:=Z9 he
 clear he
 obtain ⟨a0,p0,a1,p1,a2,p2,a3,p3,a4,p4,rfl,rfl,rfl,rfl,rfl,K⟩:=Bx.new h
 clear h
 replace K:=K.alloc (.cells #[.int .i64 who] 2)
 replace K:=K.alloc (.cells #[.int .i64 low] 2)
 replace K:=K.alloc (.cells #[.int .i64 high] 2)
 replace K:=K.alloc (.cells #[.slice none 0 0,.slice none 0 0,.slice none 0 0,.slice none 0 0,.slice none 0 0,.int .i64 0] 32)
 have kc0:Hid (Blk (((((w.alloc (.cells #[.slice a0 m.rooms.length p0,.slice a1 m.guilds.length p1,.slice a2 m.smiths.length p2,.slice a3 m.desks.length p3,.slice a4 m.paces.length p4,.int .i64 m.now] 32)).alloc (.cells #[.int .i64 who] 2)).alloc (.cells #[.int .i64 low] 2)).alloc (.cells #[.int .i64 high] 2)).alloc (.cells #[.slice none 0 0,.slice none 0 0,.slice none 0 0,.slice none 0 0,.slice none 0 0,.int .i64 0] 32)) (w.heap.size+1) 2 #[.int .i64 who]):=Z9 (by
  have k:=Blk.new (w.alloc (.cells #[.slice a0 m.rooms.length p0,.slice a1 m.guilds.length p1,.slice a2 m.smiths.length p2,.slice a3 m.desks.length p3,.slice a4 m.paces.length p4,.int .i64 m.now] 32)) 2 #[.int .i64 who]
  rw [World.size_alloc] at k
  exact ((k.alloc _).alloc _).alloc _)
 have kc1:Hid (Blk (((((w.alloc (.cells #[.slice a0 m.rooms.length p0,.slice a1 m.guilds.length p1,.slice a2 m.smiths.length p2,.slice a3 m.desks.length p3,.slice a4 m.paces.length p4,.int .i64 m.now] 32)).alloc (.cells #[.int .i64 who] 2)).alloc (.cells #[.int .i64 low] 2)).alloc (.cells #[.int .i64 high] 2)).alloc (.cells #[.slice none 0 0,.slice none 0 0,.slice none 0 0,.slice none 0 0,.slice none 0 0,.int .i64 0] 32)) (w.heap.size+1+1) 2 #[.int .i64 low]):=Z9 (by
  have k:=Blk.new ((w.alloc (.cells #[.slice a0 m.rooms.length p0,.slice a1 m.guilds.length p1,.slice a2 m.smiths.length p2,.slice a3 m.desks.length p3,.slice a4 m.paces.length p4,.int .i64 m.now] 32)).alloc (.cells #[.int .i64 who] 2)) 2 #[.int .i64 low]
  rw [World.size_alloc,World.size_alloc] at k
  exact (k.alloc _).alloc _)
 have kc2:Hid (Blk (((((w.alloc (.cells #[.slice a0 m.rooms.length p0,.slice a1 m.guilds.length p1,.slice a2 m.smiths.length p2,.slice a3 m.desks.length p3,.slice a4 m.paces.length p4,.int .i64 m.now] 32)).alloc (.cells #[.int .i64 who] 2)).alloc (.cells #[.int .i64 low] 2)).alloc (.cells #[.int .i64 high] 2)).alloc (.cells #[.slice none 0 0,.slice none 0 0,.slice none 0 0,.slice none 0 0,.slice none 0 0,.int .i64 0] 32)) (w.heap.size+1+1+1) 2 #[.int .i64 high]):=Z9 (by
  have k:=Blk.new (((w.alloc (.cells #[.slice a0 m.rooms.length p0,.slice a1 m.guilds.length p1,.slice a2 m.smiths.length p2,.slice a3 m.desks.length p3,.slice a4 m.paces.length p4,.int .i64 m.now] 32)).alloc (.cells #[.int .i64 who] 2)).alloc (.cells #[.int .i64 low] 2)) 2 #[.int .i64 high]
  rw [World.size_alloc,World.size_alloc,World.size_alloc] at k
  exact k.alloc _)
 have kr:Hid (Blk (((((w.alloc (.cells #[.slice a0 m.rooms.length p0,.slice a1 m.guilds.length p1,.slice a2 m.smiths.length p2,.slice a3 m.desks.length p3,.slice a4 m.paces.length p4,.int .i64 m.now] 32)).alloc (.cells #[.int .i64 who] 2)).alloc (.cells #[.int .i64 low] 2)).alloc (.cells #[.int .i64 high] 2)).alloc (.cells #[.slice none 0 0,.slice none 0 0,.slice none 0 0,.slice none 0 0,.slice none 0 0,.int .i64 0] 32)) (w.heap.size+1+1+1+1) 32 #[.slice none 0 0,.slice none 0 0,.slice none 0 0,.slice none 0 0,.slice none 0 0,.int .i64 0]):=Z9 (by
  have k:=Blk.new ((((w.alloc (.cells #[.slice a0 m.rooms.length p0,.slice a1 m.guilds.length p1,.slice a2 m.smiths.length p2,.slice a3 m.desks.length p3,.slice a4 m.paces.length p4,.int .i64 m.now] 32)).alloc (.cells #[.int .i64 who] 2)).alloc (.cells #[.int .i64 low] 2)).alloc (.cells #[.int .i64 high] 2)) 32 #[.slice none 0 0,.slice none 0 0,.slice none 0 0,.slice none 0 0,.slice none 0 0,.int .i64 0]
  rw [World.size_alloc,World.size_alloc,World.size_alloc,World.size_alloc] at k
  exact k)
 replace HE:=Z9 ((uh HE).below K.bb)
 have hsz:(((((w.alloc (.cells #[.slice a0 m.rooms.length p0,.slice a1 m.guilds.length p1,.slice a2 m.smiths.length p2,.slice a3 m.desks.length p3,.slice a4 m.paces.length p4,.int .i64 m.now] 32)).alloc (.cells #[.int .i64 who] 2)).alloc (.cells #[.int .i64 low] 2)).alloc (.cells #[.int .i64 high] 2)).alloc (.cells #[.slice none 0 0,.slice none 0 0,.slice none 0 0,.slice none 0 0,.slice none 0 0,.int .i64 0] 32)).heap.size=(w.heap.size+1+1+1+1+1):=by simp
 obtain ⟨⟨M,cd⟩,hD⟩:∃ D,Wb m (Pf m who low high) (Uk m who low high)=D:=⟨_,rfl⟩
 rw [C6,hD]
 have HD:=Z9 hD
 clear hD
 go_enter Tryz.func19,Tryz.ntmps19
 go_upto_region 1 with fail
 generalize (((((w.alloc (.cells #[.slice a0 m.rooms.length p0,.slice a1 m.guilds.length p1,.slice a2 m.smiths.length p2,.slice a3 m.desks.length p3,.slice a4 m.paces.length p4,.int .i64 m.now] 32)).alloc (.cells #[.int .i64 who] 2)).alloc (.cells #[.int .i64 low] 2)).alloc (.cells #[.int .i64 high] 2)).alloc (.cells #[.slice none 0 0,.slice none 0 0,.slice none 0 0,.slice none 0 0,.slice none 0 0,.int .i64 0] 32))=W1 at *
 obtain ⟨c0,c1,c2,c3,c4,c5⟩:=K.cells
 go_wp2_with fail
 refine (WJ (X:=Pf m who low high) (c:=Uk m who low high) (uh HE) K.smy (fun cb w1 W R v0 v1 v2 v3 v4 rs h0 h1 h2 h3=>FP h3 ((uh HE).below h0) h2 ((h3.bb.cell (World.block_lt_of_cell? _ _ h1)).trans h1) (h3.bb.cell (World.block_lt_of_cell? _ _ (((uh kc0).below h0 (uh kc0).lt).cell (i:=0) (v:= .int .i64 who) rfl)) |>.trans (((uh kc0).below h0 (uh kc0).lt).cell (i:=0) rfl)) (h3.bb.cell (World.block_lt_of_cell? _ _ (((uh kc1).below h0 (uh kc1).lt).cell (i:=0) (v:= .int .i64 low) rfl)) |>.trans (((uh kc1).below h0 (uh kc1).lt).cell (i:=0) rfl)) (h3.bb.cell (World.block_lt_of_cell? _ _ (((uh kc2).below h0 (uh kc2).lt).cell (i:=0) (v:= .int .i64 high) rfl)) |>.trans (((uh kc2).below h0 (uh kc2).lt).cell (i:=0) rfl)))).mono ?_
 rintro e w2 ⟨⟨u0,u1,u2,u3,u4,rs,he9,hf⟩,hb⟩
 rw [uh HD] at he9 hf
 simp only at he9 hf
 subst he9
 have HF:=Z9 hf
 clear hf c0 c1 c2 c3 c4 c5
 replace K:=K.next hb
 replace kr:=bl kr hb
 clear hb
 obtain ⟨e0,g0,e1,g1,e2,g2,e3,g3,e4,g4,rfl,rfl,rfl,rfl,rfl⟩:=YQ (uh HF)
 obtain ⟨o0,o1,o2,o3,o4,o5⟩:=(uh kr).c6
 obtain ⟨f0,f1,f2,f3,f4,f5⟩:=(uh kr).f6
 go_wp2_with fail
 refine bodyPost_ret (v:= .tuple #[.agg #[.slice e0 M.rooms.length g0,.slice e1 M.guilds.length g1,.slice e2 M.smiths.length g2,.slice e3 M.desks.length g3,.slice e4 M.paces.length g4,.int .i64 M.now],.int .i64 cd]) (by simp [results,Tryz.results19,go_sem, *]) rfl ⟨?_,?_⟩
 ·refine ⟨_,_,_,_,_,rs,rfl,?_⟩
  refine FullSmy.mono (n₀:=(w.heap.size+1+1+1+1+1)) ?_ (by omega)
  iterate 6 (refine FullSmy.set_off ?_ (fun k e=>by have:=((uh HF).own e).1;omega) _ _)
  exact (uh HF).mono (Nat.le_of_eq hsz.symm)
 ·iterate 6 (refine Below.setCell ?_ (by show _<=w.heap.size+1+1+1+1;omega) _)
  exact K.bb
theorem NH  {q:Int->Addr} (who:Int) (he:Errs w q) (h:Smy w v0 v1 v2 v3 v4 m):Calls Tryz.prog 29 #[.agg #[v0,v1,v2,v3,v4,.int .i64 m.now],.int .i64 who] w fun e w'=>Uz w.heap.size (WS m who).1 (WS m who).2 e w'/\Below w.heap.size w w':=by
 have HE:=Z9 he
 clear he
 obtain ⟨a0,p0,a1,p1,a2,p2,a3,p3,a4,p4,rfl,rfl,rfl,rfl,rfl,K⟩:=Bx.new h
 clear h
 replace K:=K.alloc (.cells #[.int .i64 who] 2)
 replace K:=K.alloc (.cells #[.slice none 0 0,.slice none 0 0,.slice none 0 0,.slice none 0 0,.slice none 0 0,.int .i64 0] 32)
 have kc0:Hid (Blk (((w.alloc (.cells #[.slice a0 m.rooms.length p0,.slice a1 m.guilds.length p1,.slice a2 m.smiths.length p2,.slice a3 m.desks.length p3,.slice a4 m.paces.length p4,.int .i64 m.now] 32)).alloc (.cells #[.int .i64 who] 2)).alloc (.cells #[.slice none 0 0,.slice none 0 0,.slice none 0 0,.slice none 0 0,.slice none 0 0,.int .i64 0] 32)) (w.heap.size+1) 2 #[.int .i64 who]):=Z9 (by
  have k:=Blk.new (w.alloc (.cells #[.slice a0 m.rooms.length p0,.slice a1 m.guilds.length p1,.slice a2 m.smiths.length p2,.slice a3 m.desks.length p3,.slice a4 m.paces.length p4,.int .i64 m.now] 32)) 2 #[.int .i64 who]
  rw [World.size_alloc] at k
  exact k.alloc _)
 have kr:Hid (Blk (((w.alloc (.cells #[.slice a0 m.rooms.length p0,.slice a1 m.guilds.length p1,.slice a2 m.smiths.length p2,.slice a3 m.desks.length p3,.slice a4 m.paces.length p4,.int .i64 m.now] 32)).alloc (.cells #[.int .i64 who] 2)).alloc (.cells #[.slice none 0 0,.slice none 0 0,.slice none 0 0,.slice none 0 0,.slice none 0 0,.int .i64 0] 32)) (w.heap.size+1+1) 32 #[.slice none 0 0,.slice none 0 0,.slice none 0 0,.slice none 0 0,.slice none 0 0,.int .i64 0]):=Z9 (by
  have k:=Blk.new ((w.alloc (.cells #[.slice a0 m.rooms.length p0,.slice a1 m.guilds.length p1,.slice a2 m.smiths.length p2,.slice a3 m.desks.length p3,.slice a4 m.paces.length p4,.int .i64 m.now] 32)).alloc (.cells #[.int .i64 who] 2)) 32 #[.slice none 0 0,.slice none 0 0,.slice none 0 0,.slice none 0 0,.slice none 0 0,.int .i64 0]
  rw [World.size_alloc,World.size_alloc] at k
  exact k)
 replace HE:=Z9 ((uh HE).below K.bb)
 have hsz:(((w.alloc (.cells #[.slice a0 m.rooms.length p0,.slice a1 m.guilds.length p1,.slice a2 m.smiths.length p2,.slice a3 m.desks.length p3,.slice a4 m.paces.length p4,.int .i64 m.now] 32)).alloc (.cells #[.int .i64 who] 2)).alloc (.cells #[.slice none 0 0,.slice none 0 0,.slice none 0 0,.slice none 0 0,.slice none 0 0,.int .i64 0] 32)).heap.size=(w.heap.size+1+1+1):=by simp
 obtain ⟨⟨M,cd⟩,hD⟩:∃ D,Wb m (Ts m who) (Ww m who)=D:=⟨_,rfl⟩
 rw [Ce,hD]
 have HD:=Z9 hD
 clear hD
 go_enter Tryz.func29,Tryz.ntmps29
 go_upto_region 1 with fail
 generalize (((w.alloc (.cells #[.slice a0 m.rooms.length p0,.slice a1 m.guilds.length p1,.slice a2 m.smiths.length p2,.slice a3 m.desks.length p3,.slice a4 m.paces.length p4,.int .i64 m.now] 32)).alloc (.cells #[.int .i64 who] 2)).alloc (.cells #[.slice none 0 0,.slice none 0 0,.slice none 0 0,.slice none 0 0,.slice none 0 0,.int .i64 0] 32))=W1 at *
 obtain ⟨c0,c1,c2,c3,c4,c5⟩:=K.cells
 go_wp2_with fail
 refine (WJ (X:=Ts m who) (c:=Ww m who) (uh HE) K.smy (fun cb w1 W R v0 v1 v2 v3 v4 rs h0 h1 h2 h3=>D7 h3 ((uh HE).below h0) h2 ((h3.bb.cell (World.block_lt_of_cell? _ _ h1)).trans h1) (h3.bb.cell (World.block_lt_of_cell? _ _ (((uh kc0).below h0 (uh kc0).lt).cell (i:=0) (v:= .int .i64 who) rfl)) |>.trans (((uh kc0).below h0 (uh kc0).lt).cell (i:=0) rfl)))).mono ?_
 rintro e w2 ⟨⟨u0,u1,u2,u3,u4,rs,he9,hf⟩,hb⟩
 rw [uh HD] at he9 hf
 simp only at he9 hf
 subst he9
 have HF:=Z9 hf
 clear hf c0 c1 c2 c3 c4 c5
 replace K:=K.next hb
 replace kr:=bl kr hb
 clear hb
 obtain ⟨e0,g0,e1,g1,e2,g2,e3,g3,e4,g4,rfl,rfl,rfl,rfl,rfl⟩:=YQ (uh HF)
 obtain ⟨o0,o1,o2,o3,o4,o5⟩:=(uh kr).c6
 obtain ⟨f0,f1,f2,f3,f4,f5⟩:=(uh kr).f6
 go_wp2_with fail
 refine bodyPost_ret (v:= .tuple #[.agg #[.slice e0 M.rooms.length g0,.slice e1 M.guilds.length g1,.slice e2 M.smiths.length g2,.slice e3 M.desks.length g3,.slice e4 M.paces.length g4,.int .i64 M.now],.int .i64 cd]) (by simp [results,Tryz.results29,go_sem, *]) rfl ⟨?_,?_⟩
 ·refine ⟨_,_,_,_,_,rs,rfl,?_⟩
  refine FullSmy.mono (n₀:=(w.heap.size+1+1+1)) ?_ (by omega)
  iterate 6 (refine FullSmy.set_off ?_ (fun k e=>by have:=((uh HF).own e).1;omega) _ _)
  exact (uh HF).mono (Nat.le_of_eq hsz.symm)
 ·iterate 6 (refine Below.setCell ?_ (by show _<=w.heap.size+1+1;omega) _)
  exact K.bb
open Go.ChangeShapes Go.WideShapes Go.ChangeAt Go.RowKit Go.Sort
theorem Mu {A B:Z4} (h1:B.rooms=A.rooms) (h2:B.guilds=A.guilds) (h3:B.desks=A.desks) (h4:B.paces=A.paces) (h5:B.now=A.now) (hl:B.smiths.length=A.smiths.length)
  (ha:∀ i,i<A.smiths.length->Z8 B.smiths i=Z8 A.smiths i\/((Z8 B.smiths i).2=(Z8 A.smiths i).2/\ZW (Z8 B.smiths i)=true/\ZW (Z8 A.smiths i)=true/\0<=(Z8 A.smiths i).2.1/\(Z8 A.smiths i).2.1<(A.desks.length:Int))):ZL B=ZL A:=by
 have hal:Alike A.smiths B.smiths A.smiths.length:=fun i hi=>by
  rcases ha i hi with e | ⟨e,p,p',_⟩
  ·rw [e];exact ⟨rfl,rfl,rfl⟩
  ·unfold XS;rw [e,p,p'];exact ⟨rfl,rfl,rfl⟩
 have hat:∀ b:Int,atV B.smiths b B.smiths.length=atV A.smiths b A.smiths.length:=fun b=>by rw [hl];exact Se b _ hal
 have hf:∀ b:Int,Xz B.smiths b=Xz A.smiths b:=fun b=>by unfold Xz;rw [hat]
 obtain ⟨a1,a2,a3,a4,a5,a6⟩:=ZA A A.desks.length
 obtain ⟨b1,b2,b3,b4,b5,b6⟩:=ZA B B.desks.length
 have hsm:(ZL B).smiths=(ZL A).smiths:=by
  refine S9 ((b5.trans hl).trans a5.symm) fun i hi=> ?_
  have hi':i<(Zz B B.desks.length).smiths.length:=hi
  have hiB:i<B.smiths.length:=by omega
  have hiA:i<A.smiths.length:=by omega
  show Z8 (Zz B B.desks.length).smiths i=Z8 (Zz A A.desks.length).smiths i
  rw [XN B hiB,XN A hiA,hf,h3]
  rcases ha i hiA with e | ⟨e,p,p',q0,q1⟩
  ·rw [e]
  ·rw [p,p',e]
   have hc:(0<=(Z8 A.smiths i).2.1/\(Z8 A.smiths i).2.1<(A.desks.length:Int))/\true=true:=⟨⟨q0,q1⟩,rfl⟩
   rw [if_pos hc,if_pos hc]
   unfold stS
   rw [e]
 have hds:(ZL B).desks=(ZL A).desks:=by
  refine S9 ((b6.trans (by rw [h3])).trans a6.symm) fun j hj=> ?_
  have hj':j<(Zz B B.desks.length).desks.length:=hj
  show Z8 (Zz B B.desks.length).desks j=Z8 (Zz A A.desks.length).desks j
  rw [V3 B j _ (Nat.le_refl _),V3 A j _ (Nat.le_refl _),h3]
  unfold Xd
  rw [hat]
 have key:∀ x y:Z4,x.rooms=y.rooms->x.guilds=y.guilds->x.smiths=y.smiths->x.desks=y.desks->x.paces=y.paces->x.now=y.now->x=y:=by
  rintro ⟨_,_,_,_,_,_⟩ ⟨_,_,_,_,_,_⟩ rfl rfl rfl rfl rfl rfl
  rfl
 exact key _ _ ((b1.trans h1).trans a1.symm) ((b2.trans h2).trans a2.symm) hsm hds ((b3.trans h4).trans a3.symm) ((b4.trans h5).trans a4.symm)
def putW (m:Z4) (s:Z2) (b:Int):Z2:=JZ s b (YR (XS s) (Xb m s.2.1) (Xb m b))
def SX (m:Z4) (k:Nat) (may:Int):Bool:=ZW (Z8 m.smiths k) && !Xp may (Z8 m.smiths k).2.1
def YA (m:Z4) (who may:Int):Int:=if V7 m who then (if inB may 1 255 then (if SX m who.toNat may then (if Zn (Zx m who.toNat may) who= -1 then 2 else 0) else 0) else 3) else 1
def V9 (m:Z4) (who may:Int):Z4:=if SX m who.toNat may then setS (Zx m who.toNat may) who.toNat (putW (Zx m who.toNat may) (XE (Z8 m.smiths who.toNat) may) (Zn (Zx m who.toNat may) who)) else Zx m who.toNat may
theorem Cv (m:Z4) (who may:Int):YD m who may=Wb m (V9 m who may) (YA m who may):=by
 cases h:Zo m
 ·rw [Uf h];unfold YD;rw [h];rfl
 have hlo:=Ze h
 unfold YD YA V9
 rw [h]
 simp only [if_true]
 by_cases hw:V7 m who=true
 rotate_left
 ·rw [if_neg hw,if_neg hw,WX h _ (by omega)]
 rw [if_pos hw,if_pos hw]
 obtain ⟨k,rfl,hk,hs⟩:=WI hw
 rw [Int.toNat_natCast]
 by_cases hm:inB may 1 255=true
 rotate_left
 ·rw [if_neg hm,if_neg hm,WX h _ (by omega)]
 rw [if_pos hm,if_pos hm]
 obtain ⟨m0,m1⟩:=ZP hm
 have hmg:SX m k may=(ZW (Z8 m.smiths k) && !Xp may (Z8 m.smiths k).2.1):=rfl
 rw [<-hmg]
 cases hg:SX m k may
 ·simp only [Bool.false_eq_true,if_false]
  have hl:Loose (Zx m k may):=Je hlo hk hs m0 m1 (by
   rw [hmg] at hg
   cases h1:ZW (Z8 m.smiths k)
   ·exact .inl rfl
   ·right
    cases h2:Xp may (Z8 m.smiths k).2.1
    ·rw [h1,h2] at hg;exact absurd hg (by decide)
    ·rfl)
  rw [UP h,Vb hl]
 ·simp only [if_true]
  rw [hmg] at hg
  simp only [Bool.and_eq_true,Bool.not_eq_true'] at hg
  rcases VQ (Zx m k may) (k:Int) with ⟨e,_⟩ | ⟨b,hbl,e,hma⟩
  ·rw [e,if_pos (by omega),if_pos rfl,WX h _ (by omega)]
  ·rw [e,if_neg (by omega),if_neg (by omega),UP h]
   obtain ⟨p,g1,b1⟩:=hlo.limits hk hs
   obtain ⟨a0,a1,a2,a3,a4⟩:=hlo.at hk hg.1
   unfold YO at hma
   simp only [Bool.and_eq_true,Int.toNat_natCast] at hma
   have hat:Z8 (Zx m k may).smiths k=XE (Z8 m.smiths k) may:=by
    show Z8 (m.smiths.set k _) k=_
    rw [ZV hk,if_pos rfl]
   rw [hat] at hma
   have hkp:=NU (m:=m) hlo (s:=XE (Z8 m.smiths k) may) (b:=b) (Sv p m0 m1) hg.1 g1 a0 a1 a4 hbl hma.1 hma.2
   have hP:Loose (setS m k (putS m (XE (Z8 m.smiths k) may) (b:Int))):=hlo.setS hk hkp.1 hkp.2
   have hatP:∀ x:Z2,Z8 (setS m k x).smiths k=x:=fun x=>by unfold setS;rw [ZV hk,if_pos rfl]
   have hlP:∀ x:Z2,k<(setS m k x).smiths.length:=fun x=>by unfold setS;simpa using hk
   have h9:=hP.at (hlP _) (by rw [hatP];exact hg.1)
   rw [hatP] at h9
   have hks:=C0 (m:=m) (s:=XE (Z8 m.smiths k) may) (b:=b) (had:=YR (XS (XE (Z8 m.smiths k) may)) (Xb m (XE (Z8 m.smiths k) may).2.1) (Xb m (b:Int))) hlo (Sv p m0 m1) g1 hbl hma.1 hma.2 (by
    have h8:=h9.2.2.2.2
    exact h8)
   have hS:Loose (setS m k (putW m (XE (Z8 m.smiths k) may) (b:Int))):=hlo.setS hk hks.1 hks.2
   have e1:setS (Zx m k may) k (putW (Zx m k may) (XE (Z8 m.smiths k) may) (b:Int))=setS m k (putW m (XE (Z8 m.smiths k) may) (b:Int)):=by unfold Zx;rw [Qu];rfl
   have e2:setS (Zx m k may) k (putS (Zx m k may) (XE (Z8 m.smiths k) may) (b:Int))=setS m k (putS m (XE (Z8 m.smiths k) may) (b:Int)):=by unfold Zx;rw [Qu];rfl
   rw [e1,e2,Vb hS]
   refine congrArg (fun x=>(x,(0:Int))) (Mu (A:=setS m k (putS m (XE (Z8 m.smiths k) may) (b:Int))) (B:=setS m k (putW m (XE (Z8 m.smiths k) may) (b:Int))) rfl rfl rfl rfl rfl (by unfold setS;simp) (fun i hi=> ?_)).symm
   by_cases hik:i=k
   ·right
    subst hik
    rw [hatP,hatP]
    refine ⟨rfl,rfl,hg.1,?_,?_⟩
    ·show (0:Int)<=(b:Int);omega
    ·exact Int.ofNat_lt.2 hbl
   ·left
    unfold setS
    simp only
    rw [ZV hk,ZV hk,if_neg hik,if_neg hik]
end Go.Proofs.YtjhijildaceadaaGreatDoor
