/- Part 24 of what the proof rests on. No condition but those that a theorem names. -/
import Derived.Test.YtjhijildaceadaaGreatDoorXg22
import Derived.Test.YtjhijildaceadaaGreatDoorXg23
set_option maxHeartbeats 8000000
set_option maxRecDepth 100000
namespace Go.Proofs.YtjhijildaceadaaGreatDoor
open Go.ChangeShapes Go.WideShapes Go.ChangeAt Go.RowKit Go.Sort Go.Shelf
set_option linter.unusedVariables false
set_option linter.unusedSimpArgs false
set_option maxRecDepth 100000
variable {w w' w0 w1 w2 w3 w₀ wr W W' X A B C : World} {v v0 v1 v2 v3 v4 u u0 u1 u2 u3 u4 : Value} {m : Z4}
theorem Gl {R:Nat}  {qs:List (Z2 × Value)} {q:Int->Addr} (K:Nx w W R v0 v1 v2 v3 v4 m qs) (he:Errs w q) (hm:ZP m=true) (who:Int) {cb:Nat} (hc:Blk W cb 2 #[.int .i64 who]):Calls Tryz.prog 106 #[.pointer (some ⟨R,0,none⟩),.pointer (some ⟨cb,0,none⟩)] W fun e W'=>Chg w R q (VW m who) (Wf m who) e W':=by
 have HC:=Z9 (Gm K he hm who)
 have c0:=hc.cell (i:=0) (v:= .int .i64 who) rfl
 clear hc K
 go_enter Tryz.func106,Tryz.ntmps106
 go_wp2_with fail
 refine (uh HC).mono ?_
 rintro e w1 ⟨hb,h9⟩
 clear c0
 rcases h9 with ⟨hc0,rfl,hx⟩ | ⟨hc0,rfl⟩
 ·go_wp2_with fail
  go_ret
  exact ⟨hb,.inl ⟨hc0,rfl,hx⟩⟩
 ·go_wp2_with fail
  go_ret
  exact ⟨hb,.inr ⟨hc0,rfl⟩⟩
theorem Ju  {q:Int->Addr} (h:Smy w v0 v1 v2 v3 v4 m) (he:Errs w q) (who:Int) {cb:Nat} (hc:Blk w cb 2 #[.int .i64 who]):Calls Tryz.prog 95 #[.agg #[v0,v1,v2,v3,v4,.int .i64 m.now],.func (Fn.func 106) #[] #[.pointer (some ⟨cb,0,none⟩)]] w fun e w'=>Tr w q m (VW m who) (Wf m who) e w':=by
 obtain ⟨ok,hok⟩:∃ x,ZP m=x:=⟨_,rfl⟩
 have Hok:=Z9 hok
 clear hok
 have HE:=Z9 he
 have HC:=Z9 hc
 have Hlow:Hid (0<w.heap.size):=Z9 (World.block_lt_of_cell? _ _ he.c3)
 clear he hc
 obtain ⟨a0,p0,a1,p1,a2,p2,a3,p3,a4,p4,rfl,rfl,rfl,rfl,rfl,K⟩:=Bx.new h
 clear h
 replace K:=K.alloc (.cells E6 32)
 have kr:Hid (Blk ((w.alloc (.cells (S6 a0 p0 a1 p1 a2 p2 a3 p3 a4 p4 m) 32)).alloc (.cells E6 32)) (w.heap.size+1) 32 E6):=Z9 (by
  have k:=Blk.new (w.alloc (.cells (S6 a0 p0 a1 p1 a2 p2 a3 p3 a4 p4 m) 32)) 32 E6
  rw [World.size_alloc] at k
  exact k)
 replace HC:=Z9 ((uh HC).below K.bb (uh HC).lt)
 replace HE:=Z9 ((uh HE).below K.bb)
 go_enter Tryz.func95,Tryz.ntmps95
 go_wp2_with fail
 generalize ((w.alloc (.cells (S6 a0 p0 a1 p1 a2 p2 a3 p3 a4 p4 m) 32)).alloc (.cells E6 32))=W1 at *
 refine (WJ _ _ _ _ _ _ _ _ (uh Hok) K.smy).mono ?_
 rintro e w1 ⟨rfl,hb⟩
 replace K:=K.next hb
 replace kr:=bl kr hb
 replace HC:=bl HC hb
 replace HE:=Z9 ((uh HE).below hb)
 clear hb
 cases ok
 ·
  have x1:=(uh HE).c3
  obtain ⟨o0,o1,o2,o3,o4,o5⟩:=(uh kr).c6
  obtain ⟨f0,f1,f2,f3,f4,f5⟩:=(uh kr).f6
  go_wp2_with fail
  go_region
  all_goals (try go_wp2_with fail)
  all_goals (refine bodyPost_ret (v:= .tuple #[.agg E6,XW (q 3)]) (by simp [results,Tryz.results95,go_sem, *]) rfl ⟨?_,.inl ⟨uh Hok,rfl⟩⟩)
  all_goals (refine Below.drew ?_)
  all_goals (iterate 6 (refine Below.setCell ?_ (by show _<=w.heap.size+1;omega) _))
  all_goals (exact K.bb)
 have HFew:=Z9 (XO (ZU (uh Hok)))
 obtain ⟨c0,c1,c2,c3,c4,c5⟩:=K.cells
 go_wp2_with fail
 have hw1:w.heap.size+2<=w1.heap.size:=by have:=(uh kr).lt;omega
 refine (XX K.smy (uh HFew)).mono ?_
 rintro e w2 ⟨u0,u1,u2,u3,u4,rs,rfl,hf,hb⟩
 clear c0 c1 c2 c3 c4 c5
 obtain ⟨b0,r0,b1,r1,b2,r2,b3,r3,b4,r4,rfl,rfl,rfl,rfl,rfl⟩:=WU hf
 have N1:Nx w1 (w2.alloc (.cells (S6 b0 r0 b1 r1 b2 r2 b3 r3 b4 r4 m) 32)) w2.heap.size (.slice b0 m.rooms.length r0) (.slice b1 m.guilds.length r1) (.slice b2 m.smiths.length r2) (.slice b3 m.desks.length r3) (.slice b4 m.paces.length r4) m rs:=by
  have hba:Below w2.heap.size w2 (w2.alloc (.cells (S6 b0 r0 b1 r1 b2 r2 b3 r3 b4 r4 m) 32)):=(Below.refl _ _).alloc (Nat.le_refl _) _
  exact ⟨hf.below hba,Blk.new _ _ _,fun k e=>by have:=(hf.own e).2;omega,hb.trans (hba.mono hb.size),hb.size⟩
 have HN:=Z9 N1
 clear N1 hf hb
 go_upto_region 4 with fail
 generalize w2.alloc (.cells (S6 b0 r0 b1 r1 b2 r2 b3 r3 b4 r4 m) 32)=W3 at *
 generalize w2.heap.size=R at *
 go_wp2_with fail
 refine (Gl (uh HN) (uh HE) (uh Hok) who ((uh HC).below (uh HN).bb (uh HC).lt)).mono ?_
 rintro e w4 ⟨hb4,h9⟩
 have hKs:=K.smy.below hb4
 have hKb:=K.blk.below hb4 K.blk.lt
 have hrb:=(uh kr).below hb4 (uh kr).lt
 have hbb:=K.bb.trans (hb4.mono K.bb.size)
 have K4:Bx w w4 w.heap.size a0 p0 a1 p1 a2 p2 a3 p3 a4 p4 m:=⟨hKs,hKb,hbb⟩
 clear K
 have K:=K4
 replace kr:=Z9 hrb
 clear K4 hKs hKb hrb hbb
 rcases h9 with ⟨hc0,rfl,v0,v1,v2,v3,v4,rs4,N4⟩ | ⟨hc0,rfl⟩
 ·
  obtain ⟨d0,s0,d1,s1,d2,s2,d3,s3,d4,s4,rfl,rfl,rfl,rfl,rfl⟩:=WU N4.full
  have HN4:=Z9 N4
  obtain ⟨c0,c1,c2,c3,c4,c5⟩:=N4.cells
  clear N4 HN
  go_wp2_with fail
  refine (Tp _ _ _ _ _ _ _ (uh HN4).full.smy).mono ?_
  rintro e w5 ⟨u0,u1,u2,u3,u4,rs5,rfl,hf,hb⟩
  clear c0 c1 c2 c3 c4 c5
  obtain ⟨e0,g0,e1,g1,e2,g2,e3,g3,e4,g4,rfl,rfl,rfl,rfl,rfl⟩:=WU hf
  have hsz:w.heap.size+2<=w4.heap.size:=by have:=(uh kr).lt;omega
  have HF:=Z9 (hf.mono (n₁:=w.heap.size+2) hsz)
  replace K:=K.next hb
  replace kr:=bl kr hb
  clear hb hf
  obtain ⟨o0,o1,o2,o3,o4,o5⟩:=(uh kr).c6
  obtain ⟨f0,f1,f2,f3,f4,f5⟩:=(uh kr).f6
  go_wp2_with fail
  refine bodyPost_ret (v:= .tuple #[.agg #[.slice e0 (ZE (VW m who)).rooms.length g0,.slice e1 (ZE (VW m who)).guilds.length g1,.slice e2 (ZE (VW m who)).smiths.length g2,.slice e3 (ZE (VW m who)).desks.length g3,.slice e4 (ZE (VW m who)).paces.length g4,.int .i64 (ZE (VW m who)).now],.nilIface]) (by simp [results,Tryz.results95,go_sem, *]) rfl ⟨?_,.inr (.inl ⟨uh Hok,hc0,e0,g0,e1,g1,e2,g2,e3,g3,e4,g4,rs5,rfl,?_⟩)⟩
  ·iterate 6 (refine Below.setCell ?_ (by show _<=w.heap.size+1;omega) _)
   exact K.bb
  ·refine FullSmy.mono (n₀:=w.heap.size+2) ?_ (by omega)
   iterate 6 (refine FullSmy.set_off ?_ (fun k e=>by have:=((uh HF).own e).1;omega) _ _)
   exact uh HF
 ·
  clear HN
  obtain ⟨c0,c1,c2,c3,c4,c5⟩:=K.cells
  go_wp2_with fail
  refine (XX K.smy (uh HFew)).mono ?_
  rintro e w5 ⟨u0,u1,u2,u3,u4,rs5,rfl,hf,hb⟩
  clear c0 c1 c2 c3 c4 c5
  obtain ⟨e0,g0,e1,g1,e2,g2,e3,g3,e4,g4,rfl,rfl,rfl,rfl,rfl⟩:=WU hf
  have hsz:w.heap.size+2<=w4.heap.size:=by have:=(uh kr).lt;omega
  have hba:Below w5.heap.size w5 (w5.alloc (.cells #[.slice e0 m.rooms.length g0,.slice e1 m.guilds.length g1,.slice e2 m.smiths.length g2,.slice e3 m.desks.length g3,.slice e4 m.paces.length g4,.int .i64 m.now,XW (q (Wf m who))] 163)):=(Below.refl _ _).alloc (Nat.le_refl _) _
  have kp:Hid (Blk (w5.alloc (.cells #[.slice e0 m.rooms.length g0,.slice e1 m.guilds.length g1,.slice e2 m.smiths.length g2,.slice e3 m.desks.length g3,.slice e4 m.paces.length g4,.int .i64 m.now,XW (q (Wf m who))] 163)) w5.heap.size 163 #[.slice e0 m.rooms.length g0,.slice e1 m.guilds.length g1,.slice e2 m.smiths.length g2,.slice e3 m.desks.length g3,.slice e4 m.paces.length g4,.int .i64 m.now,XW (q (Wf m who))]):=Z9 (Blk.new _ _ _)
  have HF:=Z9 ((hf.mono (n₁:=w.heap.size+2) hsz).below hba)
  have h5:w.heap.size+2<=w5.heap.size:=Nat.le_trans hsz hb.size
  replace K:=(K.next hb).next hba
  replace kr:=bl (bl kr hb) hba
  clear hb hf hba
  obtain ⟨o0,o1,o2,o3,o4,o5⟩:=(uh kr).c6
  obtain ⟨f0,f1,f2,f3,f4,f5⟩:=(uh kr).f6
  go_wp2_with fail
  refine bodyPost_ret (v:= .tuple #[.agg E6,R1 w5.heap.size]) (by simp [results,Tryz.results95,go_sem, *]) rfl ⟨?_,.inr (.inr ⟨uh Hok,hc0,w5.heap.size,e0,g0,e1,g1,e2,g2,e3,g3,e4,g4,rs5,rfl,?_,?_⟩)⟩
  ·iterate 6 (refine Below.setCell ?_ (by show _<=w.heap.size+1;omega) _)
   exact K.bb
  ·iterate 6 (refine Blk.other ?_ (by show w5.heap.size ≠ w.heap.size+1;omega) _)
   exact uh kp
  ·refine FullSmy.mono (n₀:=w.heap.size+2) ?_ (by omega)
   iterate 6 (refine FullSmy.set_off ?_ (fun k e=>by have:=((uh HF).own e).1;omega) _ _)
   exact uh HF
theorem IV {R:Nat}  {qs:List (Z2 × Value)} {q:Int->Addr} (K:Nx w W R v0 v1 v2 v3 v4 m qs) (he:Errs w q) (hm:ZP m=true) (who:Int) {cb:Nat} (hc:Blk W cb 2 #[.int .i64 who]):Calls Tryz.prog 108 #[.pointer (some ⟨R,0,none⟩),.pointer (some ⟨cb,0,none⟩)] W fun e W'=>Chg w R q (Xm m who) (Xa m who) e W':=by
 have HC:=Z9 (IW K he hm who)
 have c0:=hc.cell (i:=0) (v:= .int .i64 who) rfl
 clear hc K
 go_enter Tryz.func108,Tryz.ntmps108
 go_wp2_with fail
 refine (uh HC).mono ?_
 rintro e w1 ⟨hb,h9⟩
 clear c0
 rcases h9 with ⟨hc0,rfl,hx⟩ | ⟨hc0,rfl⟩
 ·go_wp2_with fail
  go_ret
  exact ⟨hb,.inl ⟨hc0,rfl,hx⟩⟩
 ·go_wp2_with fail
  go_ret
  exact ⟨hb,.inr ⟨hc0,rfl⟩⟩
theorem LF  {q:Int->Addr} (h:Smy w v0 v1 v2 v3 v4 m) (he:Errs w q) (who:Int) {cb:Nat} (hc:Blk w cb 2 #[.int .i64 who]):Calls Tryz.prog 95 #[.agg #[v0,v1,v2,v3,v4,.int .i64 m.now],.func (Fn.func 108) #[] #[.pointer (some ⟨cb,0,none⟩)]] w fun e w'=>Tr w q m (Xm m who) (Xa m who) e w':=by
 obtain ⟨ok,hok⟩:∃ x,ZP m=x:=⟨_,rfl⟩
 have Hok:=Z9 hok
 clear hok
 have HE:=Z9 he
 have HC:=Z9 hc
 have Hlow:Hid (0<w.heap.size):=Z9 (World.block_lt_of_cell? _ _ he.c3)
 clear he hc
 obtain ⟨a0,p0,a1,p1,a2,p2,a3,p3,a4,p4,rfl,rfl,rfl,rfl,rfl,K⟩:=Bx.new h
 clear h
 replace K:=K.alloc (.cells E6 32)
 have kr:Hid (Blk ((w.alloc (.cells (S6 a0 p0 a1 p1 a2 p2 a3 p3 a4 p4 m) 32)).alloc (.cells E6 32)) (w.heap.size+1) 32 E6):=Z9 (by
  have k:=Blk.new (w.alloc (.cells (S6 a0 p0 a1 p1 a2 p2 a3 p3 a4 p4 m) 32)) 32 E6
  rw [World.size_alloc] at k
  exact k)
 replace HC:=Z9 ((uh HC).below K.bb (uh HC).lt)
 replace HE:=Z9 ((uh HE).below K.bb)
 go_enter Tryz.func95,Tryz.ntmps95
 go_wp2_with fail
 generalize ((w.alloc (.cells (S6 a0 p0 a1 p1 a2 p2 a3 p3 a4 p4 m) 32)).alloc (.cells E6 32))=W1 at *
 refine (WJ _ _ _ _ _ _ _ _ (uh Hok) K.smy).mono ?_
 rintro e w1 ⟨rfl,hb⟩
 replace K:=K.next hb
 replace kr:=bl kr hb
 replace HC:=bl HC hb
 replace HE:=Z9 ((uh HE).below hb)
 clear hb
 cases ok
 ·
  have x1:=(uh HE).c3
  obtain ⟨o0,o1,o2,o3,o4,o5⟩:=(uh kr).c6
  obtain ⟨f0,f1,f2,f3,f4,f5⟩:=(uh kr).f6
  go_wp2_with fail
  go_region
  all_goals (try go_wp2_with fail)
  all_goals (refine bodyPost_ret (v:= .tuple #[.agg E6,XW (q 3)]) (by simp [results,Tryz.results95,go_sem, *]) rfl ⟨?_,.inl ⟨uh Hok,rfl⟩⟩)
  all_goals (refine Below.drew ?_)
  all_goals (iterate 6 (refine Below.setCell ?_ (by show _<=w.heap.size+1;omega) _))
  all_goals (exact K.bb)
 have HFew:=Z9 (XO (ZU (uh Hok)))
 obtain ⟨c0,c1,c2,c3,c4,c5⟩:=K.cells
 go_wp2_with fail
 have hw1:w.heap.size+2<=w1.heap.size:=by have:=(uh kr).lt;omega
 refine (XX K.smy (uh HFew)).mono ?_
 rintro e w2 ⟨u0,u1,u2,u3,u4,rs,rfl,hf,hb⟩
 clear c0 c1 c2 c3 c4 c5
 obtain ⟨b0,r0,b1,r1,b2,r2,b3,r3,b4,r4,rfl,rfl,rfl,rfl,rfl⟩:=WU hf
 have N1:Nx w1 (w2.alloc (.cells (S6 b0 r0 b1 r1 b2 r2 b3 r3 b4 r4 m) 32)) w2.heap.size (.slice b0 m.rooms.length r0) (.slice b1 m.guilds.length r1) (.slice b2 m.smiths.length r2) (.slice b3 m.desks.length r3) (.slice b4 m.paces.length r4) m rs:=by
  have hba:Below w2.heap.size w2 (w2.alloc (.cells (S6 b0 r0 b1 r1 b2 r2 b3 r3 b4 r4 m) 32)):=(Below.refl _ _).alloc (Nat.le_refl _) _
  exact ⟨hf.below hba,Blk.new _ _ _,fun k e=>by have:=(hf.own e).2;omega,hb.trans (hba.mono hb.size),hb.size⟩
 have HN:=Z9 N1
 clear N1 hf hb
 go_upto_region 4 with fail
 generalize w2.alloc (.cells (S6 b0 r0 b1 r1 b2 r2 b3 r3 b4 r4 m) 32)=W3 at *
 generalize w2.heap.size=R at *
 go_wp2_with fail
 refine (IV (uh HN) (uh HE) (uh Hok) who ((uh HC).below (uh HN).bb (uh HC).lt)).mono ?_
 rintro e w4 ⟨hb4,h9⟩
 have hKs:=K.smy.below hb4
 have hKb:=K.blk.below hb4 K.blk.lt
 have hrb:=(uh kr).below hb4 (uh kr).lt
 have hbb:=K.bb.trans (hb4.mono K.bb.size)
 have K4:Bx w w4 w.heap.size a0 p0 a1 p1 a2 p2 a3 p3 a4 p4 m:=⟨hKs,hKb,hbb⟩
 clear K
 have K:=K4
 replace kr:=Z9 hrb
 clear K4 hKs hKb hrb hbb
 rcases h9 with ⟨hc0,rfl,v0,v1,v2,v3,v4,rs4,N4⟩ | ⟨hc0,rfl⟩
 ·
  obtain ⟨d0,s0,d1,s1,d2,s2,d3,s3,d4,s4,rfl,rfl,rfl,rfl,rfl⟩:=WU N4.full
  have HN4:=Z9 N4
  obtain ⟨c0,c1,c2,c3,c4,c5⟩:=N4.cells
  clear N4 HN
  go_wp2_with fail
  refine (Tp _ _ _ _ _ _ _ (uh HN4).full.smy).mono ?_
  rintro e w5 ⟨u0,u1,u2,u3,u4,rs5,rfl,hf,hb⟩
  clear c0 c1 c2 c3 c4 c5
  obtain ⟨e0,g0,e1,g1,e2,g2,e3,g3,e4,g4,rfl,rfl,rfl,rfl,rfl⟩:=WU hf
  have hsz:w.heap.size+2<=w4.heap.size:=by have:=(uh kr).lt;omega
  have HF:=Z9 (hf.mono (n₁:=w.heap.size+2) hsz)
  replace K:=K.next hb
  replace kr:=bl kr hb
  clear hb hf
  obtain ⟨o0,o1,o2,o3,o4,o5⟩:=(uh kr).c6
  obtain ⟨f0,f1,f2,f3,f4,f5⟩:=(uh kr).f6
  go_wp2_with fail
  refine bodyPost_ret (v:= .tuple #[.agg #[.slice e0 (ZE (Xm m who)).rooms.length g0,.slice e1 (ZE (Xm m who)).guilds.length g1,.slice e2 (ZE (Xm m who)).smiths.length g2,.slice e3 (ZE (Xm m who)).desks.length g3,.slice e4 (ZE (Xm m who)).paces.length g4,.int .i64 (ZE (Xm m who)).now],.nilIface]) (by simp [results,Tryz.results95,go_sem, *]) rfl ⟨?_,.inr (.inl ⟨uh Hok,hc0,e0,g0,e1,g1,e2,g2,e3,g3,e4,g4,rs5,rfl,?_⟩)⟩
  ·iterate 6 (refine Below.setCell ?_ (by show _<=w.heap.size+1;omega) _)
   exact K.bb
  ·refine FullSmy.mono (n₀:=w.heap.size+2) ?_ (by omega)
   iterate 6 (refine FullSmy.set_off ?_ (fun k e=>by have:=((uh HF).own e).1;omega) _ _)
   exact uh HF
 ·
  clear HN
  obtain ⟨c0,c1,c2,c3,c4,c5⟩:=K.cells
  go_wp2_with fail
  refine (XX K.smy (uh HFew)).mono ?_
  rintro e w5 ⟨u0,u1,u2,u3,u4,rs5,rfl,hf,hb⟩
  clear c0 c1 c2 c3 c4 c5
  obtain ⟨e0,g0,e1,g1,e2,g2,e3,g3,e4,g4,rfl,rfl,rfl,rfl,rfl⟩:=WU hf
  have hsz:w.heap.size+2<=w4.heap.size:=by have:=(uh kr).lt;omega
  have hba:Below w5.heap.size w5 (w5.alloc (.cells #[.slice e0 m.rooms.length g0,.slice e1 m.guilds.length g1,.slice e2 m.smiths.length g2,.slice e3 m.desks.length g3,.slice e4 m.paces.length g4,.int .i64 m.now,XW (q (Xa m who))] 163)):=(Below.refl _ _).alloc (Nat.le_refl _) _
  have kp:Hid (Blk (w5.alloc (.cells #[.slice e0 m.rooms.length g0,.slice e1 m.guilds.length g1,.slice e2 m.smiths.length g2,.slice e3 m.desks.length g3,.slice e4 m.paces.length g4,.int .i64 m.now,XW (q (Xa m who))] 163)) w5.heap.size 163 #[.slice e0 m.rooms.length g0,.slice e1 m.guilds.length g1,.slice e2 m.smiths.length g2,.slice e3 m.desks.length g3,.slice e4 m.paces.length g4,.int .i64 m.now,XW (q (Xa m who))]):=Z9 (Blk.new _ _ _)
  have HF:=Z9 ((hf.mono (n₁:=w.heap.size+2) hsz).below hba)
  have h5:w.heap.size+2<=w5.heap.size:=Nat.le_trans hsz hb.size
  replace K:=(K.next hb).next hba
  replace kr:=bl (bl kr hb) hba
  clear hb hf hba
  obtain ⟨o0,o1,o2,o3,o4,o5⟩:=(uh kr).c6
  obtain ⟨f0,f1,f2,f3,f4,f5⟩:=(uh kr).f6
  go_wp2_with fail
  refine bodyPost_ret (v:= .tuple #[.agg E6,R1 w5.heap.size]) (by simp [results,Tryz.results95,go_sem, *]) rfl ⟨?_,.inr (.inr ⟨uh Hok,hc0,w5.heap.size,e0,g0,e1,g1,e2,g2,e3,g3,e4,g4,rs5,rfl,?_,?_⟩)⟩
  ·iterate 6 (refine Below.setCell ?_ (by show _<=w.heap.size+1;omega) _)
   exact K.bb
  ·iterate 6 (refine Blk.other ?_ (by show w5.heap.size ≠ w.heap.size+1;omega) _)
   exact uh kp
  ·refine FullSmy.mono (n₀:=w.heap.size+2) ?_ (by omega)
   iterate 6 (refine FullSmy.set_off ?_ (fun k e=>by have:=((uh HF).own e).1;omega) _ _)
   exact uh HF
theorem Mz  {q:Int->Addr} (who:Int) (he:Errs w q) (h:Smy w v0 v1 v2 v3 v4 m):Calls Tryz.prog 44 #[.agg #[v0,v1,v2,v3,v4,.int .i64 m.now],.int .i64 who] w fun e w'=>TX w.heap.size (Xn m who).1 (Xn m who).2 e w'/\Below w.heap.size w w':=by
 have HE:=Z9 he
 clear he
 obtain ⟨a0,p0,a1,p1,a2,p2,a3,p3,a4,p4,rfl,rfl,rfl,rfl,rfl,K⟩:=Bx.new h
 clear h
 replace K:=(K.alloc (.cells #[.int .i64 who] 2)).alloc (.cells E6 32)
 have kr:Hid (Blk (((w.alloc (.cells (S6 a0 p0 a1 p1 a2 p2 a3 p3 a4 p4 m) 32)).alloc (.cells #[.int .i64 who] 2)).alloc (.cells E6 32)) (w.heap.size+1+1) 32 E6):=Z9 (by
  have k:=Blk.new ((w.alloc (.cells (S6 a0 p0 a1 p1 a2 p2 a3 p3 a4 p4 m) 32)).alloc (.cells #[.int .i64 who] 2)) 32 E6
  rw [World.size_alloc,World.size_alloc] at k
  exact k)
 have kc:Hid (Blk (((w.alloc (.cells (S6 a0 p0 a1 p1 a2 p2 a3 p3 a4 p4 m) 32)).alloc (.cells #[.int .i64 who] 2)).alloc (.cells E6 32)) (w.heap.size+1) 2 #[.int .i64 who]):=Z9 (by
  have k:=Blk.new (w.alloc (.cells (S6 a0 p0 a1 p1 a2 p2 a3 p3 a4 p4 m) 32)) 2 #[.int .i64 who]
  rw [World.size_alloc] at k
  exact k.alloc _)
 replace HE:=Z9 ((uh HE).below K.bb)
 have hsz:(((w.alloc (.cells (S6 a0 p0 a1 p1 a2 p2 a3 p3 a4 p4 m) 32)).alloc (.cells #[.int .i64 who] 2)).alloc (.cells E6 32)).heap.size=w.heap.size+1+1+1:=by simp
 obtain ⟨X9,hX9⟩:∃ x,SG m (VW m who) (Wf m who)=x:=⟨_,rfl⟩
 rw [DF,hX9]
 have HX9:=Z9 hX9
 clear hX9
 go_enter Tryz.func44,Tryz.ntmps44
 go_upto_region 1 with fail
 generalize (((w.alloc (.cells (S6 a0 p0 a1 p1 a2 p2 a3 p3 a4 p4 m) 32)).alloc (.cells #[.int .i64 who] 2)).alloc (.cells E6 32))=W1 at *
 obtain ⟨c0,c1,c2,c3,c4,c5⟩:=K.cells
 go_wp2_with fail
 refine (Ju K.smy (uh HE) who (uh kc)).mono ?_
 rintro e w2 ⟨hb,h9⟩
 replace K:=K.next hb
 replace kr:=bl kr hb
 replace HE:=Z9 ((uh HE).below hb)
 clear c0 c1 c2 c3 c4 c5 kc
 rcases h9 with ⟨hm,rfl⟩ | ⟨hm,hc0,b0,r0,b1,r1,b2,r2,b3,r3,b4,r4,rs,rfl,hf⟩ | ⟨hm,hc0,p,b0,r0,b1,r1,b2,r2,b3,r3,b4,r4,rs,rfl,kp,hf⟩
 ·
  have hX0:=Z9 ((uh HX9).symm.trans (RI hm _ _))
  clear hb
  go_wp2_with fail
  refine (NF (uh HE)).mono ?_
  rintro e w3 ⟨rfl,hb⟩
  replace K:=K.next hb
  replace kr:=bl kr hb
  clear hb
  obtain ⟨o0,o1,o2,o3,o4,o5⟩:=(uh kr).c6
  obtain ⟨f0,f1,f2,f3,f4,f5⟩:=(uh kr).f6
  go_wp2_with fail
  refine bodyPost_ret (v:= .tuple #[.agg E6,.int .i64 3]) (by simp [results,Tryz.results44,go_sem, *]) rfl ⟨by rw [uh hX0];exact ⟨_,_,_,_,_,[],rfl,Zd _ _⟩,?_⟩
  iterate 6 (refine Below.setCell ?_ (by show _<=w.heap.size+1+1;omega) _)
  exact K.bb
 ·
  have hX0:Hid (X9=(ZE (VW m who),0)):=Z9 (by rw [<-uh HX9,hc0];exact RK hm _)
  have HF:=Z9 (hf.mono (n₁:=w.heap.size+1+1+1) (by omega))
  clear hf hb HX9
  generalize ZE (VW m who)=Y at *
  go_wp2_with fail
  refine LD.mono ?_
  rintro e w3 ⟨rfl,hb⟩
  replace K:=K.next hb
  replace kr:=bl kr hb
  replace HF:=Z9 ((uh HF).below hb)
  clear hb
  obtain ⟨o0,o1,o2,o3,o4,o5⟩:=(uh kr).c6
  obtain ⟨f0,f1,f2,f3,f4,f5⟩:=(uh kr).f6
  go_wp2_with fail
  refine bodyPost_ret (v:= .tuple #[.agg (S6 b0 r0 b1 r1 b2 r2 b3 r3 b4 r4 Y),.int .i64 0]) (by simp [results,Tryz.results44,go_sem, *]) rfl ⟨?_,?_⟩
  ·rw [uh hX0]
   refine ⟨_,_,_,_,_,rs,rfl,?_⟩
   refine FullSmy.mono (n₀:=w.heap.size+1+1+1) ?_ (by omega)
   iterate 6 (refine FullSmy.set_off ?_ (fun k e=>by have:=((uh HF).own e).1;omega) _ _)
   exact uh HF
  ·iterate 6 (refine Below.setCell ?_ (by show _<=w.heap.size+1+1;omega) _)
   exact K.bb
 ·
  have hcn:(Wf m who) ≠ 0:=by omega
  have hX0:=Z9 ((uh HX9).symm.trans (RJ hm _ hcn))
  have HF:=Z9 (hf.mono (n₁:=w.heap.size+1+1+1) (by omega))
  have Hkp:=Z9 kp
  clear hf hb kp hcn HX9
  generalize Wf m who=cd at *
  go_wp2_with fail
  refine (NG (uh HE) hc0 (uh Hkp)).mono ?_
  rintro e w3 ⟨rfl,hb⟩
  replace K:=K.next hb
  replace kr:=bl kr hb
  replace HF:=Z9 ((uh HF).below hb)
  clear hb Hkp
  obtain ⟨o0,o1,o2,o3,o4,o5⟩:=(uh kr).c6
  obtain ⟨f0,f1,f2,f3,f4,f5⟩:=(uh kr).f6
  go_wp2_with fail
  refine bodyPost_ret (v:= .tuple #[.agg (S6 b0 r0 b1 r1 b2 r2 b3 r3 b4 r4 m),.int .i64 cd]) (by simp [results,Tryz.results44,go_sem, *]) rfl ⟨?_,?_⟩
  ·rw [uh hX0]
   refine ⟨_,_,_,_,_,rs,rfl,?_⟩
   refine FullSmy.mono (n₀:=w.heap.size+1+1+1) ?_ (by omega)
   iterate 6 (refine FullSmy.set_off ?_ (fun k e=>by have:=((uh HF).own e).1;omega) _ _)
   exact uh HF
  ·iterate 6 (refine Below.setCell ?_ (by show _<=w.heap.size+1+1;omega) _)
   exact K.bb
theorem NS  {q:Int->Addr} (who:Int) (he:Errs w q) (h:Smy w v0 v1 v2 v3 v4 m):Calls Tryz.prog 46 #[.agg #[v0,v1,v2,v3,v4,.int .i64 m.now],.int .i64 who] w fun e w'=>TX w.heap.size (Yf m who).1 (Yf m who).2 e w'/\Below w.heap.size w w':=by
 have HE:=Z9 he
 clear he
 obtain ⟨a0,p0,a1,p1,a2,p2,a3,p3,a4,p4,rfl,rfl,rfl,rfl,rfl,K⟩:=Bx.new h
 clear h
 replace K:=(K.alloc (.cells #[.int .i64 who] 2)).alloc (.cells E6 32)
 have kr:Hid (Blk (((w.alloc (.cells (S6 a0 p0 a1 p1 a2 p2 a3 p3 a4 p4 m) 32)).alloc (.cells #[.int .i64 who] 2)).alloc (.cells E6 32)) (w.heap.size+1+1) 32 E6):=Z9 (by
  have k:=Blk.new ((w.alloc (.cells (S6 a0 p0 a1 p1 a2 p2 a3 p3 a4 p4 m) 32)).alloc (.cells #[.int .i64 who] 2)) 32 E6
  rw [World.size_alloc,World.size_alloc] at k
  exact k)
 have kc:Hid (Blk (((w.alloc (.cells (S6 a0 p0 a1 p1 a2 p2 a3 p3 a4 p4 m) 32)).alloc (.cells #[.int .i64 who] 2)).alloc (.cells E6 32)) (w.heap.size+1) 2 #[.int .i64 who]):=Z9 (by
  have k:=Blk.new (w.alloc (.cells (S6 a0 p0 a1 p1 a2 p2 a3 p3 a4 p4 m) 32)) 2 #[.int .i64 who]
  rw [World.size_alloc] at k
  exact k.alloc _)
 replace HE:=Z9 ((uh HE).below K.bb)
 have hsz:(((w.alloc (.cells (S6 a0 p0 a1 p1 a2 p2 a3 p3 a4 p4 m) 32)).alloc (.cells #[.int .i64 who] 2)).alloc (.cells E6 32)).heap.size=w.heap.size+1+1+1:=by simp
 obtain ⟨X9,hX9⟩:∃ x,SG m (Xm m who) (Xa m who)=x:=⟨_,rfl⟩
 rw [Et,hX9]
 have HX9:=Z9 hX9
 clear hX9
 go_enter Tryz.func46,Tryz.ntmps46
 go_upto_region 1 with fail
 generalize (((w.alloc (.cells (S6 a0 p0 a1 p1 a2 p2 a3 p3 a4 p4 m) 32)).alloc (.cells #[.int .i64 who] 2)).alloc (.cells E6 32))=W1 at *
 obtain ⟨c0,c1,c2,c3,c4,c5⟩:=K.cells
 go_wp2_with fail
 refine (LF K.smy (uh HE) who (uh kc)).mono ?_
 rintro e w2 ⟨hb,h9⟩
 replace K:=K.next hb
 replace kr:=bl kr hb
 replace HE:=Z9 ((uh HE).below hb)
 clear c0 c1 c2 c3 c4 c5 kc
 rcases h9 with ⟨hm,rfl⟩ | ⟨hm,hc0,b0,r0,b1,r1,b2,r2,b3,r3,b4,r4,rs,rfl,hf⟩ | ⟨hm,hc0,p,b0,r0,b1,r1,b2,r2,b3,r3,b4,r4,rs,rfl,kp,hf⟩
 ·
  have hX0:=Z9 ((uh HX9).symm.trans (RI hm _ _))
  clear hb
  go_wp2_with fail
  refine (NF (uh HE)).mono ?_
  rintro e w3 ⟨rfl,hb⟩
  replace K:=K.next hb
  replace kr:=bl kr hb
  clear hb
  obtain ⟨o0,o1,o2,o3,o4,o5⟩:=(uh kr).c6
  obtain ⟨f0,f1,f2,f3,f4,f5⟩:=(uh kr).f6
  go_wp2_with fail
  refine bodyPost_ret (v:= .tuple #[.agg E6,.int .i64 3]) (by simp [results,Tryz.results46,go_sem, *]) rfl ⟨by rw [uh hX0];exact ⟨_,_,_,_,_,[],rfl,Zd _ _⟩,?_⟩
  iterate 6 (refine Below.setCell ?_ (by show _<=w.heap.size+1+1;omega) _)
  exact K.bb
 ·
  have hX0:Hid (X9=(ZE (Xm m who),0)):=Z9 (by rw [<-uh HX9,hc0];exact RK hm _)
  have HF:=Z9 (hf.mono (n₁:=w.heap.size+1+1+1) (by omega))
  clear hf hb HX9
  generalize ZE (Xm m who)=Y at *
  go_wp2_with fail
  refine LD.mono ?_
  rintro e w3 ⟨rfl,hb⟩
  replace K:=K.next hb
  replace kr:=bl kr hb
  replace HF:=Z9 ((uh HF).below hb)
  clear hb
  obtain ⟨o0,o1,o2,o3,o4,o5⟩:=(uh kr).c6
  obtain ⟨f0,f1,f2,f3,f4,f5⟩:=(uh kr).f6
  go_wp2_with fail
  refine bodyPost_ret (v:= .tuple #[.agg (S6 b0 r0 b1 r1 b2 r2 b3 r3 b4 r4 Y),.int .i64 0]) (by simp [results,Tryz.results46,go_sem, *]) rfl ⟨?_,?_⟩
  ·rw [uh hX0]
   refine ⟨_,_,_,_,_,rs,rfl,?_⟩
   refine FullSmy.mono (n₀:=w.heap.size+1+1+1) ?_ (by omega)
   iterate 6 (refine FullSmy.set_off ?_ (fun k e=>by have:=((uh HF).own e).1;omega) _ _)
   exact uh HF
  ·iterate 6 (refine Below.setCell ?_ (by show _<=w.heap.size+1+1;omega) _)
   exact K.bb
 ·
  have hcn:(Xa m who) ≠ 0:=by omega
  have hX0:=Z9 ((uh HX9).symm.trans (RJ hm _ hcn))
  have HF:=Z9 (hf.mono (n₁:=w.heap.size+1+1+1) (by omega))
  have Hkp:=Z9 kp
  clear hf hb kp hcn HX9
  generalize Xa m who=cd at *
  go_wp2_with fail
  refine (NG (uh HE) hc0 (uh Hkp)).mono ?_
  rintro e w3 ⟨rfl,hb⟩
  replace K:=K.next hb
  replace kr:=bl kr hb
  replace HF:=Z9 ((uh HF).below hb)
  clear hb Hkp
  obtain ⟨o0,o1,o2,o3,o4,o5⟩:=(uh kr).c6
  obtain ⟨f0,f1,f2,f3,f4,f5⟩:=(uh kr).f6
  go_wp2_with fail
  refine bodyPost_ret (v:= .tuple #[.agg (S6 b0 r0 b1 r1 b2 r2 b3 r3 b4 r4 m),.int .i64 cd]) (by simp [results,Tryz.results46,go_sem, *]) rfl ⟨?_,?_⟩
  ·rw [uh hX0]
   refine ⟨_,_,_,_,_,rs,rfl,?_⟩
   refine FullSmy.mono (n₀:=w.heap.size+1+1+1) ?_ (by omega)
   iterate 6 (refine FullSmy.set_off ?_ (fun k e=>by have:=((uh HF).own e).1;omega) _ _)
   exact uh HF
  ·iterate 6 (refine Below.setCell ?_ (by show _<=w.heap.size+1+1;omega) _)
   exact K.bb
open Go.ChangeShapes Go.WideShapes Go.ChangeAt Go.RowKit Go.Sort
set_option maxRecDepth 100000
theorem MU {i:Nat} (hi:i<m.smiths.length):ZT (Z8 (ZV m).smiths i)=ZT (Z8 m.smiths i)/\(Z8 (ZV m).smiths i).2=(Z8 m.smiths i).2:=by
 refine ⟨(XV m m.desks.length i hi).2.1,?_⟩
 have a0:Z8 (ZV m).smiths i=_:=Yo m hi m.desks.length
 rw [a0]
 split<;>rfl
theorem LK (m:Z4):(ZV m).smiths.length=m.smiths.length/\(ZV m).desks.length=m.desks.length:=⟨(ZQ m m.desks.length).2.2.2.2.1,(ZQ m m.desks.length).2.2.2.2.2⟩
theorem LL {i:Nat} (hi:i<m.smiths.length) (hp:ZT (Z8 m.smiths i)=false):Z8 (ZV m).smiths i=Z8 m.smiths i:=by
 unfold ZV
 rw [Yo m hi,if_neg (by rintro ⟨_,h⟩;rw [hp] at h;cases h)]
theorem R6 (m:Z4) {k:Nat} (hk:k<m.smiths.length) (s:Z3) (i:Nat):Z8 (setS m k s).smiths i=if i=k then s else Z8 m.smiths i:=by
 unfold setS
 exact ZJ hk i
theorem Pr (m:Z4) (k:Nat) (s:Z3):(setS m k s).smiths.length=m.smiths.length:=by unfold setS;simp
theorem Ji (m:Z4) (who:Int):(ZP m=false/\Xn m who=(YM,3))\/(ZP m=true/\ ∃ c:Int,c ≠ 0/\Xn m who=(m,c))\/
  (ZP m=true/\ ∃ X,Xn m who=(X,0)/\ZP X=true/\X.smiths.length=m.smiths.length/\ ∃ k:Nat,who=(k:Int)/\k<m.smiths.length/\(Z8 X.smiths k).1=1/\ ∀ i,i<m.smiths.length->(Z8 X.smiths i).2=(Z8 m.smiths i).2/\(i ≠ k->ZT (Z8 X.smiths i)=ZT (Z8 m.smiths i))):=by
 cases h:ZP m
 ·left;unfold Xn;rw [h];exact ⟨rfl,rfl⟩
 right
 have hr:=Pn h who
 unfold Xn at hr ⊢
 rw [h] at hr ⊢
 simp only [if_true] at hr ⊢
 by_cases hw:Xl m who=true
 rotate_left
 ·rw [if_neg hw];exact .inl ⟨by trivial,1,by omega,rfl⟩
 rw [if_pos hw] at hr ⊢
 by_cases hp:ZT (Z8 m.smiths who.toNat)=true
 rotate_left
 ·rw [if_neg hp];exact .inl ⟨by trivial,2,by omega,rfl⟩
 rw [if_pos hp] at hr ⊢
 right
 obtain ⟨k,rfl,hk,_⟩:=Yz hw
 rw [Int.toNat_natCast] at hr ⊢
 have hl:∀ s,(setS m k s).smiths.length=m.smiths.length:=Pr m k
 refine ⟨by trivial,_,rfl,hr,by rw [(LK _).1,hl],k,rfl,hk,?_,fun i hi=> ?_⟩
 ·rw [LL (by rw [hl];exact hk) (by rw [R6 m hk,if_pos rfl];rfl),R6 m hk,if_pos rfl]
  rfl
 ·obtain ⟨t1,t2⟩:=MU (m:=setS m k (stS (Z8 m.smiths k) 1)) (i:=i) (by rw [hl];exact hi)
  rw [R6 m hk] at t1 t2
  rw [t1,t2]
  by_cases e:i=k
  ·subst e
   rw [if_pos rfl]
   exact ⟨rfl,fun h=>absurd rfl h⟩
  ·rw [if_neg e]
   exact ⟨rfl,fun _=>rfl⟩
theorem KI (m:Z4) (who:Int):(ZP m=false/\Yf m who=(YM,3))\/(ZP m=true/\ ∃ c:Int,c ≠ 0/\Yf m who=(m,c))\/
  (ZP m=true/\ ∃ X,Yf m who=(X,0)/\ZP X=true/\X.smiths.length=m.smiths.length/\ ∃ k:Nat,who=(k:Int)/\k<m.smiths.length/\Z8 X.smiths k=XC):=by
 cases h:ZP m
 ·left;unfold Yf;rw [h];exact ⟨rfl,rfl⟩
 right
 have hr:=QE h who
 unfold Yf at hr ⊢
 rw [h] at hr ⊢
 simp only [if_true] at hr ⊢
 by_cases hw:Xl m who=true
 rotate_left
 ·rw [if_neg hw];exact .inl ⟨by trivial,1,by omega,rfl⟩
 rw [if_pos hw] at hr ⊢
 right
 obtain ⟨k,rfl,hk,_⟩:=Yz hw
 rw [Int.toNat_natCast] at hr ⊢
 refine ⟨by trivial,_,rfl,hr,by rw [(LK _).1,Pr],k,rfl,hk,?_⟩
 rw [LL (by rw [Pr];exact hk) (by rw [R6 m hk,if_pos rfl];rfl),R6 m hk,if_pos rfl]
theorem Sd  (who:Int) (h:Smy w v0 v1 v2 v3 v4 m) :
  Calls Tryz.prog 47 #[.agg #[v0,v1,v2,v3,v4,.int .i64 m.now],.int .i64 who] w fun e w'=>TX w.heap.size (Xn m who).1 (Xn m who).2 e w'/\Below w.heap.size w w':=by
 obtain ⟨X,hX⟩:∃ x,Xn m who=x:=⟨_,rfl⟩
 rw [hX]
 have HX:=Z9 hX
 clear hX
 have Hv0:=Z9 h
 obtain ⟨a0,p0,a1,p1,a2,p2,a3,p3,a4,p4,rfl,rfl,rfl,rfl,rfl,_,_,_,_,_,_,_,_,_,_⟩:=h.five
 clear h
 obtain ⟨ok,hok⟩:∃ q,ZP m=q:=⟨_,rfl⟩
 have Hok:=Z9 hok
 clear hok
 go_enter Tryz.func47,Tryz.ntmps47
 go_wp2_with fail
 obtain ⟨W,hW,kb,kr,BB⟩:=YQ w 32 (S6 a0 p0 a1 p1 a2 p2 a3 p3 a4 p4 m) 32 E6
 have Hv:=Z9 ((uh Hv0).below (uh BB))
 clear Hv0
 rw [hW]
 clear hW
 refine (Yb (uh Hok) (uh Hv)).mono ?_
 rintro e w1 ⟨rfl,hb⟩
 replace kb:=bl kb hb
 replace kr:=bl kr hb
 replace Hv:=Z9 ((uh Hv).below hb)
 replace BB:=bt BB hb
 clear hb
 cases ok
 ·
  obtain ⟨c0,c1,c2,c3,c4,c5⟩:=(uh kb).c6
  go_wp2_with fail
  clear c0 c1 c2 c3 c4 c5
  refine (YC (uh Hv)).mono ?_
  rintro e w2 ⟨rfl,hb⟩
  replace kb:=bl kb hb
  replace kr:=bl kr hb
  replace Hv:=Z9 ((uh Hv).below hb)
  replace BB:=bt BB hb
  clear hb
  obtain ⟨o0,o1,o2,o3,o4,o5⟩:=(uh kr).c6
  obtain ⟨f0,f1,f2,f3,f4,f5⟩:=(uh kr).f6
  go_wp2_with fail
  have hX0:X=(YM,3):=by rw [<-uh HX];unfold Xn;rw [uh Hok];rfl
  refine bodyPost_ret (v:= .tuple #[.agg E6,.int .i64 3]) (by simp [results,Tryz.results47,go_sem, *]) rfl ⟨?_,?_⟩
  ·rw [hX0];exact ⟨_,_,_,_,_,[],rfl,Zd _ _⟩
  ·iterate 6 (refine Below.setCell ?_ (by show _<=w.heap.size+1;omega) _)
   exact uh BB
 have hlo:=ZU (uh Hok)
 have HLo:=Z9 hlo
 have HFew:=Z9 (XO hlo)
 clear hlo
 obtain ⟨c0,c1,c2,c3,c4,c5⟩:=(uh kb).c6
 go_wp2_with fail
 clear c0 c1 c2 c3 c4 c5
 have hWs:w.heap.size+2<=w1.heap.size:=by have:=(uh kr).lt;omega
 refine (ZB (uh Hv) (uh HFew)).mono ?_
 rintro e w2 ⟨y0,y1,y2,y3,y4,oq,rfl,ho,hb⟩
 have k9:=ho.smy
 obtain ⟨b0,q0,b1,q1,b2,q2,b3,q3,b4,q4,rfl,rfl,rfl,rfl,rfl,_,_,_,_,_,_,_,_,_,_⟩:=k9.five
 clear k9
 replace kb:=bl kb hb
 replace kr:=bl kr hb
 replace Hv:=Z9 ((uh Hv).below hb)
 replace BB:=bt BB hb
 have HO:=Z9 (ho.mono hWs)
 have LO:Hid (∀ k,YG (.slice b0 m.rooms.length q0) (.slice b1 m.guilds.length q1) (.slice b2 m.smiths.length q2) (.slice b3 m.desks.length q3) (.slice b4 m.paces.length q4) oq k->w.heap.size+2<=k/\k<w2.heap.size):=Z9 (fun k e=>(uh HO).own e)
 have hsz9:=hb.size
 clear ho hb
 go_upto_region 4 with fail
 obtain ⟨W2,hW2,hba,ko⟩:=ZA w2 32 (S6 b0 q0 b1 q1 b2 q2 b3 q3 b4 q4 m)
 replace kb:=bl kb hba
 replace kr:=bl kr hba
 replace Hv:=Z9 ((uh Hv).below hba)
 replace HO:=Z9 ((uh HO).below hba)
 replace BB:=bt BB hba
 have hob:w.heap.size+2<=w2.heap.size:=Nat.le_trans hWs hsz9
 clear hba hsz9 hWs
 rw [hW2]
 clear hW2
 generalize w2.heap.size=ob at *
 obtain ⟨qw,hqw⟩:∃ q,Xl m who=q:=⟨_,rfl⟩
 have Hqw:=Z9 hqw
 clear hqw
 obtain ⟨c0,c1,c2,c3,c4,c5⟩:=(uh kb).c6
 go_wp2_with fail
 clear c0 c1 c2 c3 c4 c5
 refine (Vs (uh Hqw) (uh Hv)).mono ?_
 rintro e w3 ⟨rfl,hb⟩
 replace kb:=bl kb hb
 replace kr:=bl kr hb
 replace Hv:=Z9 ((uh Hv).below hb)
 replace HO:=Z9 ((uh HO).below hb)
 replace ko:=bl ko hb
 replace BB:=bt BB hb
 clear hb
 cases qw
 ·
  obtain ⟨x0,x1,x2,x3,x4,x5⟩:=(uh ko).c6
  obtain ⟨o0,o1,o2,o3,o4,o5⟩:=(uh kr).c6
  obtain ⟨f0,f1,f2,f3,f4,f5⟩:=(uh kr).f6
  go_wp2_with fail
  have hX0:X=(m,1):=by rw [<-uh HX];unfold Xn;rw [uh Hok,uh Hqw];rfl
  refine bodyPost_ret (v:= .tuple #[.agg (S6 b0 q0 b1 q1 b2 q2 b3 q3 b4 q4 m),.int .i64 1]) (by simp [results,Tryz.results47,go_sem, *]) rfl ⟨?_,?_⟩
  ·rw [hX0];refine ⟨_,_,_,_,_,oq,rfl,?_⟩
   iterate 6 (refine FullSmy.set_off ?_ (fun k e=>by have:=(uh LO k e).1;omega) _ _)
   exact (uh HO).mono (by omega)
  ·iterate 6 (refine Below.setCell ?_ (by show _<=w.heap.size+1;omega) _)
   exact uh BB
 obtain ⟨k,rfl,hk,hs0⟩:=Yz (uh Hqw)
 have hk1:(k:Int)<(m.smiths.length:Int):=by omega
 obtain ⟨_,_,hse,_,_,r2⟩:=(uh Hv).smiths
 cases hse
 rcases r2 with e0 | ⟨sb,off,rfl,hbw,hcl⟩
 ·rw [e0] at hk;simp at hk
 obtain ⟨d0,d1,d2,d3,d4,d5,d6,d7,d8,d9,d10⟩:=ZK hcl hk
 clear hcl
 obtain ⟨ps,hps⟩:∃ q,ZT (Z8 m.smiths k)=q:=⟨_,rfl⟩
 have Hps:=Z9 hps
 obtain ⟨⟨st,be,rk,my,gu,lo,hi,hd,ca,ut,wk⟩,hrk⟩:∃ d,Z8 m.smiths k=d:=⟨_,rfl⟩
 rw [hrk] at d0 d1 d2 d3 d4 d5 d6 d7 d8 d9 d10 hps
 simp only at d0 d1 d2 d3 d4 d5 d6 d7 d8 d9 d10
 have c2:=(uh kb).cell (i:=2) (v:= .slice (some ⟨sb,off,none⟩) m.smiths.length p2) rfl
 have Hpt:=Z9 hps
 clear hps
 go_wp2_with fail
 refine (YX (uh Hpt) _).mono ?_
 rintro e w4 ⟨rfl,hb⟩
 replace kb:=bl kb hb
 replace kr:=bl kr hb
 replace Hv:=Z9 ((uh Hv).below hb)
 replace HO:=Z9 ((uh HO).below hb)
 replace ko:=bl ko hb
 replace BB:=bt BB hb
 clear hb d0 d1 d2 d3 d4 d5 d6 d7 d8 d9 d10 c2
 cases ps
 ·
  obtain ⟨x0,x1,x2,x3,x4,x5⟩:=(uh ko).c6
  obtain ⟨o0,o1,o2,o3,o4,o5⟩:=(uh kr).c6
  obtain ⟨f0,f1,f2,f3,f4,f5⟩:=(uh kr).f6
  go_wp2_with fail
  have hX0:X=(m,2):=by rw [<-uh HX];unfold Xn;rw [uh Hok,uh Hqw];simp only [if_true,Int.toNat_natCast];rw [uh Hps];rfl
  refine bodyPost_ret (v:= .tuple #[.agg (S6 b0 q0 b1 q1 b2 q2 b3 q3 b4 q4 m),.int .i64 2]) (by simp [results,Tryz.results47,go_sem, *]) rfl ⟨?_,?_⟩
  ·rw [hX0];refine ⟨_,_,_,_,_,oq,rfl,?_⟩
   iterate 6 (refine FullSmy.set_off ?_ (fun k e=>by have:=(uh LO k e).1;omega) _ _)
   exact (uh HO).mono (by omega)
  ·iterate 6 (refine Below.setCell ?_ (by show _<=w.heap.size+1;omega) _)
   exact uh BB
 obtain ⟨g2,hga,_,_,hc2,hz2⟩:=RecAt.view ZZ (by omega) (uh HO).smiths rfl (by omega)
 cases hga
 have s0:=hc2 k hk 0 _ rfl
 have f0:=hz2 (k*11)
 have x2:=(uh ko).cell (i:=2) (v:= .slice (some ⟨g2,0,none⟩) m.smiths.length q2) rfl
 have hput:=(uh HO).putS rfl (j:=k) (i:=0) hk (by omega) (.int .i64 1) (stS (Z8 m.smiths k) 1) rfl
 simp only [Nat.add_zero] at s0 hput
 have hg2o:=(uh LO g2 (.inr (.inr (.inr (.inl rfl)))))
 clear hc2 hz2
 go_upto_region 9 with fail
 clear s0 f0 x2
 have HP:=Z9 hput
 clear hput HO
 replace ko:Hid (Blk (w4.setCell ⟨g2,k*11,none⟩ (.int .i64 1)) ob 32 (S6 b0 q0 b1 q1 (some ⟨g2,0,none⟩) q2 b3 q3 b4 q4 m)):=Z9 ((uh ko).other (a:=⟨g2,k*11,none⟩) (by show ob ≠ g2;omega) _)
 replace kr:Hid (Blk (w4.setCell ⟨g2,k*11,none⟩ (.int .i64 1)) (w.heap.size+1) 32 E6):=Z9 ((uh kr).other (a:=⟨g2,k*11,none⟩) (by show w.heap.size+1 ≠ g2;omega) _)
 replace BB:Hid (Below w.heap.size w (w4.setCell ⟨g2,k*11,none⟩ (.int .i64 1))):=Z9 ((uh BB).setCell (p:=⟨g2,k*11,none⟩) (by show w.heap.size<=g2;omega) _)
 clear kb Hv
 generalize w4.setCell ⟨g2,k*11,none⟩ (.int .i64 1)=W3 at *
 have hfw:=uh HFew
 go_wp2_with fail
 have hofR:∀ k,YG (.slice b0 m.rooms.length q0) (.slice b1 m.guilds.length q1) (.slice (some ⟨g2,0,none⟩) m.smiths.length q2) (.slice b3 m.desks.length q3) (.slice b4 m.paces.length q4) oq k->k ≠ ob:=fun k e=>by have:=(uh LO k e).2;omega
 refine (Zf (m:=setS m k (stS (Z8 m.smiths k) 1)) (uh ko) (uh HP) (fun e=>hofR _ (.inr (.inr (.inr (.inl e)))) rfl) (fun e=>hofR _ (.inr (.inr (.inr (.inr (.inl e))))) rfl) (by show (m.smiths.set k _).length<=800;have:=hfw.smiths;simp;omega) hfw.desks).mono ?_
 rintro e w5 ⟨rfl,hf9,ht9⟩
 replace kr:=Z9 ((uh kr).two ht9 (fun e=>by have:=(uh LO _ (.inr (.inr (.inr (.inl e))))).1;omega) (fun e=>by have:=(uh LO _ (.inr (.inr (.inr (.inr (.inl e)))))).1;omega))
 replace BB:=Z9 ((uh BB).trans (ht9.below (uh BB).size (fun k e=>by have:=(uh LO k (.inr (.inr (.inr (.inl e))))).1;omega) (fun k e=>by have:=(uh LO k (.inr (.inr (.inr (.inr (.inl e)))))).1;omega)))
 have HF9:=Z9 hf9
 clear hf9 ht9 hofR
 obtain ⟨o0,o1,o2,o3,o4,o5⟩:=(uh kr).c6
 obtain ⟨f0,f1,f2,f3,f4,f5⟩:=(uh kr).f6
 go_wp2_with fail
 have hX0:X=(ZV (setS m k (stS (Z8 m.smiths k) 1)),0):=by rw [<-uh HX];unfold Xn;rw [uh Hok,uh Hqw];simp only [if_true,Int.toNat_natCast];rw [uh Hps];rfl
 have hnow:(ZV (setS m k (stS (Z8 m.smiths k) 1))).now=m.now:=(ZQ _ _).2.2.2.1
 refine bodyPost_ret (v:= .tuple #[.agg (S6 b0 q0 b1 q1 (some ⟨g2,0,none⟩) q2 b3 q3 b4 q4 m),.int .i64 0]) (by simp [results,Tryz.results47,go_sem,setS,U4,YJ,pushS, *]) rfl ⟨?_,?_⟩
 ·rw [hX0];refine ⟨_,_,_,_,_,oq,by rw [hnow],?_⟩
  iterate 6 (refine FullSmy.set_off ?_ (fun k e=>by have:=(uh LO k e).1;omega) _ _)
  exact (uh HF9).mono (by omega)
 ·iterate 6 (refine Below.setCell ?_ (by show _<=w.heap.size+1;omega) _)
  exact uh BB
end Go.Proofs.YtjhijildaceadaaGreatDoor
