/- Part 14 of what the proof rests on. No condition but those that a theorem names. -/
import Derived.Test.YtamgfpdahadnfaaGreatDoorXc13
import Derived.Deep.CutBlock
set_option maxHeartbeats 8000000
set_option maxRecDepth 100000
namespace Go.Proofs.YtamgfpdahadnfaaGreatDoor
open Go.ChangeShapes Go.WideShapes Go.ChangeAt Go.RowKit Go.Sort Go.Shelf
set_option linter.unusedVariables false
set_option linter.unusedSimpArgs false
set_option maxRecDepth 100000
theorem C9 {w W:World} {R:Nat} {v0 v1 v2 v3 v4:Value} {m:Z6} {qs:List (ZX × Value)} {q:Int->Addr} (K:Nx w W R v0 v1 v2 v3 v4 m qs) (he:Errs w q) (hm:ZJ m=true) (who:Int) {cb:Nat} (hc:Blk W cb 2 #[.int .i64 who]):Calls Tryz.prog 62 #[.pointer (some ⟨R,0,none⟩),.pointer (some ⟨cb,0,none⟩)] W fun e W'=>Chg w R q (Yl m who.toNat (ZG m who)) (V9 m who) e W':=by
 have HC:=Z9 (Da K he hm who);have c0:=hc.cell (i:=0) (v:= .int .i64 who) rfl;clear hc K;go_enter Tryz.func62,Tryz.ntmps62;go_wp2_with fail;refine (uh HC).mono ?_;rintro e w1 ⟨hb,h9⟩;clear c0
 rcases h9 with ⟨hc0,rfl,hx⟩ | ⟨hc0,rfl⟩
 ·go_wp2_with fail
  go_ret;exact ⟨hb,.inl ⟨hc0,rfl,hx⟩⟩
 ·go_wp2_with fail
  go_ret;exact ⟨hb,.inr ⟨hc0,rfl⟩⟩
theorem Fs {w:World} {v0 v1 v2 v3 v4:Value} {m:Z6} {q:Int->Addr} (h:Smy w v0 v1 v2 v3 v4 m) (he:Errs w q) (who:Int) {cb:Nat} (hc:Blk w cb 2 #[.int .i64 who]):Calls Tryz.prog 43 #[.agg #[v0,v1,v2,v3,v4,.int .i64 m.now],.func (Fn.func 62) #[] #[.pointer (some ⟨cb,0,none⟩)]] w fun e w'=>Tr w q m (Yl m who.toNat (ZG m who)) (V9 m who) e w':=by
 obtain ⟨ok,hok⟩:∃ x,ZJ m=x:=⟨_,rfl⟩
 have Hok:=Z9 hok;clear hok;have HE:=Z9 he;have HC:=Z9 hc;have Hlow:Hid (0<w.heap.size):=Z9 (World.block_lt_of_cell? _ _ he.c3);clear he hc;obtain ⟨a0,p0,a1,p1,a2,p2,a3,p3,a4,p4,rfl,rfl,rfl,rfl,rfl,K⟩:=Bx.new h;clear h;replace K:=K.alloc (.cells E6 32)
 have kr:Hid (Blk ((w.alloc (.cells (S6 a0 p0 a1 p1 a2 p2 a3 p3 a4 p4 m) 32)).alloc (.cells E6 32)) (w.heap.size+1) 32 E6):=Z9 (by
  have k:=Blk.new (w.alloc (.cells (S6 a0 p0 a1 p1 a2 p2 a3 p3 a4 p4 m) 32)) 32 E6;rw [Y1] at k
  exact k)
 replace HC:=Z9 ((uh HC).below K.bb (uh HC).lt);replace HE:=Z9 ((uh HE).below K.bb);go_enter Tryz.func43,Tryz.ntmps43;go_wp2_with fail;generalize ((w.alloc (.cells (S6 a0 p0 a1 p1 a2 p2 a3 p3 a4 p4 m) 32)).alloc (.cells E6 32))=W1 at *;refine ck (Wm _ _ _ _ _ _ _ _ (uh Hok) K.smy) fun w1 hb=> ?_;replace K:=K.next hb;replace kr:=bl kr hb;replace HC:=bl HC hb;replace HE:=Z9 ((uh HE).below hb);clear hb;cases ok
 ·
  have x1:=(uh HE).c3;obtain ⟨o0,o1,o2,o3,o4,o5⟩:=(uh kr).c6;obtain ⟨f0,f1,f2,f3,f4,f5⟩:=(uh kr).f6;go_wp2_with fail
  go_region
  all_goals (try go_wp2_with fail)
  all_goals (refine ZS (v:= .tuple #[.agg E6,Xg (q 3)]) (by simp [results,Tryz.results43,go_sem, *]) rfl ⟨?_,.inl ⟨uh Hok,rfl⟩⟩)
  all_goals (refine Below.drew ?_)
  all_goals (iterate 6 (refine YO ?_ (by show _<=w.heap.size+1;omega) _))
  all_goals (exact K.bb)
 have HFew:=Z9 (Xn (ZR (uh Hok)));obtain ⟨c0,c1,c2,c3,c4,c5⟩:=K.cells;go_wp2_with fail;have hw1:w.heap.size+2<=w1.heap.size:=by have:=(uh kr).lt;omega
 refine (Xm K.smy (uh HFew)).mono ?_;rintro e w2 ⟨u0,u1,u2,u3,u4,rs,rfl,hf,hb⟩;clear c0 c1 c2 c3 c4 c5;obtain ⟨b0,r0,b1,r1,b2,r2,b3,r3,b4,r4,rfl,rfl,rfl,rfl,rfl⟩:=VQ hf
 have N1:Nx w1 (w2.alloc (.cells (S6 b0 r0 b1 r1 b2 r2 b3 r3 b4 r4 m) 32)) w2.heap.size (.slice b0 m.rm.length r0) (.slice b1 m.gd.length r1) (.slice b2 m.sm.length r2) (.slice b3 m.dk.length r3) (.slice b4 m.pc.length r4) m rs:=by
  have hba:Below w2.heap.size w2 (w2.alloc (.cells (S6 b0 r0 b1 r1 b2 r2 b3 r3 b4 r4 m) 32)):=ba _ _;exact ⟨hf.below hba,Blk.new _ _ _,fun k e=>by have:=(hf.own e).2;omega,hb.trans (hba.mono hb.size),hb.size⟩
 have HN:=Z9 N1;clear N1 hf hb;go_upto_region 4 with fail;generalize w2.alloc (.cells (S6 b0 r0 b1 r1 b2 r2 b3 r3 b4 r4 m) 32)=W3 at *;generalize w2.heap.size=R at *;go_wp2_with fail;refine (C9 (uh HN) (uh HE) (uh Hok) who ((uh HC).below (uh HN).bb (uh HC).lt)).mono ?_;rintro e w4 ⟨hb4,h9⟩;have hKs:=K.smy.below hb4;have hKb:=K.blk.below hb4 K.blk.lt;have hrb:=(uh kr).below hb4 (uh kr).lt;have hbb:=K.bb.trans (hb4.mono K.bb.size);have K4:Bx w w4 w.heap.size a0 p0 a1 p1 a2 p2 a3 p3 a4 p4 m:=⟨hKs,hKb,hbb⟩
 clear K;have K:=K4;replace kr:=Z9 hrb;clear K4 hKs hKb hrb hbb
 rcases h9 with ⟨hc0,rfl,v0,v1,v2,v3,v4,rs4,N4⟩ | ⟨hc0,rfl⟩
 ·
  obtain ⟨d0,s0,d1,s1,d2,s2,d3,s3,d4,s4,rfl,rfl,rfl,rfl,rfl⟩:=VQ N4.full;have HN4:=Z9 N4;obtain ⟨c0,c1,c2,c3,c4,c5⟩:=N4.cells;clear N4 HN;go_wp2_with fail;refine (Rw _ _ _ _ _ _ _ (uh HN4).full.smy).mono ?_;rintro e w5 ⟨u0,u1,u2,u3,u4,rs5,rfl,hf,hb⟩;clear c0 c1 c2 c3 c4 c5;obtain ⟨e0,g0,e1,g1,e2,g2,e3,g3,e4,g4,rfl,rfl,rfl,rfl,rfl⟩:=VQ hf;have hsz:w.heap.size+2<=w4.heap.size:=by have:=(uh kr).lt;omega
  have HF:=Z9 (hf.mono (n₁:=w.heap.size+2) hsz);replace K:=K.next hb;replace kr:=bl kr hb;clear hb hf;obtain ⟨o0,o1,o2,o3,o4,o5⟩:=(uh kr).c6;obtain ⟨f0,f1,f2,f3,f4,f5⟩:=(uh kr).f6;go_wp2_with fail;refine ZS (v:= .tuple #[.agg #[.slice e0 (Zn (Yl m who.toNat (ZG m who))).rm.length g0,.slice e1 (Zn (Yl m who.toNat (ZG m who))).gd.length g1,.slice e2 (Zn (Yl m who.toNat (ZG m who))).sm.length g2,.slice e3 (Zn (Yl m who.toNat (ZG m who))).dk.length g3,.slice e4 (Zn (Yl m who.toNat (ZG m who))).pc.length g4,.int .i64 (Zn (Yl m who.toNat (ZG m who))).now],.nilIface]) (by simp [results,Tryz.results43,go_sem, *]) rfl ⟨?_,.inr (.inl ⟨uh Hok,hc0,e0,g0,e1,g1,e2,g2,e3,g3,e4,g4,rs5,rfl,?_⟩)⟩
  ·iterate 6 (refine YO ?_ (by show _<=w.heap.size+1;omega) _)
   exact K.bb
  ·refine FullSmy.mono (n₀:=w.heap.size+2) ?_ (by omega)
   iterate 6 (refine FullSmy.set_off ?_ (fun k e=>by have:=((uh HF).own e).1;omega) _ _)
   exact uh HF
 ·
  clear HN;obtain ⟨c0,c1,c2,c3,c4,c5⟩:=K.cells;go_wp2_with fail;refine (Xm K.smy (uh HFew)).mono ?_;rintro e w5 ⟨u0,u1,u2,u3,u4,rs5,rfl,hf,hb⟩;clear c0 c1 c2 c3 c4 c5;obtain ⟨e0,g0,e1,g1,e2,g2,e3,g3,e4,g4,rfl,rfl,rfl,rfl,rfl⟩:=VQ hf;have hsz:w.heap.size+2<=w4.heap.size:=by have:=(uh kr).lt;omega
  have hba:Below w5.heap.size w5 (w5.alloc (.cells #[.slice e0 m.rm.length g0,.slice e1 m.gd.length g1,.slice e2 m.sm.length g2,.slice e3 m.dk.length g3,.slice e4 m.pc.length g4,.int .i64 m.now,Xg (q (V9 m who))] 100)):=ba _ _;have kp:Hid (Blk (w5.alloc (.cells #[.slice e0 m.rm.length g0,.slice e1 m.gd.length g1,.slice e2 m.sm.length g2,.slice e3 m.dk.length g3,.slice e4 m.pc.length g4,.int .i64 m.now,Xg (q (V9 m who))] 100)) w5.heap.size 100 #[.slice e0 m.rm.length g0,.slice e1 m.gd.length g1,.slice e2 m.sm.length g2,.slice e3 m.dk.length g3,.slice e4 m.pc.length g4,.int .i64 m.now,Xg (q (V9 m who))]):=Z9 (Blk.new _ _ _);have HF:=Z9 ((hf.mono (n₁:=w.heap.size+2) hsz).below hba);have h5:w.heap.size+2<=w5.heap.size:=XO hsz hb.size;replace K:=(K.next hb).next hba;replace kr:=bl (bl kr hb) hba;clear hb hf hba;obtain ⟨o0,o1,o2,o3,o4,o5⟩:=(uh kr).c6;obtain ⟨f0,f1,f2,f3,f4,f5⟩:=(uh kr).f6;go_wp2_with fail;refine ZS (v:= .tuple #[.agg E6,PU w5.heap.size]) (by simp [results,Tryz.results43,go_sem, *]) rfl ⟨?_,.inr (.inr ⟨uh Hok,hc0,w5.heap.size,e0,g0,e1,g1,e2,g2,e3,g3,e4,g4,rs5,rfl,?_,?_⟩)⟩
  ·iterate 6 (refine YO ?_ (by show _<=w.heap.size+1;omega) _)
   exact K.bb
  ·iterate 6 (refine Blk.other ?_ (by show w5.heap.size ≠ w.heap.size+1;omega) _)
   exact uh kp
  ·refine FullSmy.mono (n₀:=w.heap.size+2) ?_ (by omega)
   iterate 6 (refine FullSmy.set_off ?_ (fun k e=>by have:=((uh HF).own e).1;omega) _ _)
   exact uh HF
theorem BV {w W:World} {R:Nat} {v0 v1 v2 v3 v4:Value} {m:Z6} {qs:List (ZX × Value)} {q:Int->Addr} (K:Nx w W R v0 v1 v2 v3 v4 m qs) (he:Errs w q) (hm:ZJ m=true) (rank may guild:Int) {cb:Nat} (hc:Blk W cb 40 (I11 0 0 rank may guild 0 1024 0 0 0 0)):Calls Tryz.prog 44 #[.pointer (some ⟨R,0,none⟩),.pointer (some ⟨cb,0,none⟩)] W fun e W'=>Chg w R q (UQ m rank may guild) (VB m rank may guild) e W':=by
 have HC:=Z9 (BX K he hm rank may guild);obtain ⟨c0,c1,c2,c3,c4,c5,c6,c7,c8,c9,c10⟩:=hc.c11;clear hc K;go_enter Tryz.func44,Tryz.ntmps44;go_wp2_with fail;refine (uh HC).mono ?_;rintro e w1 ⟨hb,h9⟩;clear c0 c1 c2 c3 c4 c5 c6 c7 c8 c9 c10
 rcases h9 with ⟨hc0,rfl,hx⟩ | ⟨hc0,rfl⟩
 ·go_wp2_with fail
  go_ret;exact ⟨hb,.inl ⟨hc0,rfl,hx⟩⟩
 ·go_wp2_with fail
  go_ret;exact ⟨hb,.inr ⟨hc0,rfl⟩⟩
theorem Fq {w:World} {v0 v1 v2 v3 v4:Value} {m:Z6} {q:Int->Addr} (h:Smy w v0 v1 v2 v3 v4 m) (he:Errs w q) (rank may guild:Int) {cb:Nat} (hc:Blk w cb 40 (I11 0 0 rank may guild 0 1024 0 0 0 0)):Calls Tryz.prog 43 #[.agg #[v0,v1,v2,v3,v4,.int .i64 m.now],.func (Fn.func 44) #[] #[.pointer (some ⟨cb,0,none⟩)]] w fun e w'=>Tr w q m (UQ m rank may guild) (VB m rank may guild) e w':=by
 obtain ⟨ok,hok⟩:∃ x,ZJ m=x:=⟨_,rfl⟩
 have Hok:=Z9 hok;clear hok;have HE:=Z9 he;have HC:=Z9 hc;have Hlow:Hid (0<w.heap.size):=Z9 (World.block_lt_of_cell? _ _ he.c3);clear he hc;obtain ⟨a0,p0,a1,p1,a2,p2,a3,p3,a4,p4,rfl,rfl,rfl,rfl,rfl,K⟩:=Bx.new h;clear h;replace K:=K.alloc (.cells E6 32)
 have kr:Hid (Blk ((w.alloc (.cells (S6 a0 p0 a1 p1 a2 p2 a3 p3 a4 p4 m) 32)).alloc (.cells E6 32)) (w.heap.size+1) 32 E6):=Z9 (by
  have k:=Blk.new (w.alloc (.cells (S6 a0 p0 a1 p1 a2 p2 a3 p3 a4 p4 m) 32)) 32 E6;rw [Y1] at k
  exact k)
 replace HC:=Z9 ((uh HC).below K.bb (uh HC).lt);replace HE:=Z9 ((uh HE).below K.bb);go_enter Tryz.func43,Tryz.ntmps43;go_wp2_with fail;generalize ((w.alloc (.cells (S6 a0 p0 a1 p1 a2 p2 a3 p3 a4 p4 m) 32)).alloc (.cells E6 32))=W1 at *;refine ck (Wm _ _ _ _ _ _ _ _ (uh Hok) K.smy) fun w1 hb=> ?_;replace K:=K.next hb;replace kr:=bl kr hb;replace HC:=bl HC hb;replace HE:=Z9 ((uh HE).below hb);clear hb;cases ok
 ·
  have x1:=(uh HE).c3;obtain ⟨o0,o1,o2,o3,o4,o5⟩:=(uh kr).c6;obtain ⟨f0,f1,f2,f3,f4,f5⟩:=(uh kr).f6;go_wp2_with fail
  go_region
  all_goals (try go_wp2_with fail)
  all_goals (refine ZS (v:= .tuple #[.agg E6,Xg (q 3)]) (by simp [results,Tryz.results43,go_sem, *]) rfl ⟨?_,.inl ⟨uh Hok,rfl⟩⟩)
  all_goals (refine Below.drew ?_)
  all_goals (iterate 6 (refine YO ?_ (by show _<=w.heap.size+1;omega) _))
  all_goals (exact K.bb)
 have HFew:=Z9 (Xn (ZR (uh Hok)));obtain ⟨c0,c1,c2,c3,c4,c5⟩:=K.cells;go_wp2_with fail;have hw1:w.heap.size+2<=w1.heap.size:=by have:=(uh kr).lt;omega
 refine (Xm K.smy (uh HFew)).mono ?_;rintro e w2 ⟨u0,u1,u2,u3,u4,rs,rfl,hf,hb⟩;clear c0 c1 c2 c3 c4 c5;obtain ⟨b0,r0,b1,r1,b2,r2,b3,r3,b4,r4,rfl,rfl,rfl,rfl,rfl⟩:=VQ hf
 have N1:Nx w1 (w2.alloc (.cells (S6 b0 r0 b1 r1 b2 r2 b3 r3 b4 r4 m) 32)) w2.heap.size (.slice b0 m.rm.length r0) (.slice b1 m.gd.length r1) (.slice b2 m.sm.length r2) (.slice b3 m.dk.length r3) (.slice b4 m.pc.length r4) m rs:=by
  have hba:Below w2.heap.size w2 (w2.alloc (.cells (S6 b0 r0 b1 r1 b2 r2 b3 r3 b4 r4 m) 32)):=ba _ _;exact ⟨hf.below hba,Blk.new _ _ _,fun k e=>by have:=(hf.own e).2;omega,hb.trans (hba.mono hb.size),hb.size⟩
 have HN:=Z9 N1;clear N1 hf hb;go_upto_region 4 with fail;generalize w2.alloc (.cells (S6 b0 r0 b1 r1 b2 r2 b3 r3 b4 r4 m) 32)=W3 at *;generalize w2.heap.size=R at *;go_wp2_with fail;refine (BV (uh HN) (uh HE) (uh Hok) rank may guild ((uh HC).below (uh HN).bb (uh HC).lt)).mono ?_;rintro e w4 ⟨hb4,h9⟩;have hKs:=K.smy.below hb4;have hKb:=K.blk.below hb4 K.blk.lt;have hrb:=(uh kr).below hb4 (uh kr).lt;have hbb:=K.bb.trans (hb4.mono K.bb.size);have K4:Bx w w4 w.heap.size a0 p0 a1 p1 a2 p2 a3 p3 a4 p4 m:=⟨hKs,hKb,hbb⟩
 clear K;have K:=K4;replace kr:=Z9 hrb;clear K4 hKs hKb hrb hbb
 rcases h9 with ⟨hc0,rfl,v0,v1,v2,v3,v4,rs4,N4⟩ | ⟨hc0,rfl⟩
 ·
  obtain ⟨d0,s0,d1,s1,d2,s2,d3,s3,d4,s4,rfl,rfl,rfl,rfl,rfl⟩:=VQ N4.full;have HN4:=Z9 N4;obtain ⟨c0,c1,c2,c3,c4,c5⟩:=N4.cells;clear N4 HN;go_wp2_with fail;refine (Rw _ _ _ _ _ _ _ (uh HN4).full.smy).mono ?_;rintro e w5 ⟨u0,u1,u2,u3,u4,rs5,rfl,hf,hb⟩;clear c0 c1 c2 c3 c4 c5;obtain ⟨e0,g0,e1,g1,e2,g2,e3,g3,e4,g4,rfl,rfl,rfl,rfl,rfl⟩:=VQ hf;have hsz:w.heap.size+2<=w4.heap.size:=by have:=(uh kr).lt;omega
  have HF:=Z9 (hf.mono (n₁:=w.heap.size+2) hsz);replace K:=K.next hb;replace kr:=bl kr hb;clear hb hf;obtain ⟨o0,o1,o2,o3,o4,o5⟩:=(uh kr).c6;obtain ⟨f0,f1,f2,f3,f4,f5⟩:=(uh kr).f6;go_wp2_with fail;refine ZS (v:= .tuple #[.agg #[.slice e0 (Zn (UQ m rank may guild)).rm.length g0,.slice e1 (Zn (UQ m rank may guild)).gd.length g1,.slice e2 (Zn (UQ m rank may guild)).sm.length g2,.slice e3 (Zn (UQ m rank may guild)).dk.length g3,.slice e4 (Zn (UQ m rank may guild)).pc.length g4,.int .i64 (Zn (UQ m rank may guild)).now],.nilIface]) (by simp [results,Tryz.results43,go_sem, *]) rfl ⟨?_,.inr (.inl ⟨uh Hok,hc0,e0,g0,e1,g1,e2,g2,e3,g3,e4,g4,rs5,rfl,?_⟩)⟩
  ·iterate 6 (refine YO ?_ (by show _<=w.heap.size+1;omega) _)
   exact K.bb
  ·refine FullSmy.mono (n₀:=w.heap.size+2) ?_ (by omega)
   iterate 6 (refine FullSmy.set_off ?_ (fun k e=>by have:=((uh HF).own e).1;omega) _ _)
   exact uh HF
 ·
  clear HN;obtain ⟨c0,c1,c2,c3,c4,c5⟩:=K.cells;go_wp2_with fail;refine (Xm K.smy (uh HFew)).mono ?_;rintro e w5 ⟨u0,u1,u2,u3,u4,rs5,rfl,hf,hb⟩;clear c0 c1 c2 c3 c4 c5;obtain ⟨e0,g0,e1,g1,e2,g2,e3,g3,e4,g4,rfl,rfl,rfl,rfl,rfl⟩:=VQ hf;have hsz:w.heap.size+2<=w4.heap.size:=by have:=(uh kr).lt;omega
  have hba:Below w5.heap.size w5 (w5.alloc (.cells #[.slice e0 m.rm.length g0,.slice e1 m.gd.length g1,.slice e2 m.sm.length g2,.slice e3 m.dk.length g3,.slice e4 m.pc.length g4,.int .i64 m.now,Xg (q (VB m rank may guild))] 100)):=ba _ _;have kp:Hid (Blk (w5.alloc (.cells #[.slice e0 m.rm.length g0,.slice e1 m.gd.length g1,.slice e2 m.sm.length g2,.slice e3 m.dk.length g3,.slice e4 m.pc.length g4,.int .i64 m.now,Xg (q (VB m rank may guild))] 100)) w5.heap.size 100 #[.slice e0 m.rm.length g0,.slice e1 m.gd.length g1,.slice e2 m.sm.length g2,.slice e3 m.dk.length g3,.slice e4 m.pc.length g4,.int .i64 m.now,Xg (q (VB m rank may guild))]):=Z9 (Blk.new _ _ _);have HF:=Z9 ((hf.mono (n₁:=w.heap.size+2) hsz).below hba);have h5:w.heap.size+2<=w5.heap.size:=XO hsz hb.size;replace K:=(K.next hb).next hba;replace kr:=bl (bl kr hb) hba;clear hb hf hba;obtain ⟨o0,o1,o2,o3,o4,o5⟩:=(uh kr).c6;obtain ⟨f0,f1,f2,f3,f4,f5⟩:=(uh kr).f6;go_wp2_with fail;refine ZS (v:= .tuple #[.agg E6,PU w5.heap.size]) (by simp [results,Tryz.results43,go_sem, *]) rfl ⟨?_,.inr (.inr ⟨uh Hok,hc0,w5.heap.size,e0,g0,e1,g1,e2,g2,e3,g3,e4,g4,rs5,rfl,?_,?_⟩)⟩
  ·iterate 6 (refine YO ?_ (by show _<=w.heap.size+1;omega) _)
   exact K.bb
  ·iterate 6 (refine Blk.other ?_ (by show w5.heap.size ≠ w.heap.size+1;omega) _)
   exact uh kp
  ·refine FullSmy.mono (n₀:=w.heap.size+2) ?_ (by omega)
   iterate 6 (refine FullSmy.set_off ?_ (fun k e=>by have:=((uh HF).own e).1;omega) _ _)
   exact uh HF
theorem Jt {w:World} {v0 v1 v2 v3 v4:Value} {m:Z6} {q:Int->Addr} (who:Int) (he:Errs w q) (h:Smy w v0 v1 v2 v3 v4 m):Calls Tryz.prog 17 #[.agg #[v0,v1,v2,v3,v4,.int .i64 m.now],.int .i64 who] w fun e w'=>S5 w.heap.size (WA m who).1 (WA m who).2 e w'/\Below w.heap.size w w':=by
 have HE:=Z9 he;clear he;obtain ⟨a0,p0,a1,p1,a2,p2,a3,p3,a4,p4,rfl,rfl,rfl,rfl,rfl,K⟩:=Bx.new h;clear h;replace K:=(K.alloc (.cells #[.int .i64 who] 2)).alloc (.cells E6 32)
 have kr:Hid (Blk (((w.alloc (.cells (S6 a0 p0 a1 p1 a2 p2 a3 p3 a4 p4 m) 32)).alloc (.cells #[.int .i64 who] 2)).alloc (.cells E6 32)) (w.heap.size+1+1) 32 E6):=Z9 (by
  have k:=Blk.new ((w.alloc (.cells (S6 a0 p0 a1 p1 a2 p2 a3 p3 a4 p4 m) 32)).alloc (.cells #[.int .i64 who] 2)) 32 E6;rw [Y1,Y1] at k
  exact k)
 have kc:Hid (Blk (((w.alloc (.cells (S6 a0 p0 a1 p1 a2 p2 a3 p3 a4 p4 m) 32)).alloc (.cells #[.int .i64 who] 2)).alloc (.cells E6 32)) (w.heap.size+1) 2 #[.int .i64 who]):=Z9 (by
  have k:=Blk.new (w.alloc (.cells (S6 a0 p0 a1 p1 a2 p2 a3 p3 a4 p4 m) 32)) 2 #[.int .i64 who];rw [Y1] at k
  exact k.alloc _)
 replace HE:=Z9 ((uh HE).below K.bb);have hsz:(((w.alloc (.cells (S6 a0 p0 a1 p1 a2 p2 a3 p3 a4 p4 m) 32)).alloc (.cells #[.int .i64 who] 2)).alloc (.cells E6 32)).heap.size=w.heap.size+1+1+1:=by simp
 obtain ⟨X9,hX9⟩:∃ x,QE m (Yl m who.toNat (ZG m who)) (V9 m who)=x:=⟨_,rfl⟩
 rw [zU,hX9];have HX9:=Z9 hX9;clear hX9;go_enter Tryz.func17,Tryz.ntmps17;go_upto_region 1 with fail;generalize (((w.alloc (.cells (S6 a0 p0 a1 p1 a2 p2 a3 p3 a4 p4 m) 32)).alloc (.cells #[.int .i64 who] 2)).alloc (.cells E6 32))=W1 at *;obtain ⟨c0,c1,c2,c3,c4,c5⟩:=K.cells;go_wp2_with fail;refine (Fs K.smy (uh HE) who (uh kc)).mono ?_;rintro e w2 ⟨hb,h9⟩;replace K:=K.next hb;replace kr:=bl kr hb;replace HE:=Z9 ((uh HE).below hb);clear c0 c1 c2 c3 c4 c5 kc
 rcases h9 with ⟨hm,rfl⟩ | ⟨hm,hc0,b0,r0,b1,r1,b2,r2,b3,r3,b4,r4,rs,rfl,hf⟩ | ⟨hm,hc0,p,b0,r0,b1,r1,b2,r2,b3,r3,b4,r4,rs,rfl,kp,hf⟩
 ·
  have hX0:=Z9 ((uh HX9).symm.trans (PB hm _ _));clear hb;go_wp2_with fail;refine ck (KN (uh HE)) fun w3 hb=> ?_;replace K:=K.next hb;replace kr:=bl kr hb;clear hb;obtain ⟨o0,o1,o2,o3,o4,o5⟩:=(uh kr).c6;obtain ⟨f0,f1,f2,f3,f4,f5⟩:=(uh kr).f6;go_wp2_with fail;refine ZS (v:= .tuple #[.agg E6,.int .i64 3]) (by simp [results,Tryz.results17,go_sem, *]) rfl ⟨by rw [uh hX0];exact ⟨_,_,_,_,_,[],rfl,YM _ _⟩,?_⟩
  iterate 6 (refine YO ?_ (by show _<=w.heap.size+1+1;omega) _)
  exact K.bb
 ·
  have hX0:Hid (X9=(Zn (Yl m who.toNat (ZG m who)),0)):=Z9 (by rw [<-uh HX9,hc0];exact PC hm _);have HF:=Z9 (hf.mono (n₁:=w.heap.size+1+1+1) (by omega));clear hf hb HX9;generalize Zn (Yl m who.toNat (ZG m who))=Y at *;go_wp2_with fail;refine IE.mono ?_;rintro e w3 ⟨rfl,hb⟩;replace K:=K.next hb;replace kr:=bl kr hb;replace HF:=Z9 ((uh HF).below hb);clear hb;obtain ⟨o0,o1,o2,o3,o4,o5⟩:=(uh kr).c6;obtain ⟨f0,f1,f2,f3,f4,f5⟩:=(uh kr).f6;go_wp2_with fail;refine ZS (v:= .tuple #[.agg (S6 b0 r0 b1 r1 b2 r2 b3 r3 b4 r4 Y),.int .i64 0]) (by simp [results,Tryz.results17,go_sem, *]) rfl ⟨?_,?_⟩
  ·rw [uh hX0]
   refine ⟨_,_,_,_,_,rs,rfl,?_⟩;refine FullSmy.mono (n₀:=w.heap.size+1+1+1) ?_ (by omega)
   iterate 6 (refine FullSmy.set_off ?_ (fun k e=>by have:=((uh HF).own e).1;omega) _ _)
   exact uh HF
  ·iterate 6 (refine YO ?_ (by show _<=w.heap.size+1+1;omega) _)
   exact K.bb
 ·
  have hcn:(V9 m who) ≠ 0:=by omega
  have hX0:=Z9 ((uh HX9).symm.trans (UF hm _ hcn));have HF:=Z9 (hf.mono (n₁:=w.heap.size+1+1+1) (by omega));have Hkp:=Z9 kp;clear hf hb kp hcn HX9;generalize V9 m who=cd at *;go_wp2_with fail;refine ck (KO (uh HE) hc0 (uh Hkp)) fun w3 hb=> ?_;replace K:=K.next hb;replace kr:=bl kr hb;replace HF:=Z9 ((uh HF).below hb);clear hb Hkp;obtain ⟨o0,o1,o2,o3,o4,o5⟩:=(uh kr).c6;obtain ⟨f0,f1,f2,f3,f4,f5⟩:=(uh kr).f6;go_wp2_with fail;refine ZS (v:= .tuple #[.agg (S6 b0 r0 b1 r1 b2 r2 b3 r3 b4 r4 m),.int .i64 cd]) (by simp [results,Tryz.results17,go_sem, *]) rfl ⟨?_,?_⟩
  ·rw [uh hX0]
   refine ⟨_,_,_,_,_,rs,rfl,?_⟩;refine FullSmy.mono (n₀:=w.heap.size+1+1+1) ?_ (by omega)
   iterate 6 (refine FullSmy.set_off ?_ (fun k e=>by have:=((uh HF).own e).1;omega) _ _)
   exact uh HF
  ·iterate 6 (refine YO ?_ (by show _<=w.heap.size+1+1;omega) _)
   exact K.bb
theorem Js {w:World} {v0 v1 v2 v3 v4:Value} {m:Z6} {q:Int->Addr} (rank may guild:Int) (he:Errs w q) (h:Smy w v0 v1 v2 v3 v4 m):Calls Tryz.prog 9 #[.agg #[v0,v1,v2,v3,v4,.int .i64 m.now],.int .i64 rank,.int .i64 may,.int .i64 guild] w fun e w'=>S5 w.heap.size (Ww m rank may guild).1 (Ww m rank may guild).2 e w'/\Below w.heap.size w w':=by
 have HE:=Z9 he;clear he;obtain ⟨a0,p0,a1,p1,a2,p2,a3,p3,a4,p4,rfl,rfl,rfl,rfl,rfl,K⟩:=Bx.new h;clear h;replace K:=(K.alloc (.cells E6 32)).alloc (.cells (I11 0 0 rank may guild 0 1024 0 0 0 0) 40)
 have kr:Hid (Blk (((w.alloc (.cells (S6 a0 p0 a1 p1 a2 p2 a3 p3 a4 p4 m) 32)).alloc (.cells E6 32)).alloc (.cells (I11 0 0 rank may guild 0 1024 0 0 0 0) 40)) (w.heap.size+1) 32 E6):=Z9 (by
  have k:=Blk.new (w.alloc (.cells (S6 a0 p0 a1 p1 a2 p2 a3 p3 a4 p4 m) 32)) 32 E6;rw [Y1] at k
  exact k.alloc _)
 have kc:Hid (Blk (((w.alloc (.cells (S6 a0 p0 a1 p1 a2 p2 a3 p3 a4 p4 m) 32)).alloc (.cells E6 32)).alloc (.cells (I11 0 0 rank may guild 0 1024 0 0 0 0) 40)) (w.heap.size+1+1) 40 (I11 0 0 rank may guild 0 1024 0 0 0 0)):=Z9 (by
  have k:=Blk.new ((w.alloc (.cells (S6 a0 p0 a1 p1 a2 p2 a3 p3 a4 p4 m) 32)).alloc (.cells E6 32)) 40 (I11 0 0 rank may guild 0 1024 0 0 0 0);rw [Y1,Y1] at k
  exact k)
 replace HE:=Z9 ((uh HE).below K.bb);have hsz:(((w.alloc (.cells (S6 a0 p0 a1 p1 a2 p2 a3 p3 a4 p4 m) 32)).alloc (.cells E6 32)).alloc (.cells (I11 0 0 rank may guild 0 1024 0 0 0 0) 40)).heap.size=w.heap.size+1+1+1:=by simp
 obtain ⟨X9,hX9⟩:∃ x,QE m (UQ m rank may guild) (VB m rank may guild)=x:=⟨_,rfl⟩
 rw [zw,hX9];have HX9:=Z9 hX9;clear hX9;go_enter Tryz.func9,Tryz.ntmps9;go_upto_region 2 with fail;generalize (((w.alloc (.cells (S6 a0 p0 a1 p1 a2 p2 a3 p3 a4 p4 m) 32)).alloc (.cells E6 32)).alloc (.cells (I11 0 0 rank may guild 0 1024 0 0 0 0) 40))=W1 at *;obtain ⟨c0,c1,c2,c3,c4,c5⟩:=K.cells;go_wp2_with fail;refine (Fq K.smy (uh HE) rank may guild (uh kc)).mono ?_;rintro e w2 ⟨hb,h9⟩;replace K:=K.next hb;replace kr:=bl kr hb;replace HE:=Z9 ((uh HE).below hb);clear c0 c1 c2 c3 c4 c5 kc
 rcases h9 with ⟨hm,rfl⟩ | ⟨hm,hc0,b0,r0,b1,r1,b2,r2,b3,r3,b4,r4,rs,rfl,hf⟩ | ⟨hm,hc0,p,b0,r0,b1,r1,b2,r2,b3,r3,b4,r4,rs,rfl,kp,hf⟩
 ·
  have hX0:=Z9 ((uh HX9).symm.trans (PB hm _ _));clear hb;go_wp2_with fail;refine ck (KN (uh HE)) fun w3 hb=> ?_;replace K:=K.next hb;replace kr:=bl kr hb;clear hb;obtain ⟨o0,o1,o2,o3,o4,o5⟩:=(uh kr).c6;obtain ⟨f0,f1,f2,f3,f4,f5⟩:=(uh kr).f6;go_wp2_with fail;refine ZS (v:= .tuple #[.agg E6,.int .i64 3]) (by simp [results,Tryz.results9,go_sem, *]) rfl ⟨by rw [uh hX0];exact ⟨_,_,_,_,_,[],rfl,YM _ _⟩,?_⟩
  iterate 6 (refine YO ?_ (by show _<=w.heap.size+1;omega) _)
  exact K.bb
 ·
  have hX0:Hid (X9=(Zn (UQ m rank may guild),0)):=Z9 (by rw [<-uh HX9,hc0];exact PC hm _);have HF:=Z9 (hf.mono (n₁:=w.heap.size+1+1+1) (by omega));clear hf hb HX9;generalize Zn (UQ m rank may guild)=Y at *;go_wp2_with fail;refine IE.mono ?_;rintro e w3 ⟨rfl,hb⟩;replace K:=K.next hb;replace kr:=bl kr hb;replace HF:=Z9 ((uh HF).below hb);clear hb;obtain ⟨o0,o1,o2,o3,o4,o5⟩:=(uh kr).c6;obtain ⟨f0,f1,f2,f3,f4,f5⟩:=(uh kr).f6;go_wp2_with fail;refine ZS (v:= .tuple #[.agg (S6 b0 r0 b1 r1 b2 r2 b3 r3 b4 r4 Y),.int .i64 0]) (by simp [results,Tryz.results9,go_sem, *]) rfl ⟨?_,?_⟩
  ·rw [uh hX0]
   refine ⟨_,_,_,_,_,rs,rfl,?_⟩;refine FullSmy.mono (n₀:=w.heap.size+1+1+1) ?_ (by omega)
   iterate 6 (refine FullSmy.set_off ?_ (fun k e=>by have:=((uh HF).own e).1;omega) _ _)
   exact uh HF
  ·iterate 6 (refine YO ?_ (by show _<=w.heap.size+1;omega) _)
   exact K.bb
 ·
  have hcn:(VB m rank may guild) ≠ 0:=by omega
  have hX0:=Z9 ((uh HX9).symm.trans (UF hm _ hcn));have HF:=Z9 (hf.mono (n₁:=w.heap.size+1+1+1) (by omega));have Hkp:=Z9 kp;clear hf hb kp hcn HX9;generalize VB m rank may guild=cd at *;go_wp2_with fail;refine ck (KO (uh HE) hc0 (uh Hkp)) fun w3 hb=> ?_;replace K:=K.next hb;replace kr:=bl kr hb;replace HF:=Z9 ((uh HF).below hb);clear hb Hkp;obtain ⟨o0,o1,o2,o3,o4,o5⟩:=(uh kr).c6;obtain ⟨f0,f1,f2,f3,f4,f5⟩:=(uh kr).f6;go_wp2_with fail;refine ZS (v:= .tuple #[.agg (S6 b0 r0 b1 r1 b2 r2 b3 r3 b4 r4 m),.int .i64 cd]) (by simp [results,Tryz.results9,go_sem, *]) rfl ⟨?_,?_⟩
  ·rw [uh hX0]
   refine ⟨_,_,_,_,_,rs,rfl,?_⟩;refine FullSmy.mono (n₀:=w.heap.size+1+1+1) ?_ (by omega)
   iterate 6 (refine FullSmy.set_off ?_ (fun k e=>by have:=((uh HF).own e).1;omega) _ _)
   exact uh HF
  ·iterate 6 (refine YO ?_ (by show _<=w.heap.size+1;omega) _)
   exact K.bb
open Go.ChangeShapes Go.WideShapes Go.ChangeAt Go.RowKit Go.Sort
set_option maxRecDepth 100000
theorem Qa {m:Z6} {i:Nat} (hi:i<m.sm.length):ZK (Z8 (ZM m).sm i)=ZK (Z8 m.sm i)/\(Z8 (ZM m).sm i).2=(Z8 m.sm i).2:=by
 refine ⟨(Xc m m.dk.length i hi).2.1,?_⟩;have a0:Z8 (ZM m).sm i=_:=Xd m hi m.dk.length;rw [a0]
 split<;>rfl
theorem II (m:Z6):(ZM m).sm.length=m.sm.length/\(ZM m).dk.length=m.dk.length:=⟨(ZH m m.dk.length).2.2.2.2.1,(ZH m m.dk.length).2.2.2.2.2⟩
theorem DT (m:Z6) {k:Nat} (hk:k<m.sm.length) (s:Z3) (i:Nat):Z8 (setS m k s).sm i=if i=k then s else Z8 m.sm i:=by
 unfold setS;exact ZF hk i
theorem PX (m:Z6) (k:Nat) (s:Z3):(setS m k s).sm.length=m.sm.length:=by unfold setS;simp
theorem Ee (m:Z6) (rank may guild:Int):(ZJ m=false/\Ww m rank may guild=(Ye,3))\/(ZJ m=true/\ ∃ c:Int,c ≠ 0/\Ww m rank may guild=(m,c))\/
  (ZJ m=true/\ ∃ X,Ww m rank may guild=(X,0)/\ZJ X=true/\X.sm.length=m.sm.length+1/\ ∃ b:Nat,b<m.dk.length/\ZK (Z8 X.sm m.sm.length)=true/\(Z8 X.sm m.sm.length).2=(Uq (Zt rank may guild) (b:Int) (Z8 m.dk b).2.2).2/\Vx may (b:Int)=true):=by
 cases h:ZJ m
 ·left;unfold Ww;rw [h];exact ⟨rfl,rfl⟩
 right;have hr:=Ql h rank may guild;have hlo:=ZR h;have h8:=Xi hlo;unfold Ww at hr ⊢;rw [h] at hr ⊢;simp only [if_true] at hr ⊢
 split at hr
 ·rename_i hs
  rw [if_pos hs];simp only [ZP,Y0] at hs
  split at hr
  ·rename_i hl
   rw [if_pos hl];exact .inl ⟨by trivial,4,by omega,rfl⟩
  ·rename_i hl
   rw [if_neg hl]
   split at hr
   ·rename_i hb
    rw [if_pos hb];exact .inl ⟨by trivial,2,by omega,rfl⟩
   ·rename_i hb
    rw [if_neg hb];right
    rcases XB (pushS m (Zt rank may guild)) (m.sm.length:Int) with ⟨e,_⟩ | ⟨b,hbl,e,hm⟩
    ·exact absurd (show T0 m (Zt rank may guild)<0 by unfold T0;rw [e];omega) hb
    have ec:T0 m (Zt rank may guild)=(b:Int):=e;rw [ec] at hr ⊢;have hpl:(pushS m (Zt rank may guild)).sm.length=m.sm.length+1:=by unfold pushS;simp
    have hat:Z8 (pushS m (Zt rank may guild)).sm m.sm.length=Zt rank may guild:=by
     show Z8 (m.sm++[Zt rank may guild]) m.sm.length=_;rw [XW,if_pos rfl]
    unfold YH at hm;simp only [ZP,Zy] at hm;rw [hat] at hm;have hk:m.sm.length<(pushS m (Zt rank may guild)).sm.length:=by omega
    have hk2:m.sm.length<(setS (pushS m (Zt rank may guild)) m.sm.length (Uq (Zt rank may guild) (b:Int) (Yo m (b:Int)))).sm.length:=by rw [PX];omega
    obtain ⟨t1,t2⟩:=Qa hk2;rw [DT _ hk,if_pos rfl] at t1 t2;obtain ⟨_,_,_,⟨y0,y1⟩,_⟩:=Zo (Tm hs.1);have hbd:b<m.dk.length:=hbl;refine ⟨by trivial,_,rfl,hr,by rw [(II _).1,PX,hpl],b,hbd,t1,?_,?_⟩
    ·rw [t2]
     show (Uq (Zt rank may guild) (b:Int) (Yo m (b:Int))).2=_;unfold Yo;rw [Zy]
    ·unfold Vx
     rw [Zp (by omega) (by omega),Zp (by omega) (by omega)];exact hm.2
 ·rename_i hs
  rw [if_neg hs];exact .inl ⟨by trivial,3,by omega,rfl⟩
theorem BF {m:Z6} (h:Loose m) {k b:Nat} (hk:k<m.sm.length) (hs:(Z8 m.sm k).1 ≠ 0) (hb:b<m.dk.length):Wz m (Z8 m.sm k) (b:Int)-(Z8 m.dk b).2.2=max (WN (Z8 m.sm k)-(Z8 m.dk (Z8 m.sm k).2.1.toNat).2.2) (-20000):=by
 obtain ⟨hp,_,hbe⟩:=h.limits hk hs;obtain ⟨m0,m1⟩:=VC (h.desk b hb);have hgen:∃ st be rk my gu lo hi hd ca ut wk,Z8 m.sm k=(st,be,rk,my,gu,lo,hi,hd,ca,ut,wk):=⟨_,_,_,_,_,_,_,_,_,_,_,rfl⟩
 obtain ⟨st,be,rk,my,gu,lo,hi,hd,ca,ut,wk,e⟩:=hgen;rw [e] at hp hbe ⊢;obtain ⟨_,⟨b0,b1⟩,_,_,_,_,⟨d0,d1⟩,_⟩:=Zo hp;have hbe2:be<(m.dk.length:Int):=hbe;have hba:be.toNat<m.dk.length:=by omega
 obtain ⟨n0,n1⟩:=VC (h.desk be.toNat hba);show Zj (Zq hd (Z8 m.dk be.toNat).2.2 (Z8 m.dk ((b:Int)).toNat).2.2) (Z8 m.dk ((b:Int)).toNat).2.2-_=max (hd-(Z8 m.dk be.toNat).2.2) (-20000);rw [Zy];generalize (Z8 m.dk be.toNat).2.2=f at *;generalize (Z8 m.dk b).2.2=t at *;have e1:Xe hd=true:=Zp (by omega) (by omega);have e2:Xe f=true:=Zp (by omega) (by omega);have e3:Xe t=true:=Zp (by omega) (by omega);unfold Zj Zq;rw [e1,e2,e3];simp only [Bool.and_self,if_true];omega
theorem FF (m:Z6) (who:Int):(ZJ m=false/\WA m who=(Ye,3))\/(ZJ m=true/\ ∃ c:Int,c ≠ 0/\WA m who=(m,c))\/
  (ZJ m=true/\ ∃ X,WA m who=(X,0)/\ZJ X=true/\X.sm.length=m.sm.length/\ ∃ k b:Nat,who=(k:Int)/\k<m.sm.length/\b<m.dk.length/\(Z8 m.sm k).1=1/\ZG m who=(b:Int)/\(Z8 X.sm k).2=(Uq (Z8 m.sm k) (b:Int) (Wz m (Z8 m.sm k) (b:Int))).2):=by
 cases h:ZJ m
 ·left;unfold WA;rw [h];exact ⟨rfl,rfl⟩
 right;have hr:=Nr h who;have hch:ZG m who=if WL m who then Y3 m who else -1:=by unfold ZG;rw [h];rfl
 unfold WA at hr ⊢;rw [h] at hr ⊢;simp only [if_true] at hr ⊢;by_cases hw:WL m who=true;rotate_left
 ·rw [if_neg hw];exact .inl ⟨by trivial,1,by omega,rfl⟩
 rw [if_pos hw] at hr hch ⊢;by_cases hst:(Z8 m.sm who.toNat).1=1;rotate_left
 ·rw [if_neg hst];exact .inl ⟨by trivial,2,by omega,rfl⟩
 rw [if_pos hst] at hr ⊢;by_cases hc:Y3 m who<0
 ·rw [if_pos hc];exact .inl ⟨by trivial,2,by omega,rfl⟩
 rw [if_neg hc] at hr ⊢;by_cases hl:YK (Yl m who.toNat (Y3 m who))=true;rotate_left
 ·rw [if_neg hl];exact .inl ⟨by trivial,4,by omega,rfl⟩
 rw [if_pos hl] at hr ⊢;right;obtain ⟨k,rfl,hk,_⟩:=XS hw;rw [Zy] at hst hr ⊢
 rcases XB m (k:Int) with ⟨e,_⟩ | ⟨b,hb,e,_⟩
 ·exact absurd (by rw [e];omega) hc
 rw [e] at hr hch ⊢;have hk2:k<(Yl m k (b:Int)).sm.length:=by unfold Yl;rw [PX];exact hk
 obtain ⟨_,t2⟩:=Qa hk2;refine ⟨by trivial,_,rfl,hr,by rw [(II _).1];unfold Yl;rw [PX],k,b,rfl,hk,hb,hst,hch,?_⟩;rw [t2];unfold Yl;rw [DT m hk,if_pos rfl]
end Go.Proofs.YtamgfpdahadnfaaGreatDoor
namespace Go.Proofs.YtamgfpdahadnfaaGreatDoor.Draw
open Go.ChangeShapes Go.WideShapes Go.ChangeAt Go.RowKit
set_option linter.unusedVariables false
theorem Z9 {p:Prop} (h:p):Hid p:=h
theorem uh {p:Prop} (h:Hid p):p:=h
theorem ZC {k:IntKind} {a b:Int} (h:a=b):Ending.returned (.int k a)= .returned (.int k b):=by rw [h]
theorem Sy (n:Int):bits .and .i64 n 255=n%256:=by
 have h127:(BitVec.ofInt 64 255).toNat=2 ^ 8-1:=by decide
 have key:(BitVec.ofInt 64 n &&& BitVec.ofInt 64 255).toNat=(n%((2 ^ 64:Nat):Int)).toNat%2 ^ 8:=by
  rw [BitVec.toNat_and,BitVec.toNat_ofInt,h127,Nat.and_two_pow_sub_one_eq_mod]
 show IntKind.i64.wrap ((BitVec.ofInt 64 n &&& BitVec.ofInt 64 255).toNat:Nat)=n%256;rw [key,IntKind.wrap_i64];omega
structure Off (bc:Nat) (w w':World):Prop where
 os:w'.os=w.os
 tape:w'.tape=w.tape
 output:w'.output=w.output
 size:w.heap.size<=w'.heap.size
 block:∀ k,k<w.heap.size->k ≠ bc->w'.heap[k]?=w.heap[k]?
theorem Off.refl (bc:Nat) (w:World):Off bc w w:=⟨rfl,rfl,rfl,Z1 _,fun _ _ _=>rfl⟩
theorem Off.trans {bc:Nat} {a b c:World} (h:Off bc a b) (k:Off bc b c):Off bc a c:=
 ⟨k.os.trans h.os,k.tape.trans h.tape,k.output.trans h.output,XO h.size k.size,fun i hi hn=>(k.block i (Zf hi h.size) hn).trans (h.block i hi hn)⟩
theorem Off.drewN {bc:Nat} {a w:World} (h:Off bc a w) (n:Nat):Off bc a (w.drewN n):=⟨h.os,h.tape,h.output,h.size,h.block⟩
theorem Off.alloc {bc:Nat} {a w:World} (h:Off bc a w) (o:Obj):Off bc a (w.alloc o):=
 h.trans ⟨rfl,rfl,rfl,by simp,fun k hk _=>Below.heap_alloc w o k hk⟩
theorem Off.setCell {bc:Nat} {a w:World} (h:Off bc a w) (o:Nat) (v:Value):Off bc a (w.setCell ⟨bc,o,none⟩ v):=
 h.trans ⟨rfl,rfl,rfl,by simp,fun k hk hn=>Below.heap_setCell w ⟨bc,o,none⟩ v k hn⟩
theorem Off.below {bc:Nat} {a w:World} (h:Off bc a w) {B:Nat} (hB:B<=bc) (hs:B<=a.heap.size):Below B a w:=
 ⟨h.os,h.tape,h.output,h.size,fun k hk=>h.block k (Zf hk hs) (by omega)⟩
theorem Off.cell {bc:Nat} {w w':World} (h:Off bc w w') {p:Addr} (hp:p.block<w.heap.size) (hn:p.block ≠ bc):w'.cell? p=w.cell? p:=
 World.cell?_of_block (w:=w) (h.block p.block hp hn)
theorem Oj (w:World) (o:Nat):w.frozen? ⟨w.heap.size,o,none⟩=false:=by simp [World.frozen?]
def Row (B:Nat) (w:World) (a:Option Addr) (len:Nat):Prop:=
 len<=4096/\(len=0\/ ∃ b off,a=some ⟨b,off,none⟩/\b<B/\ ∀ i,i<len-> ∃ n:Int,0<=n/\n<=255/\w.cell? ⟨b,off+i,none⟩=some (.int .u8 n))
def Cur (a:Option Addr) (len cap bc:Nat) (w:World):Prop:=
 bc<w.heap.size/\ ∃ i h:Int,0<=i/\i<=4096/\w.cell? ⟨bc,0,none⟩=some (.slice a len cap)/\w.cell? ⟨bc,1,none⟩=some (.int .i64 i)/\w.cell? ⟨bc,2,none⟩=some (.int .i64 h)
  /\w.frozen? ⟨bc,1,none⟩=false/\w.frozen? ⟨bc,2,none⟩=false
structure St (a:Option Addr) (len cap bc:Nat) (w:World):Prop where
 cur:Cur a len cap bc w
 row:Row bc w a len
theorem Row.off {bc:Nat} {w w':World} {a:Option Addr} {len:Nat} (h:Row bc w a len) (ho:Off bc w w') (hb:bc<=w.heap.size):Row bc w' a len:=by
 refine ⟨h.1,?_⟩
 rcases h.2 with h0 | ⟨b,off,ha,hlt,hc⟩
 ·exact .inl h0
 ·refine .inr ⟨b,off,ha,hlt,fun i hi=> ?_⟩
  obtain ⟨n,n0,n1,hn⟩:=hc i hi;exact ⟨n,n0,n1,by rw [ho.cell (p:=⟨b,off+i,none⟩) (Nat.lt_of_lt_of_le hlt hb) (Nat.ne_of_lt hlt)];exact hn⟩
theorem St.drewN {a:Option Addr} {len cap bc:Nat} {w:World} (h:St a len cap bc w) (n:Nat):St a len cap bc (w.drewN n):=⟨h.cur,h.row⟩
theorem St.alloc {a:Option Addr} {len cap bc:Nat} {w:World} (h:St a len cap bc w) (o:Obj):St a len cap bc (w.alloc o):=by
 obtain ⟨⟨hb,i,x,h0,h1,c0,c1,c2,f1,f2⟩,hr⟩:=h;have hne:∀ o,(⟨bc,o,none⟩:Addr).block ≠ w.heap.size:=fun _=>U3 hb;refine ⟨⟨by simp;omega,i,x,h0,h1,?_,?_,?_,?_,?_⟩,hr.off ((Off.refl _ _).alloc o) (Nat.le_of_lt hb)⟩
 ·rw [World.cell?_alloc_old _ _ _ (hne 0)];exact c0
 ·rw [World.cell?_alloc_old _ _ _ (hne 1)];exact c1
 ·rw [World.cell?_alloc_old _ _ _ (hne 2)];exact c2
 ·rw [World.frozen?_alloc_old _ _ _ (hne 1)];exact f1
 ·rw [World.frozen?_alloc_old _ _ _ (hne 2)];exact f2
theorem St.setH {a:Option Addr} {len cap bc:Nat} {w:World} (h:St a len cap bc w) (x:Int):St a len cap bc (w.setCell ⟨bc,2,none⟩ (.int .i64 x)):=by
 obtain ⟨⟨hb,i,y,h0,h1,c0,c1,c2,f1,f2⟩,hr⟩:=h;refine ⟨⟨by simpa using hb,i,x,h0,h1,?_,?_,?_,?_,?_⟩,hr.off ((Off.refl _ _).setCell 2 _) (Nat.le_of_lt hb)⟩
 ·rw [World.cell?_setCell_other _ _ _ _ (by simp)];exact c0
 ·rw [World.cell?_setCell_other _ _ _ _ (by simp)];exact c1
 ·exact World.cell?_setCell_same _ _ _ c2
 ·rw [World.frozen?_setCell];exact f1
 ·rw [World.frozen?_setCell];exact f2
theorem St.setI {a:Option Addr} {len cap bc:Nat} {w:World} (h:St a len cap bc w) (x:Int) (x0:0<=x) (x1:x<=4096):St a len cap bc (w.setCell ⟨bc,1,none⟩ (.int .i64 x)):=by
 obtain ⟨⟨hb,i,y,h0,h1,c0,c1,c2,f1,f2⟩,hr⟩:=h;refine ⟨⟨by simpa using hb,x,y,x0,x1,?_,?_,?_,?_,?_⟩,hr.off ((Off.refl _ _).setCell 1 _) (Nat.le_of_lt hb)⟩
 ·rw [World.cell?_setCell_other _ _ _ _ (by simp)];exact c0
 ·exact World.cell?_setCell_same _ _ _ c1
 ·rw [World.cell?_setCell_other _ _ _ _ (by simp)];exact c2
 ·rw [World.frozen?_setCell];exact f1
 ·rw [World.frozen?_setCell];exact f2
theorem Rj (a:Option Addr) (len cap bc:Nat) (w:World) (hs:St a len cap bc w) :
  Calls Tryz.prog 91 #[.pointer (some ⟨bc,0,none⟩)] w fun e w'=> ∃ x:Int,e= .returned (.int .i64 x)/\0<=x/\x<=255/\St a len cap bc w'/\Off bc w w':=by
 have Hs:=Z9 hs;obtain ⟨⟨hb,i,h,h0,h1,c0,c1,c2,f1,f2⟩,hl,hr⟩:=hs;by_cases hge:i<(len:Int)
 ·have Hr:=Z9 hr
  rcases hr with hr | ⟨b,off,rfl,hlt,hc⟩
  ·omega
  obtain ⟨k,rfl⟩:=Int.eq_ofNat_of_zero_le h0;obtain ⟨n,n0,n1,hn⟩:=hc k (by omega);have hneb:b ≠ bc:=U3 hlt;clear hc Hr;go_enter Tryz.func91,Tryz.ntmps91;go_wp2_with fail;go_quiet (fail);go_wp2_with fail;go_quiet (fail);go_wp2_with fail;go_quiet (fail);go_wp2_with fail;go_ret;refine ⟨_,rfl,?_,?_,(((uh Hs).setH _).drewN _).setI _ (by omega) (by omega),(((Off.refl _ _).setCell 2 _).drewN _).setCell 1 _⟩
  ·rw [Sy];omega
  ·rw [Sy];omega
 ·go_enter Tryz.func91,Tryz.ntmps91
  go_wp2_with fail;go_quiet (fail);go_wp2_with fail;go_quiet (fail);go_wp2_with fail;go_ret;refine ⟨_,rfl,?_,?_,(((uh Hs).setH _).drewN _).drewN _,(((Off.refl _ _).setCell 2 _).drewN _).drewN _⟩
  ·rw [Sy];omega
  ·rw [Sy];omega
theorem below_any (a:Option Addr) (len cap bc:Nat) (n:Int) (hn:0<n) (hm:n<=4611686018427387904) (w:World) (hs:St a len cap bc w) :
  Calls Tryz.prog 41 #[.pointer (some ⟨bc,0,none⟩),.int .i64 n] w fun e w'=> ∃ x:Int,e= .returned (.int .i64 x)/\0<=x/\x<n/\St a len cap bc w'/\Off bc w w':=by
 have Hs:=Z9 hs;clear hs;by_cases h256:n<=256
 ·go_enter Tryz.func41,Tryz.ntmps41
  go_wp2_with fail;refine (Rj a len cap bc _ (uh Hs)).mono ?_;rintro e w1 ⟨x,rfl,x0,x1,s1,o1⟩;have Hs1:=Z9 s1;have Ho1:=Z9 o1;clear s1 o1;go_wp2_with fail;go_ret;exact ⟨_,rfl,Int.emod_nonneg _ (by omega),Int.emod_lt_of_pos _ hn,uh Hs1,uh Ho1⟩
 ·go_enter Tryz.func41,Tryz.ntmps41
  go_wp2_with fail;refine (Rj a len cap bc _ (uh Hs)).mono ?_;rintro e w1 ⟨x,rfl,x0,x1,s1,o1⟩;have Hs1:=Z9 s1;have Ho1:=Z9 o1;clear s1 o1;go_wp2_with fail;refine (Rj a len cap bc _ (uh Hs1)).mono ?_;rintro e w2 ⟨y,rfl,y0,y1,s2,o2⟩;have Hs2:=Z9 s2;have Ho2:=Z9 o2;clear s2 o2;go_wp2_with fail;refine (Rj a len cap bc _ (uh Hs2)).mono ?_;rintro e w3 ⟨z,rfl,z0,z1,s3,o3⟩;have Hs3:=Z9 s3;have Ho3:=Z9 o3;clear s3 o3;go_wp2_with fail;refine (Rj a len cap bc _ (uh Hs3)).mono ?_;rintro e w4 ⟨v,rfl,v0,v1,s4,o4⟩;have Hs4:=Z9 s4;have Ho4:=Z9 o4;clear s4 o4;go_wp2_with fail;go_ret;exact ⟨_,rfl,Int.emod_nonneg _ (by omega),Int.emod_lt_of_pos _ hn,uh Hs4,(((uh Ho1).trans (uh Ho2)).trans (uh Ho3)).trans (uh Ho4)⟩
theorem once_any (a:Option Addr) (len cap bc:Nat) (n:Int) (hn:0<n) (hm:n<=4611686018427387904) (w:World) (hs:St a len cap bc w) :
  Calls Tryz.prog 40 #[.pointer (some ⟨bc,0,none⟩),.int .i64 n] w fun e w'=> ∃ b:Bool,e= .returned (.bool b)/\St a len cap bc w'/\Off bc w w':=by
 have Hs:=Z9 hs;clear hs;go_enter Tryz.func40,Tryz.ntmps40;go_wp2_with fail;refine (below_any a len cap bc n hn hm _ (uh Hs)).mono ?_;rintro e w1 ⟨x,rfl,x0,x1,s1,o1⟩;have Hs1:=Z9 s1;have Ho1:=Z9 o1;clear s1 o1;go_wp2_with fail;go_ret;exact ⟨_,rfl,uh Hs1,uh Ho1⟩
theorem from_any (a:Option Addr) (len cap bc:Nat) (lo hi:Int) (h:lo<=hi) (h1 : -1000000000000<=lo) (h2:hi<=1000000000000) (w:World) (hs:St a len cap bc w) :
  Calls Tryz.prog 39 #[.pointer (some ⟨bc,0,none⟩),.int .i64 lo,.int .i64 hi] w fun e w'=> ∃ x:Int,e= .returned (.int .i64 x)/\lo<=x/\x<=hi/\St a len cap bc w'/\Off bc w w':=by
 have Hs:=Z9 hs;clear hs;go_enter Tryz.func39,Tryz.ntmps39;go_wp2_with fail;refine (below_any a len cap bc _ (by omega) (by omega) _ (uh Hs)).mono ?_;rintro e w1 ⟨x,rfl,x0,x1,s1,o1⟩;have Hs1:=Z9 s1;have Ho1:=Z9 o1;clear s1 o1;go_wp2_with fail;go_ret;exact ⟨_,rfl,by omega,by omega,uh Hs1,uh Ho1⟩
theorem yJ {a:Option Addr} {len cap:Nat} {w:World} (hr:Row w.heap.size w a len) {t:TypeId} (x:Int):St a len cap w.heap.size (w.alloc (.cells #[.slice a len cap,.int .i64 0,.int .i64 x] t)):=by
 refine ⟨⟨by simp,0,x,by omega,by omega,?_,?_,?_,?_,?_⟩,hr.off ((Off.refl _ _).alloc _) (Z1 _)⟩
 ·simp
 ·simp
 ·simp
 ·rw [frozen?_alloc_cells];exact Oj _ _
 ·rw [frozen?_alloc_cells];exact Oj _ _
theorem new_any (a:Option Addr) (len cap:Nat) (w:World) (hr:Row w.heap.size w a len) :
  Calls Tryz.prog 37 #[.slice a len cap] w fun e w'=>e= .returned (.pointer (some ⟨w.heap.size,0,none⟩))/\St a len cap w.heap.size w'/\Off w.heap.size w w':=by
 have Hr:=Z9 hr;obtain ⟨hl,hr⟩:=hr;have Hc:=Z9 hr;clear hr;go_enter Tryz.func37,Tryz.ntmps37;go_wp2_with fail
 go_loop [3,4] (fun t i=> ∃ k:Nat,k<=len/\i= .int .i64 k/\ ∃ x:Int,t= .int .i64 x) (fun _ i=>len-(intOf i).toNat)
 case atStart=>exact ⟨0,Zz _,rfl,_,rfl⟩
 case round=>
  obtain ⟨k,hk,rfl,x,rfl⟩:=hrel;by_cases hlt:k<len
  ·rcases uh Hc with h0 | ⟨b,off,rfl,hb,hc⟩
   ·omega
   obtain ⟨n,n0,n1,hn⟩:=hc k hlt;clear hc;go_wp2_with fail
   go_round
   case rel=>exact ⟨k+1,by omega,by go_num,_,rfl⟩
   case measure=>simp [intOf];omega
  ·go_wp2_with fail
   go_ret;refine ⟨rfl,yJ (uh Hr) _,(Off.refl _ _).alloc _⟩
def IsRow (k:IntKind) (w:World) (a:Option Addr) (len cap:Nat) (zs:List Int):Prop:=
 (a=none/\len=0/\cap=0/\zs=[])\/
 ∃ x,a=some x/\len<=cap/\cap<=maxLen/\zs.length=cap/\(∀ i,i<zs.length->w.cell? (x.add i)=some (.int k (zs.getD i 0)))/\ ∀ n ∈ zs,(Lit.int k n).wf=true
theorem JK {w:World} {a:Option Addr} {len cap:Nat} {zs:List Int} (h:IsRow .u8 w a len cap zs) (hl:len<=4096):Row w.heap.size w a len:=by
 refine ⟨hl,?_⟩
 rcases h with ⟨_,h0,_,_⟩ | ⟨x,rfl,hlc,hm,hz,hcell,hwz⟩
 ·exact .inl h0
 ·by_cases h0:len=0
  ·exact .inl h0
  ·obtain ⟨b,off,spot⟩:=x
   have hc:=hcell 0 (by omega);have hspot:spot=none:=by simpa [Addr.add] using World.cell?_spot hc
   subst hspot;have hlt:=World.block_lt_of_cell? _ _ hc;refine .inr ⟨b,off,rfl,hlt,fun i hi=> ?_⟩;have hiz:i<zs.length:=by omega
   have hb:=bounds_u8 (hwz zs[i] (List.getElem_mem hiz));have hci:=hcell i hiz;rw [show zs.getD i 0=zs[i] from by simp [List.getD,hiz]] at hci;refine ⟨zs[i],hb.1,hb.2,?_⟩;by_cases hi0:i=0
   ·subst hi0;simpa [Addr.add] using hci
   ·simpa [Addr.add,hi0] using hci
theorem row_below {B:Nat} {w w':World} {a:Option Addr} {len:Nat} (h:Row B w a len) (hb:Below B w w'):Row B w' a len:=by
 refine ⟨h.1,?_⟩
 rcases h.2 with h0 | ⟨b,off,ha,hlt,hc⟩
 ·exact .inl h0
 ·refine .inr ⟨b,off,ha,hlt,fun i hi=> ?_⟩
  obtain ⟨n,n0,n1,hn⟩:=hc i hi;exact ⟨n,n0,n1,by rw [hb.cell (p:=⟨b,off+i,none⟩) hlt];exact hn⟩
theorem yP {B B':Nat} {w:World} {a:Option Addr} {len:Nat} (h:Row B w a len) (hB:B<=B'):Row B' w a len:=by
 refine ⟨h.1,?_⟩
 rcases h.2 with h0 | ⟨b,off,ha,hlt,hc⟩
 ·exact .inl h0
 ·exact .inr ⟨b,off,ha,Zf hlt hB,hc⟩
theorem row_later {w w':World} {a:Option Addr} {len:Nat} (h:Row w.heap.size w a len) (hb:Below w.heap.size w w'):Row w'.heap.size w' a len:=yP (row_below h hb) hb.size
theorem I8 (a:Option Addr) (len cap:Nat) (w:World) (hl:len<=4096):Calls Tryz.prog 7 #[.slice a len cap] w fun e w'=>e= .returned (.bool false)/\w'=w:=by
 have h:¬ (4096:Int)<len:=by omega
 go_enter Tryz.func7,Tryz.ntmps7
 go_wp2
 go_ret;exact ⟨rfl,rfl⟩
theorem NF (a:Option Addr) (len cap:Nat) (w:World) (hl:4096<len):Calls Tryz.prog 7 #[.slice a len cap] w fun e w'=>e= .returned (.bool true)/\w'=w:=by
 have h:(4096:Int)<len:=by omega
 go_enter Tryz.func7,Tryz.ntmps7
 go_wp2
 go_ret;exact ⟨rfl,rfl⟩
def isI64:Value->Bool
 | .int .i64 _=>true
 | _=>false
theorem pick_any (cs:Array Value) (j:Nat) (hj:j<cs.size) (h:cs.toList.all isI64=true):∃ v:Int,cs[j]?=some (.int .i64 v):=by
 rw [Array.all_toList,Array.all_eq_true] at h;have:=h j hj;rw [Array.getElem?_eq_getElem hj];generalize cs[j]=c at *;unfold isI64 at this
 split at this
 ·exact ⟨_,rfl⟩
 ·cases this
end Go.Proofs.YtamgfpdahadnfaaGreatDoor.Draw
namespace Go.Proofs.YtamgfpdahadnfaaGreatDoor
open Go.ChangeShapes Go.WideShapes Go.ChangeAt Go.RowKit Go.Sort
open Draw (St Off Row Cur)
set_option linter.unusedVariables false
theorem Xz {a:Option Addr} {len cap bc:Nat} {w w':World} (h:St a len cap bc w) (hb:Below (bc+1) w w'):St a len cap bc w':=by
 obtain ⟨⟨hlt,i,x,h0,h1,c0,c1,c2,f1,f2⟩,hr⟩:=h;have hc:∀ o,w'.cell? ⟨bc,o,none⟩=w.cell? ⟨bc,o,none⟩:=fun o=>hb.cell (p:=⟨bc,o,none⟩) (Nat.lt_succ_self bc);have hf:∀ o,w'.frozen? ⟨bc,o,none⟩=w.frozen? ⟨bc,o,none⟩:=fun o=>hb.frozen (p:=⟨bc,o,none⟩) (Nat.lt_succ_self bc);refine ⟨⟨Zf hlt hb.size,i,x,h0,h1,(hc 0).trans c0,(hc 1).trans c1,(hc 2).trans c2,(hf 1).trans f1,(hf 2).trans f2⟩,Draw.row_below hr (hb.mono (Nat.le_succ bc))⟩
theorem Wy {a:Option Addr} {len cap bc:Nat} {w:World} (h:St a len cap bc w):bc<w.heap.size:=h.cur.1
theorem Tn {bc:Nat} {a b c:World} (h:Off bc a b) (k:Below a.heap.size b c):Off bc a c:=
 ⟨k.os.trans h.os,k.tape.trans h.tape,k.output.trans h.output,XO h.size k.size,fun i hi hn=>(k.block i hi).trans (h.block i hi hn)⟩
theorem RM {bc:Nat} {w w':World} (h:Off bc w.drew w'):Off bc w w':=⟨h.os,h.tape,h.output,h.size,h.block⟩
theorem Rd {a:Option Addr} {len cap bc:Nat} {w:World} (h:St a len cap bc w):St a len cap bc w.drew:=⟨h.cur,h.row⟩
theorem Kq {bc:Nat} {w w':World} {cs:Array Value} {t:TypeId} {j:Int} (p:Off bc (w.alloc (.cells cs t)) w') (hb:bc<w.heap.size) (h0:0<=j) (h1:j<cs.size) (hz:cs.toList.all Draw.isI64=true):∃ v,w'.cell? ⟨w.heap.size,j.toNat,none⟩=some (.int .i64 v):=by
 obtain ⟨v,hv⟩:=Draw.pick_any cs j.toNat (by omega) hz;exact ⟨v,by rw [p.cell (p:=⟨w.heap.size,j.toNat,none⟩) (by simp) (by simp;omega),World.cell?_alloc_at _ _ _ _ rfl];exact hv⟩
theorem FullSmy.away {n₀ bc:Nat} {w w':World} {v0 v1 v2 v3 v4:Value} {m:Z6} {qs:List (ZX × Value)} (h:FullSmy n₀ w v0 v1 v2 v3 v4 m qs) (ho:Off bc w w') (hb:bc<n₀):FullSmy n₀ w' v0 v1 v2 v3 v4 m qs:=
 h.keep fun k e=>ho.block k (h.own e).2 (by have:=(h.own e).1;omega)
theorem Blk.away {bc R:Nat} {w w':World} {t:TypeId} {cs:Array Value} (h:Blk w R t cs) (ho:Off bc w w') (hb:R ≠ bc):Blk w' R t cs:=h.same (ho.block R h.lt hb)
theorem VP {bc:Nat} {w w':World} (h:Below w.heap.size w w'):Off bc w w':=⟨h.os,h.tape,h.output,h.size,fun k hk _=>h.block k hk⟩
theorem Off.newer {bc tb:Nat} {w0 w:World} (h:Off bc w0 w) (ht:w0.heap.size<=tb) (o:Nat) (v:Value):Off bc w0 (w.setCell ⟨tb,o,none⟩ v):=
 ⟨h.os,h.tape,h.output,by simpa using h.size,fun k hk hn=>(heap_setCell_other _ _ _ _ (by show k ≠ tb;omega)).trans (h.block k hk hn)⟩
theorem St.newer {a:Option Addr} {len cap bc tb:Nat} {w:World} (h:St a len cap bc w) (ht:bc<tb) (o:Nat) (v:Value):St a len cap bc (w.setCell ⟨tb,o,none⟩ v):=
 Xz h ((ZZ _ _).setCell (p:=⟨tb,o,none⟩) (by show bc+1<=tb;omega) _)
set_option linter.unusedSimpArgs false
set_option maxRecDepth 100000
end Go.Proofs.YtamgfpdahadnfaaGreatDoor
