/- Part 38 of what the proof rests on. No condition but those that a theorem names. -/
import Derived.Test.YtamgfpdahadnfaaGreatDoorXf35
set_option maxHeartbeats 8000000
set_option maxRecDepth 100000
namespace Go.Proofs.YtamgfpdahadnfaaGreatDoor
open Go.ChangeShapes Go.WideShapes Go.ChangeAt Go.RowKit Go.Sort Go.Shelf
set_option linter.unusedVariables false
set_option linter.unusedSimpArgs false
set_option maxRecDepth 100000
variable {w w' w0 w1 w2 w3 w₀ wr W W' X A B C : World} {v v0 v1 v2 v3 v4 u u0 u1 u2 u3 u4 : Value} {m : Z6}
theorem CM  {m X:Z6} {c:Int} {q:Int->Addr} {cb:Nat} (h:Smy w v0 v1 v2 v3 v4 m) (he:Errs w q) (H:∀ (w1 W:World) (R:Nat) (v0 v1 v2 v3 v4:Value) (rs:List (ZZ × Value)),Below w.heap.size w w1->ZF m=true->Nx w1 W R v0 v1 v2 v3 v4 m rs->Calls Tryz.prog 130 #[.pointer (some ⟨R,0,none⟩),.pointer (some ⟨cb,0,none⟩)] W fun e W'=>Chg w1 R q X c e W'):Calls Tryz.prog 43 #[.agg #[v0,v1,v2,v3,v4,.int .i64 m.now],.func (Fn.func 130) #[] #[.pointer (some ⟨cb,0,none⟩)]] w fun e w'=>Tr w q m X c e w':=by
 obtain ⟨ok,hok⟩:∃ x,ZF m=x:=⟨_,rfl⟩
 have Hok:=Z9 hok;clear hok;have HE:=Z9 he;have HH:=Z9 H;have Hlow:Hid (0<w.heap.size):=Z9 (World.block_lt_of_cell? _ _ he.c3);clear he H;obtain ⟨a0,p0,a1,p1,a2,p2,a3,p3,a4,p4,rfl,rfl,rfl,rfl,rfl,K⟩:=Bx.new h;clear h;replace K:=K.alloc (.cells E6 32)
 have kr:Hid (Blk ((w.alloc (.cells (S6 a0 p0 a1 p1 a2 p2 a3 p3 a4 p4 m) 32)).alloc (.cells E6 32)) (w.heap.size+1) 32 E6):=Z9 (by
  have k:=Blk.new (w.alloc (.cells (S6 a0 p0 a1 p1 a2 p2 a3 p3 a4 p4 m) 32)) 32 E6;rw [Y8] at k
  exact k)
 replace HE:=Z9 ((uh HE).below K.bb);go_enter Tryz.func43,Tryz.ntmps43;go_wp2_with fail;generalize ((w.alloc (.cells (S6 a0 p0 a1 p1 a2 p2 a3 p3 a4 p4 m) 32)).alloc (.cells E6 32))=W1 at *;refine ck (Uc _ _ _ _ _ _ _ _ (uh Hok) K.smy) fun w1 hb=> ?_;replace K:=K.next hb;replace kr:=bl kr hb;replace HE:=Z9 ((uh HE).below hb);clear hb;cases ok
 ·
  have x1:=(uh HE).c3;obtain ⟨o0,o1,o2,o3,o4,o5⟩:=(uh kr).c6;obtain ⟨f0,f1,f2,f3,f4,f5⟩:=(uh kr).f6;go_wp2_with fail
  go_region
  all_goals (try go_wp2_with fail)
  all_goals (refine ZQ (v:= .tuple #[.agg E6,YA (q 3)]) (by simp [results,Tryz.results43,go_sem, *]) rfl ⟨?_,.inl ⟨uh Hok,rfl⟩⟩)
  all_goals (refine Below.drew ?_)
  all_goals (iterate 6 (refine YF ?_ (by show _<=w.heap.size+1;omega) _))
  all_goals (exact K.bb)
 have HFew:=Z9 (WJ (ZM (uh Hok)));have Hbw:=K.bb;obtain ⟨c0,c1,c2,c3,c4,c5⟩:=K.cells;go_wp2_with fail;have hw1:w.heap.size+2<=w1.heap.size:=by have:=(uh kr).lt;omega
 refine (Vj K.smy (uh HFew)).mono ?_;rintro e w2 ⟨u0,u1,u2,u3,u4,rs,rfl,hf,hb⟩;clear c0 c1 c2 c3 c4 c5;obtain ⟨b0,r0,b1,r1,b2,r2,b3,r3,b4,r4,rfl,rfl,rfl,rfl,rfl⟩:=Wh hf
 have N1:Nx w1 (w2.alloc (.cells (S6 b0 r0 b1 r1 b2 r2 b3 r3 b4 r4 m) 32)) w2.heap.size (.slice b0 m.rm.length r0) (.slice b1 m.gd.length r1) (.slice b2 m.sm.length r2) (.slice b3 m.dk.length r3) (.slice b4 m.pc.length r4) m rs:=by
  have hba:Below w2.heap.size w2 (w2.alloc (.cells (S6 b0 r0 b1 r1 b2 r2 b3 r3 b4 r4 m) 32)):=ba _ _;exact ⟨hf.below hba,Blk.new _ _ _,fun k e=>by have:=(hf.own e).2;omega,hb.trans (hba.mono hb.size),hb.size⟩
 have HN:=Z9 N1;clear N1 hf hb;go_upto_region 4 with fail;generalize w2.alloc (.cells (S6 b0 r0 b1 r1 b2 r2 b3 r3 b4 r4 m) 32)=W3 at *;generalize w2.heap.size=R at *;go_wp2_with fail;refine (uh HH _ _ _ _ _ _ _ _ _ (Hbw) (uh Hok) (uh HN)).mono ?_;rintro e w4 ⟨hb4,h9⟩;have hKs:=K.smy.below hb4;have hKb:=K.blk.below hb4 K.blk.lt;have hrb:=(uh kr).below hb4 (uh kr).lt;have hbb:=K.bb.trans (hb4.mono K.bb.size);have K4:Bx w w4 w.heap.size a0 p0 a1 p1 a2 p2 a3 p3 a4 p4 m:=⟨hKs,hKb,hbb⟩
 clear K;have K:=K4;replace kr:=Z9 hrb;clear K4 hKs hKb hrb hbb
 rcases h9 with ⟨hc0,rfl,v0,v1,v2,v3,v4,rs4,N4⟩ | ⟨hc0,rfl⟩
 ·
  obtain ⟨d0,s0,d1,s1,d2,s2,d3,s3,d4,s4,rfl,rfl,rfl,rfl,rfl⟩:=Wh N4.full;have HN4:=Z9 N4;obtain ⟨c0,c1,c2,c3,c4,c5⟩:=N4.cells;clear N4 HN;go_wp2_with fail;refine (Mk _ _ _ _ _ _ _ (uh HN4).full.smy).mono ?_;rintro e w5 ⟨u0,u1,u2,u3,u4,rs5,rfl,hf,hb⟩;clear c0 c1 c2 c3 c4 c5;obtain ⟨e0,g0,e1,g1,e2,g2,e3,g3,e4,g4,rfl,rfl,rfl,rfl,rfl⟩:=Wh hf;have hsz:w.heap.size+2<=w4.heap.size:=by have:=(uh kr).lt;omega
  have HF:=Z9 (hf.mono (n₁:=w.heap.size+2) hsz);replace K:=K.next hb;replace kr:=bl kr hb;clear hb hf;obtain ⟨o0,o1,o2,o3,o4,o5⟩:=(uh kr).c6;obtain ⟨f0,f1,f2,f3,f4,f5⟩:=(uh kr).f6;go_wp2_with fail;refine ZQ (v:= .tuple #[.agg #[.slice e0 (YU X).rm.length g0,.slice e1 (YU X).gd.length g1,.slice e2 (YU X).sm.length g2,.slice e3 (YU X).dk.length g3,.slice e4 (YU X).pc.length g4,.int .i64 (YU X).now],.nilIface]) (by simp [results,Tryz.results43,go_sem, *]) rfl ⟨?_,.inr (.inl ⟨uh Hok,hc0,e0,g0,e1,g1,e2,g2,e3,g3,e4,g4,rs5,rfl,?_⟩)⟩
  ·iterate 6 (refine YF ?_ (by show _<=w.heap.size+1;omega) _)
   exact K.bb
  ·refine FullSmy.mono (n₀:=w.heap.size+2) ?_ (by omega)
   iterate 6 (refine FullSmy.set_off ?_ (fun k e=>by have:=((uh HF).own e).1;omega) _ _)
   exact uh HF
 ·
  clear HN;obtain ⟨c0,c1,c2,c3,c4,c5⟩:=K.cells;go_wp2_with fail;refine (Vj K.smy (uh HFew)).mono ?_;rintro e w5 ⟨u0,u1,u2,u3,u4,rs5,rfl,hf,hb⟩;clear c0 c1 c2 c3 c4 c5;obtain ⟨e0,g0,e1,g1,e2,g2,e3,g3,e4,g4,rfl,rfl,rfl,rfl,rfl⟩:=Wh hf;have hsz:w.heap.size+2<=w4.heap.size:=by have:=(uh kr).lt;omega
  have hba:Below w5.heap.size w5 (w5.alloc (.cells #[.slice e0 m.rm.length g0,.slice e1 m.gd.length g1,.slice e2 m.sm.length g2,.slice e3 m.dk.length g3,.slice e4 m.pc.length g4,.int .i64 m.now,YA (q c)] 100)):=ba _ _;have kp:Hid (Blk (w5.alloc (.cells #[.slice e0 m.rm.length g0,.slice e1 m.gd.length g1,.slice e2 m.sm.length g2,.slice e3 m.dk.length g3,.slice e4 m.pc.length g4,.int .i64 m.now,YA (q c)] 100)) w5.heap.size 100 #[.slice e0 m.rm.length g0,.slice e1 m.gd.length g1,.slice e2 m.sm.length g2,.slice e3 m.dk.length g3,.slice e4 m.pc.length g4,.int .i64 m.now,YA (q c)]):=Z9 (Blk.new _ _ _);have HF:=Z9 ((hf.mono (n₁:=w.heap.size+2) hsz).below hba);have h5:w.heap.size+2<=w5.heap.size:=XA hsz hb.size;replace K:=(K.next hb).next hba;replace kr:=bl (bl kr hb) hba;clear hb hf hba;obtain ⟨o0,o1,o2,o3,o4,o5⟩:=(uh kr).c6;obtain ⟨f0,f1,f2,f3,f4,f5⟩:=(uh kr).f6;go_wp2_with fail;refine ZQ (v:= .tuple #[.agg E6,OY w5.heap.size]) (by simp [results,Tryz.results43,go_sem, *]) rfl ⟨?_,.inr (.inr ⟨uh Hok,hc0,w5.heap.size,e0,g0,e1,g1,e2,g2,e3,g3,e4,g4,rs5,rfl,?_,?_⟩)⟩
  ·iterate 6 (refine YF ?_ (by show _<=w.heap.size+1;omega) _)
   exact K.bb
  ·iterate 6 (refine Blk.other ?_ (by show w5.heap.size ≠ w.heap.size+1;omega) _)
   exact uh kp
  ·refine FullSmy.mono (n₀:=w.heap.size+2) ?_ (by omega)
   iterate 6 (refine FullSmy.set_off ?_ (fun k e=>by have:=((uh HF).own e).1;omega) _ _)
   exact uh HF
theorem Qo  {ff:Nat} {cap:Array Value} {m X:Z6} {c:Int} {q:Int->Addr} (he:Errs w q) (h:Smy w v0 v1 v2 v3 v4 m) (H:∀ (cb:Nat) (w1 W:World) (R:Nat) (v0 v1 v2 v3 v4:Value) (rs:List (ZZ × Value)),Below w.heap.size w w1->w1.cell? ⟨cb,0,none⟩=some (.func (Fn.func ff) #[] cap)->ZF m=true->Nx w1 W R v0 v1 v2 v3 v4 m rs->Calls Tryz.prog 130 #[.pointer (some ⟨R,0,none⟩),.pointer (some ⟨cb,0,none⟩)] W fun e W'=>Chg w1 R q X c e W'):Calls Tryz.prog 67 #[.agg #[v0,v1,v2,v3,v4,.int .i64 m.now],.func (Fn.func ff) #[] cap] w fun e w'=>Ty w.heap.size (S0 m X c).1 (S0 m X c).2 e w'/\Below w.heap.size w w':=by
 have HE:=Z9 he;have HH:=Z9 H;clear he H;obtain ⟨a0,p0,a1,p1,a2,p2,a3,p3,a4,p4,rfl,rfl,rfl,rfl,rfl,K⟩:=Bx.new h;clear h;replace K:=(K.alloc (.cells #[.func (Fn.func ff) #[] cap] 83)).alloc (.cells E6 32)
 have kr:Hid (Blk (((w.alloc (.cells (S6 a0 p0 a1 p1 a2 p2 a3 p3 a4 p4 m) 32)).alloc (.cells #[.func (Fn.func ff) #[] cap] 83)).alloc (.cells E6 32)) (w.heap.size+1+1) 32 E6):=Z9 (by
  have k:=Blk.new ((w.alloc (.cells (S6 a0 p0 a1 p1 a2 p2 a3 p3 a4 p4 m) 32)).alloc (.cells #[.func (Fn.func ff) #[] cap] 83)) 32 E6;rw [Y8,Y8] at k
  exact k)
 have kc:Hid (Blk (((w.alloc (.cells (S6 a0 p0 a1 p1 a2 p2 a3 p3 a4 p4 m) 32)).alloc (.cells #[.func (Fn.func ff) #[] cap] 83)).alloc (.cells E6 32)) (w.heap.size+1) 83 #[.func (Fn.func ff) #[] cap]):=Z9 (by
  have k:=Blk.new (w.alloc (.cells (S6 a0 p0 a1 p1 a2 p2 a3 p3 a4 p4 m) 32)) 83 #[.func (Fn.func ff) #[] cap];rw [Y8] at k
  exact k.alloc _)
 replace HE:=Z9 ((uh HE).below K.bb);have hsz:(((w.alloc (.cells (S6 a0 p0 a1 p1 a2 p2 a3 p3 a4 p4 m) 32)).alloc (.cells #[.func (Fn.func ff) #[] cap] 83)).alloc (.cells E6 32)).heap.size=w.heap.size+1+1+1:=by simp
 obtain ⟨X9,hX9⟩:∃ x,S0 m X c=x:=⟨_,rfl⟩
 rw [hX9];have HX9:=Z9 hX9;clear hX9;go_enter Tryz.func67,Tryz.ntmps67;go_upto_region 1 with fail;generalize (((w.alloc (.cells (S6 a0 p0 a1 p1 a2 p2 a3 p3 a4 p4 m) 32)).alloc (.cells #[.func (Fn.func ff) #[] cap] 83)).alloc (.cells E6 32))=W1 at *;obtain ⟨c0,c1,c2,c3,c4,c5⟩:=K.cells;go_wp2_with fail;refine (CM (X:=X) (c:=c) K.smy (uh HE) (fun w1 W R v0 v1 v2 v3 v4 rs h1 h2 h3=>uh HH _ w1 W R v0 v1 v2 v3 v4 rs (K.bb.trans (h1.mono K.bb.size)) (((uh kc).below h1 (uh kc).lt).cell (i:=0) rfl) h2 h3)).mono ?_;rintro e w2 ⟨hb,h9⟩;replace K:=K.next hb;replace kr:=bl kr hb;replace HE:=Z9 ((uh HE).below hb);clear c0 c1 c2 c3 c4 c5 kc
 rcases h9 with ⟨hm,rfl⟩ | ⟨hm,hc0,b0,r0,b1,r1,b2,r2,b3,r3,b4,r4,rs,rfl,hf⟩ | ⟨hm,hc0,p,b0,r0,b1,r1,b2,r2,b3,r3,b4,r4,rs,rfl,kp,hf⟩
 ·
  have hX0:=Z9 ((uh HX9).symm.trans (LQ hm _ _));clear hb;go_wp2_with fail;refine ck (CJ (uh HE)) fun w3 hb=> ?_;replace K:=K.next hb;replace kr:=bl kr hb;clear hb;obtain ⟨o0,o1,o2,o3,o4,o5⟩:=(uh kr).c6;obtain ⟨f0,f1,f2,f3,f4,f5⟩:=(uh kr).f6;go_wp2_with fail;refine ZQ (v:= .tuple #[.agg E6,.int .i64 3]) (by simp [results,Tryz.results67,go_sem, *]) rfl ⟨by rw [uh hX0];exact ⟨_,_,_,_,_,[],rfl,Yq _ _⟩,?_⟩
  iterate 6 (refine YF ?_ (by show _<=w.heap.size+1+1;omega) _)
  exact K.bb
 ·
  have hX0:Hid (X9=(YU X,0)):=Z9 (by rw [<-uh HX9,hc0];exact LR hm _);have HF:=Z9 (hf.mono (n₁:=w.heap.size+1+1+1) (by omega));clear hf hb HX9;generalize YU X=Y at *;go_wp2_with fail;refine Bg.mono ?_;rintro e w3 ⟨rfl,hb⟩;replace K:=K.next hb;replace kr:=bl kr hb;replace HF:=Z9 ((uh HF).below hb);clear hb;obtain ⟨o0,o1,o2,o3,o4,o5⟩:=(uh kr).c6;obtain ⟨f0,f1,f2,f3,f4,f5⟩:=(uh kr).f6;go_wp2_with fail;refine ZQ (v:= .tuple #[.agg (S6 b0 r0 b1 r1 b2 r2 b3 r3 b4 r4 Y),.int .i64 0]) (by simp [results,Tryz.results67,go_sem, *]) rfl ⟨?_,?_⟩
  ·rw [uh hX0]
   refine ⟨_,_,_,_,_,rs,rfl,?_⟩;refine FullSmy.mono (n₀:=w.heap.size+1+1+1) ?_ (by omega)
   iterate 6 (refine FullSmy.set_off ?_ (fun k e=>by have:=((uh HF).own e).1;omega) _ _)
   exact uh HF
  ·iterate 6 (refine YF ?_ (by show _<=w.heap.size+1+1;omega) _)
   exact K.bb
 ·
  have hcn:c ≠ 0:=by omega
  have hX0:=Z9 ((uh HX9).symm.trans (QS hm _ hcn));have HF:=Z9 (hf.mono (n₁:=w.heap.size+1+1+1) (by omega));have Hkp:=Z9 kp;clear hf hb kp hcn HX9;go_wp2_with fail;refine ck (CK (uh HE) hc0 (uh Hkp)) fun w3 hb=> ?_;replace K:=K.next hb;replace kr:=bl kr hb;replace HF:=Z9 ((uh HF).below hb);clear hb Hkp;obtain ⟨o0,o1,o2,o3,o4,o5⟩:=(uh kr).c6;obtain ⟨f0,f1,f2,f3,f4,f5⟩:=(uh kr).f6;go_wp2_with fail;refine ZQ (v:= .tuple #[.agg (S6 b0 r0 b1 r1 b2 r2 b3 r3 b4 r4 m),.int .i64 c]) (by simp [results,Tryz.results67,go_sem, *]) rfl ⟨?_,?_⟩
  ·rw [uh hX0]
   refine ⟨_,_,_,_,_,rs,rfl,?_⟩;refine FullSmy.mono (n₀:=w.heap.size+1+1+1) ?_ (by omega)
   iterate 6 (refine FullSmy.set_off ?_ (fun k e=>by have:=((uh HF).own e).1;omega) _ _)
   exact uh HF
  ·iterate 6 (refine YF ?_ (by show _<=w.heap.size+1+1;omega) _)
   exact K.bb
theorem Mi  {q:Int->Addr} (who:Int) (he:Errs w q) (h:Smy w v0 v1 v2 v3 v4 m):Calls Tryz.prog 32 #[.agg #[v0,v1,v2,v3,v4,.int .i64 m.now],.int .i64 who] w fun e w'=>Ty w.heap.size (Wd m who).1 (Wd m who).2 e w'/\Below w.heap.size w w':=by
 have HE:=Z9 he;clear he;obtain ⟨a0,p0,a1,p1,a2,p2,a3,p3,a4,p4,rfl,rfl,rfl,rfl,rfl,K⟩:=Bx.new h;clear h;replace K:=K.alloc (.cells #[.int .i64 who] 2);replace K:=K.alloc (.cells E6 32)
 have kc0:Hid (Blk (((w.alloc (.cells (S6 a0 p0 a1 p1 a2 p2 a3 p3 a4 p4 m) 32)).alloc (.cells #[.int .i64 who] 2)).alloc (.cells E6 32)) (w.heap.size+1) 2 #[.int .i64 who]):=Z9 (by
  have k:=Blk.new (w.alloc (.cells (S6 a0 p0 a1 p1 a2 p2 a3 p3 a4 p4 m) 32)) 2 #[.int .i64 who];rw [Y8] at k
  exact k.alloc _)
 have kr:Hid (Blk (((w.alloc (.cells (S6 a0 p0 a1 p1 a2 p2 a3 p3 a4 p4 m) 32)).alloc (.cells #[.int .i64 who] 2)).alloc (.cells E6 32)) (w.heap.size+1+1) 32 E6):=Z9 (by
  have k:=Blk.new ((w.alloc (.cells (S6 a0 p0 a1 p1 a2 p2 a3 p3 a4 p4 m) 32)).alloc (.cells #[.int .i64 who] 2)) 32 E6;rw [Y8,Y8] at k
  exact k)
 replace HE:=Z9 ((uh HE).below K.bb);have hsz:(((w.alloc (.cells (S6 a0 p0 a1 p1 a2 p2 a3 p3 a4 p4 m) 32)).alloc (.cells #[.int .i64 who] 2)).alloc (.cells E6 32)).heap.size=(w.heap.size+1+1+1):=by simp
 obtain ⟨⟨M,cd⟩,hD⟩:∃ D,S0 m (RX m who) (VW m who)=D:=⟨_,rfl⟩
 rw [zf,hD];have HD:=Z9 hD;clear hD;go_enter Tryz.func32,Tryz.ntmps32;go_upto_region 1 with fail;generalize (((w.alloc (.cells (S6 a0 p0 a1 p1 a2 p2 a3 p3 a4 p4 m) 32)).alloc (.cells #[.int .i64 who] 2)).alloc (.cells E6 32))=W1 at *;obtain ⟨c0,c1,c2,c3,c4,c5⟩:=K.cells;go_wp2_with fail;refine (Qo (X:=RX m who) (c:=VW m who) (uh HE) K.smy (fun cb w1 W R v0 v1 v2 v3 v4 rs h0 h1 h2 h3=>Bw h3 ((uh HE).below h0) h2 ((h3.bb.cell (World.block_lt_of_cell? _ _ h1)).trans h1) (h3.bb.cell (World.block_lt_of_cell? _ _ (((uh kc0).below h0 (uh kc0).lt).cell (i:=0) (v:= .int .i64 who) rfl)) |>.trans (((uh kc0).below h0 (uh kc0).lt).cell (i:=0) rfl)))).mono ?_;rintro e w2 ⟨⟨u0,u1,u2,u3,u4,rs,he9,hf⟩,hb⟩;rw [uh HD] at he9 hf;simp only at he9 hf;subst he9;have HF:=Z9 hf;clear hf c0 c1 c2 c3 c4 c5;replace K:=K.next hb;replace kr:=bl kr hb;clear hb;obtain ⟨e0,g0,e1,g1,e2,g2,e3,g3,e4,g4,rfl,rfl,rfl,rfl,rfl⟩:=Wh (uh HF);obtain ⟨o0,o1,o2,o3,o4,o5⟩:=(uh kr).c6;obtain ⟨f0,f1,f2,f3,f4,f5⟩:=(uh kr).f6;go_wp2_with fail;refine ZQ (v:= .tuple #[.agg (S6 e0 g0 e1 g1 e2 g2 e3 g3 e4 g4 M),.int .i64 cd]) (by simp [results,Tryz.results32,go_sem, *]) rfl ⟨?_,?_⟩
 ·refine ⟨_,_,_,_,_,rs,rfl,?_⟩
  refine FullSmy.mono (n₀:=(w.heap.size+1+1+1)) ?_ (by omega)
  iterate 6 (refine FullSmy.set_off ?_ (fun k e=>by have:=((uh HF).own e).1;omega) _ _)
  exact (uh HF).mono (Nat.le_of_eq hsz.symm)
 ·iterate 6 (refine YF ?_ (by show _<=w.heap.size+1+1;omega) _)
  exact K.bb
end Go.Proofs.YtamgfpdahadnfaaGreatDoor
