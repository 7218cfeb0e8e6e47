/- Part 43 of what the proof rests on. No condition but those that a theorem names. -/
import Derived.Test.YtgdpaigcmoifbaaGreatXw21
import Derived.Test.YtgdpaigcmoifbaaGreatXw40
import Derived.Test.YtgdpaigcmoifbaaGreatXw42
import Derived.Deep.RegionHeld
set_option maxHeartbeats 8000000
set_option maxRecDepth 100000
namespace Go.Proofs.YtgdpaigcmoifbaaGreat
open Go.ChangeShapes Go.WideShapes Go.ChangeAt Go.RowKit Go.Sort Go.Proofs.Tryz
open Draw (St Off Row Cur)
set_option linter.unusedVariables false
set_option linter.unusedSimpArgs false
set_option maxRecDepth 100000
variable {w w' w0 w1 w2 w3 w₀ wr W W' X A B C : World} {v v0 v1 v2 v3 v4 u u0 u1 u2 u3 u4 : Value} {m : Z6}
theorem D3 (a:Option Addr) (len cap:Nat) (w:World) (hr:Row w.heap.size w a len) :
  Calls prog 107 #[.slice a len cap] w fun e w'=> ∃ M u0 u1 u2 u3 u4 x rq,e= .returned (.tuple #[.agg #[u0,u1,u2,u3,u4,.int .i64 M.now],.int .i64 x])/\FullSmy (w.heap.size+1) w' u0 u1 u2 u3 u4 M rq/\Below w.heap.size w w':=by
 have Hr:=Z9 (Draw.row_later hr ((Z3 _ _).alloc (Z0 _) (.cells E6 32)));clear hr;go_enter func107,ntmps107;go_wp2_with fail;have kr:Hid (Blk (w.alloc (.cells E6 32)) w.heap.size 32 E6):=Z9 (Blk.new _ _ _);have BB:Hid (Below w.heap.size w (w.alloc (.cells E6 32))):=Z9 ((ba _ _));have hzW:w.heap.size<(w.alloc (.cells E6 32)).heap.size:=by simp
 generalize w.alloc (.cells E6 32)=W at *;refine (Draw.new_any a len cap _ (uh Hr)).mono ?_;rintro e w1 ⟨rfl,s1,o1⟩;have Hs:=Z9 s1;replace kr:=Z9 ((uh kr).away o1 (by omega));replace BB:=Z9 ((uh BB).trans (o1.below (by omega) (uh BB).size));clear s1 o1 Hr;generalize W.heap.size=cb at *;go_wp2_with fail;refine (VB a len cap cb _ (uh Hs)).mono ?_;rintro e w2 ⟨M,u0,u1,u2,u3,u4,rq,rfl,hm2,hm3,hf,s2,o2⟩;have Hm2:=Z9 hm2;have Hm3:=Z9 hm3;clear hm2 hm3;have hc1:=WI (uh Hs);have k6:=hf.smy;obtain ⟨b0,q0,b1,q1,b2,q2,b3,q3,b4,q4,rfl,rfl,rfl,rfl,rfl,_,_,_,_,_,_,_,_,_,_⟩:=k6.five;have HF:=Z9 (hf.mono (n₁:=cb+1) (by omega));replace Hs:=Z9 s2;have Hs0:=Hs;replace kr:=Z9 ((uh kr).away o2 (by omega));replace BB:=Z9 ((uh BB).trans (o2.below (by omega) (uh BB).size));clear hf s2 o2 k6;go_upto_region 3 with fail;obtain ⟨W2,hW2,hb,km⟩:=Zc w2 32 (S6 b0 q0 b1 q1 b2 q2 b3 q3 b4 q4 M);replace kr:=bl kr hb;replace HF:=Z9 ((uh HF).below hb);replace Hs:=Z9 ((uh Hs).alloc (.cells (S6 b0 q0 b1 q1 b2 q2 b3 q3 b4 q4 M) 32));replace BB:=bt BB hb;have hmb:cb+1<=w2.heap.size:=WI (uh Hs0);have hown:Hid (∀ k,V7 (.slice b0 M.rm.length q0) (.slice b1 M.gd.length q1) (.slice b2 M.sm.length q2) (.slice b3 M.dk.length q3) (.slice b4 M.pc.length q4) rq k->k ≠ w.heap.size/\cb<k):=Z9 (fun k e=>by have:=((uh HF).own e).1;omega);clear hb;rw [hW2]
 (try rw [hW2] at Hs);clear hW2
 generalize w2.heap.size=mb at *;have hkl:M.dk.length<=1000000:=by have:=uh Hm3;omega
 obtain ⟨x0,x1,x2,x3,x4,x5⟩:=(uh km).c6;go_wp2_with fail;refine ZI (S:=fun w'=>w'.cell? ⟨mb,0,none⟩=some (.slice b0 M.rm.length q0)/\w'.cell? ⟨mb,1,none⟩=some (.slice b1 M.gd.length q1)/\w'.cell? ⟨mb,2,none⟩=some (.slice b2 M.sm.length q2)/\w'.cell? ⟨mb,3,none⟩=some (.slice b3 M.dk.length q3)/\w'.cell? ⟨mb,4,none⟩=some (.slice b4 M.pc.length q4)/\w'.cell? ⟨mb,5,none⟩=some (.int .i64 M.now)) (by kernel_rfl) (Wz _ _) (by kernel_rfl) ⟨x0,x1,x2,x3,x4,x5⟩ (fun hHeld=> ?_);simp only [WA,WB,YL,YF,Nat.zero_add,Nat.reduceAdd];clear x0 x1 x2 x3 x4 x5
 iterate 3 refine tz ?_
 refine rd 3 rfl (fun K hK=> ?_);go_simp;refine (SV a len cap cb _ _ _ _ _ _ _ _ _ _ _ _ _ _ _ _ hkl _ (Vc (uh Hs))).mono ?_;rintro e9 w5 ⟨x,rfl,s9,p9⟩;have ho:=U0 p9;replace km:=Z9 ((uh km).away ho (by omega));replace kr:=Z9 ((uh kr).away ho (by omega));replace HF:=Z9 ((uh HF).keep (fun k e=>ho.block k ((uh HF).own e).2 (by have:=(uh hown k e).2;omega)));replace BB:=Z9 ((uh BB).trans (ho.below (by omega) (uh BB).size));clear s9 p9 ho;refine hK.out _ _ (uh km).c6 (fun hHeld=> ?_);clear hK K
 (try simp only [Act.put,sA,sZ,sS])
 obtain ⟨o0,o1,o2,o3,o4,o5⟩:=(uh kr).c6;obtain ⟨f0,f1,f2,f3,f4,f5⟩:=(uh kr).f6;have kmN:Blk ((((((w5.setCell ⟨w.heap.size,0,none⟩ (.slice b0 M.rm.length q0)).setCell ⟨w.heap.size,1,none⟩ (.slice b1 M.gd.length q1)).setCell ⟨w.heap.size,2,none⟩ (.slice b2 M.sm.length q2)).setCell ⟨w.heap.size,3,none⟩ (.slice b3 M.dk.length q3)).setCell ⟨w.heap.size,4,none⟩ (.slice b4 M.pc.length q4)).setCell ⟨w.heap.size,5,none⟩ (.int .i64 M.now)) mb 32 (S6 b0 q0 b1 q1 b2 q2 b3 q3 b4 q4 M):=(((((((uh km).other (a:=⟨w.heap.size,0,none⟩) (by show mb ≠ w.heap.size;omega) (.slice b0 M.rm.length q0)).other (a:=⟨w.heap.size,1,none⟩) (by show mb ≠ w.heap.size;omega) (.slice b1 M.gd.length q1)).other (a:=⟨w.heap.size,2,none⟩) (by show mb ≠ w.heap.size;omega) (.slice b2 M.sm.length q2)).other (a:=⟨w.heap.size,3,none⟩) (by show mb ≠ w.heap.size;omega) (.slice b3 M.dk.length q3)).other (a:=⟨w.heap.size,4,none⟩) (by show mb ≠ w.heap.size;omega) (.slice b4 M.pc.length q4)).other (a:=⟨w.heap.size,5,none⟩) (by show mb ≠ w.heap.size;omega) (.int .i64 M.now))
 refine rd 4 rfl (fun K hK=> ?_);go_simp;refine hK.out _ _ ⟨kmN.cell (i:=0) rfl,kmN.cell (i:=1) rfl,kmN.cell (i:=2) rfl,kmN.cell (i:=3) rfl,kmN.cell (i:=4) rfl,kmN.cell (i:=5) rfl⟩ (fun hHeld=> ?_);clear hK K kmN
 (try simp only [Act.put,sA,sZ,sS])
 refine wpAnyH_done (by kernel_rfl) ?_ _;refine ZK rfl rfl ?_;go_simp;clear hHeld;go_wp2_with fail;refine Zz (v:= .tuple #[.agg (S6 b0 q0 b1 q1 b2 q2 b3 q3 b4 q4 M),.int .i64 x]) (by simp [results,results107,go_sem, *]) rfl ⟨M,_,_,_,_,_,x,rq,rfl,?_,?_⟩
 ·refine FullSmy.mono (n₀:=cb+1) ?_ (by omega)
  iterate 6 (refine FullSmy.set_off ?_ (fun k e=>(uh hown k e).1) _ _)
  exact uh HF
 ·iterate 6 (refine Yv ?_ (by show w.heap.size<=w.heap.size;omega) _)
  exact uh BB
theorem Q6 (a:Option Addr) (len cap:Nat) (w:World) (hr:Row w.heap.size w a len) :
  Calls prog 70 #[.slice a len cap] w fun e w'=> ∃ M u0 u1 u2 u3 u4 x rq,e= .returned (.tuple #[.agg #[u0,u1,u2,u3,u4,.int .i64 M.now],.int .i64 x])/\FullSmy (w.heap.size+1) w' u0 u1 u2 u3 u4 M rq/\Below w.heap.size w w':=by
 have Hr:=Z9 (Draw.row_later hr ((Z3 _ _).alloc (Z0 _) (.cells E6 32)));clear hr;go_enter func70,ntmps70;go_wp2_with fail;have kr:Hid (Blk (w.alloc (.cells E6 32)) w.heap.size 32 E6):=Z9 (Blk.new _ _ _);have BB:Hid (Below w.heap.size w (w.alloc (.cells E6 32))):=Z9 ((ba _ _));have hzW:w.heap.size<(w.alloc (.cells E6 32)).heap.size:=by simp
 generalize w.alloc (.cells E6 32)=W at *;refine (Draw.new_any a len cap _ (uh Hr)).mono ?_;rintro e w1 ⟨rfl,s1,o1⟩;have Hs:=Z9 s1;replace kr:=Z9 ((uh kr).away o1 (by omega));replace BB:=Z9 ((uh BB).trans (o1.below (by omega) (uh BB).size));clear s1 o1 Hr;generalize W.heap.size=cb at *;go_wp2_with fail;refine (VB a len cap cb _ (uh Hs)).mono ?_;rintro e w2 ⟨M,u0,u1,u2,u3,u4,rq,rfl,hm2,hm3,hf,s2,o2⟩;have Hm2:=Z9 hm2;have Hm3:=Z9 hm3;clear hm2 hm3;have hc1:=WI (uh Hs);have k6:=hf.smy;obtain ⟨b0,q0,b1,q1,b2,q2,b3,q3,b4,q4,rfl,rfl,rfl,rfl,rfl,_,_,_,_,_,_,_,_,_,_⟩:=k6.five;have HF:=Z9 (hf.mono (n₁:=cb+1) (by omega));replace Hs:=Z9 s2;have Hs0:=Hs;replace kr:=Z9 ((uh kr).away o2 (by omega));replace BB:=Z9 ((uh BB).trans (o2.below (by omega) (uh BB).size));clear hf s2 o2 k6;go_upto_region 3 with fail;obtain ⟨W2,hW2,hb,km⟩:=Zc w2 32 (S6 b0 q0 b1 q1 b2 q2 b3 q3 b4 q4 M);replace kr:=bl kr hb;replace HF:=Z9 ((uh HF).below hb);replace Hs:=Z9 ((uh Hs).alloc (.cells (S6 b0 q0 b1 q1 b2 q2 b3 q3 b4 q4 M) 32));replace BB:=bt BB hb;have hmb:cb+1<=w2.heap.size:=WI (uh Hs0);have hown:Hid (∀ k,V7 (.slice b0 M.rm.length q0) (.slice b1 M.gd.length q1) (.slice b2 M.sm.length q2) (.slice b3 M.dk.length q3) (.slice b4 M.pc.length q4) rq k->k ≠ w.heap.size/\cb<k):=Z9 (fun k e=>by have:=((uh HF).own e).1;omega);clear hb;rw [hW2]
 (try rw [hW2] at Hs);clear hW2
 generalize w2.heap.size=mb at *;have hkl:M.sm.length<=1000000:=by have:=uh Hm2;omega
 obtain ⟨x0,x1,x2,x3,x4,x5⟩:=(uh km).c6;go_wp2_with fail;refine ZI (S:=fun w'=>w'.cell? ⟨mb,0,none⟩=some (.slice b0 M.rm.length q0)/\w'.cell? ⟨mb,1,none⟩=some (.slice b1 M.gd.length q1)/\w'.cell? ⟨mb,2,none⟩=some (.slice b2 M.sm.length q2)/\w'.cell? ⟨mb,3,none⟩=some (.slice b3 M.dk.length q3)/\w'.cell? ⟨mb,4,none⟩=some (.slice b4 M.pc.length q4)/\w'.cell? ⟨mb,5,none⟩=some (.int .i64 M.now)) (by kernel_rfl) (Wz _ _) (by kernel_rfl) ⟨x0,x1,x2,x3,x4,x5⟩ (fun hHeld=> ?_);simp only [WA,WB,YL,YF,Nat.zero_add,Nat.reduceAdd];clear x0 x1 x2 x3 x4 x5
 iterate 3 refine tz ?_
 refine rd 3 rfl (fun K hK=> ?_);go_simp;refine (Rh a len cap cb _ _ _ _ _ _ _ _ _ _ _ _ _ _ _ _ hkl _ (Vc (uh Hs))).mono ?_;rintro e9 w5 ⟨x,rfl,s9,p9⟩;have ho:=U0 p9;replace km:=Z9 ((uh km).away ho (by omega));replace kr:=Z9 ((uh kr).away ho (by omega));replace HF:=Z9 ((uh HF).keep (fun k e=>ho.block k ((uh HF).own e).2 (by have:=(uh hown k e).2;omega)));replace BB:=Z9 ((uh BB).trans (ho.below (by omega) (uh BB).size));clear s9 p9 ho;refine hK.out _ _ (uh km).c6 (fun hHeld=> ?_);clear hK K
 (try simp only [Act.put,sA,sZ,sS])
 obtain ⟨o0,o1,o2,o3,o4,o5⟩:=(uh kr).c6;obtain ⟨f0,f1,f2,f3,f4,f5⟩:=(uh kr).f6;have kmN:Blk ((((((w5.setCell ⟨w.heap.size,0,none⟩ (.slice b0 M.rm.length q0)).setCell ⟨w.heap.size,1,none⟩ (.slice b1 M.gd.length q1)).setCell ⟨w.heap.size,2,none⟩ (.slice b2 M.sm.length q2)).setCell ⟨w.heap.size,3,none⟩ (.slice b3 M.dk.length q3)).setCell ⟨w.heap.size,4,none⟩ (.slice b4 M.pc.length q4)).setCell ⟨w.heap.size,5,none⟩ (.int .i64 M.now)) mb 32 (S6 b0 q0 b1 q1 b2 q2 b3 q3 b4 q4 M):=(((((((uh km).other (a:=⟨w.heap.size,0,none⟩) (by show mb ≠ w.heap.size;omega) (.slice b0 M.rm.length q0)).other (a:=⟨w.heap.size,1,none⟩) (by show mb ≠ w.heap.size;omega) (.slice b1 M.gd.length q1)).other (a:=⟨w.heap.size,2,none⟩) (by show mb ≠ w.heap.size;omega) (.slice b2 M.sm.length q2)).other (a:=⟨w.heap.size,3,none⟩) (by show mb ≠ w.heap.size;omega) (.slice b3 M.dk.length q3)).other (a:=⟨w.heap.size,4,none⟩) (by show mb ≠ w.heap.size;omega) (.slice b4 M.pc.length q4)).other (a:=⟨w.heap.size,5,none⟩) (by show mb ≠ w.heap.size;omega) (.int .i64 M.now))
 refine rd 4 rfl (fun K hK=> ?_);go_simp;refine hK.out _ _ ⟨kmN.cell (i:=0) rfl,kmN.cell (i:=1) rfl,kmN.cell (i:=2) rfl,kmN.cell (i:=3) rfl,kmN.cell (i:=4) rfl,kmN.cell (i:=5) rfl⟩ (fun hHeld=> ?_);clear hK K kmN
 (try simp only [Act.put,sA,sZ,sS])
 refine wpAnyH_done (by kernel_rfl) ?_ _;refine ZK rfl rfl ?_;go_simp;clear hHeld;go_wp2_with fail;refine Zz (v:= .tuple #[.agg (S6 b0 q0 b1 q1 b2 q2 b3 q3 b4 q4 M),.int .i64 x]) (by simp [results,results70,go_sem, *]) rfl ⟨M,_,_,_,_,_,x,rq,rfl,?_,?_⟩
 ·refine FullSmy.mono (n₀:=cb+1) ?_ (by omega)
  iterate 6 (refine FullSmy.set_off ?_ (fun k e=>(uh hown k e).1) _ _)
  exact uh HF
 ·iterate 6 (refine Yv ?_ (by show w.heap.size<=w.heap.size;omega) _)
  exact uh BB
set_option maxRecDepth 100000
theorem SN (a:Option Addr) (len cap:Nat) (w:World) (hr:Row w.heap.size w a len) :
  Calls prog 82 #[.slice a len cap] w fun e w'=> ∃ M u0 u1 u2 u3 u4 rq,e= .returned (.agg #[u0,u1,u2,u3,u4,.int .i64 M.now])/\FullSmy (w.heap.size+1) w' u0 u1 u2 u3 u4 M rq/\Below w.heap.size w w':=by
 have Hr:=Z9 (Draw.row_later hr ((Z3 _ _).alloc (Z0 _) (.cells E6 32)));clear hr;go_enter func82,ntmps82;go_wp2_with fail;have kr:Hid (Blk (w.alloc (.cells E6 32)) w.heap.size 32 E6):=Z9 (Blk.new _ _ _);have BB:Hid (Below w.heap.size w (w.alloc (.cells E6 32))):=Z9 ((ba _ _));have hzW:w.heap.size<(w.alloc (.cells E6 32)).heap.size:=by simp
 generalize w.alloc (.cells E6 32)=W at *;refine (Draw.new_any a len cap _ (uh Hr)).mono ?_;rintro e w1 ⟨rfl,s1,o1⟩;have Hs:=Z9 s1;replace kr:=Z9 ((uh kr).away o1 (by omega));replace BB:=Z9 ((uh BB).trans (o1.below (by omega) (uh BB).size));clear s1 o1 Hr;generalize W.heap.size=cb at *;go_wp2_with fail;refine (VB a len cap cb _ (uh Hs)).mono ?_;rintro e w2 ⟨M,u0,u1,u2,u3,u4,rq,rfl,hm2,hm3,hf,s2,o2⟩;have hc1:=WI (uh Hs);have k6:=hf.smy;obtain ⟨b0,q0,b1,q1,b2,q2,b3,q3,b4,q4,rfl,rfl,rfl,rfl,rfl,_,_,_,_,_,_,_,_,_,_⟩:=k6.five;have HF:=Z9 (hf.mono (n₁:=cb+1) (by omega));replace kr:=Z9 ((uh kr).away o2 (by omega));replace BB:=Z9 ((uh BB).trans (o2.below (by omega) (uh BB).size));clear hf s2 o2 k6 hm2 hm3;obtain ⟨o0,o1,o2,o3,o4,o5⟩:=(uh kr).c6;obtain ⟨f0,f1,f2,f3,f4,f5⟩:=(uh kr).f6;go_wp2_with fail;refine Zz (v:= .agg (S6 b0 q0 b1 q1 b2 q2 b3 q3 b4 q4 M)) (by simp [results,results82,go_sem, *]) rfl ⟨M,_,_,_,_,_,rq,rfl,?_,?_⟩
 ·refine FullSmy.mono (n₀:=cb+1) ?_ (by omega)
  iterate 6 (refine FullSmy.set ?_ _ _ _ (by omega))
  exact uh HF
 ·iterate 6 (refine Yv ?_ (by show w.heap.size<=w.heap.size;omega) _)
  exact uh BB
theorem NK (a:Option Addr) (len cap:Nat) (w:World) (hr:Row w.heap.size w a len) :
  Calls prog 48 #[.slice a len cap] w fun e w'=> ∃ M u0 u1 u2 u3 u4 rq,e= .returned (.agg #[u0,u1,u2,u3,u4,.int .i64 M.now])/\FullSmy (w.heap.size+1) w' u0 u1 u2 u3 u4 M rq/\Below w.heap.size w w':=by
 have Hr:=Z9 (Draw.row_later hr ((Z3 _ _).alloc (Z0 _) (.cells E6 32)));clear hr;go_enter func48,ntmps48;go_wp2_with fail;have kr:Hid (Blk (w.alloc (.cells E6 32)) w.heap.size 32 E6):=Z9 (Blk.new _ _ _);have BB:Hid (Below w.heap.size w (w.alloc (.cells E6 32))):=Z9 ((ba _ _));have hzW:w.heap.size<(w.alloc (.cells E6 32)).heap.size:=by simp
 generalize w.alloc (.cells E6 32)=W at *;refine (SN a len cap _ (uh Hr)).mono ?_;rintro e w2 ⟨M,u0,u1,u2,u3,u4,rq,rfl,hm,hb⟩;have HF:=Z9 hm;have k6:=hm.smy;obtain ⟨b0,q0,b1,q1,b2,q2,b3,q3,b4,q4,rfl,rfl,rfl,rfl,rfl,_,_,_,_,_,_,_,_,_,_⟩:=k6.five;replace kr:=Z9 ((uh kr).below hb hzW);replace BB:=bt BB hb;clear hm hb Hr k6;generalize W.heap.size=cb at *;obtain ⟨o0,o1,o2,o3,o4,o5⟩:=(uh kr).c6;obtain ⟨f0,f1,f2,f3,f4,f5⟩:=(uh kr).f6;go_wp2_with fail;refine Zz (v:= .agg (S6 b0 q0 b1 q1 b2 q2 b3 q3 b4 q4 M)) (by simp [results,results48,go_sem, *]) rfl ⟨M,_,_,_,_,_,rq,rfl,?_,?_⟩
 ·refine FullSmy.mono (n₀:=cb+1) ?_ (by omega)
  iterate 6 (refine FullSmy.set ?_ _ _ _ (by omega))
  exact uh HF
 ·iterate 6 (refine Yv ?_ (by show w.heap.size<=w.heap.size;omega) _)
  exact uh BB
theorem LM (a:Option Addr) (len cap:Nat) (w:World) (hr:Row w.heap.size w a len) :
  Calls prog 50 #[.slice a len cap] w fun e w'=> ∃ M u0 u1 u2 u3 u4 x rq,e= .returned (.tuple #[.agg #[u0,u1,u2,u3,u4,.int .i64 M.now],.int .i64 x])/\FullSmy (w.heap.size+1) w' u0 u1 u2 u3 u4 M rq/\Below w.heap.size w w':=by
 have Hr:=Z9 (Draw.row_later hr ((Z3 _ _).alloc (Z0 _) (.cells E6 32)));clear hr;go_enter func50,ntmps50;go_wp2_with fail;have kr:Hid (Blk (w.alloc (.cells E6 32)) w.heap.size 32 E6):=Z9 (Blk.new _ _ _);have BB:Hid (Below w.heap.size w (w.alloc (.cells E6 32))):=Z9 ((ba _ _));have hzW:w.heap.size<(w.alloc (.cells E6 32)).heap.size:=by simp
 generalize w.alloc (.cells E6 32)=W at *;refine (D3 a len cap _ (uh Hr)).mono ?_;rintro e w2 ⟨M,u0,u1,u2,u3,u4,x,rq,rfl,hm,hb⟩;have HF:=Z9 hm;have k6:=hm.smy;obtain ⟨b0,q0,b1,q1,b2,q2,b3,q3,b4,q4,rfl,rfl,rfl,rfl,rfl,_,_,_,_,_,_,_,_,_,_⟩:=k6.five;replace kr:=Z9 ((uh kr).below hb hzW);replace BB:=bt BB hb;clear hm hb Hr k6;generalize W.heap.size=cb at *;obtain ⟨o0,o1,o2,o3,o4,o5⟩:=(uh kr).c6;obtain ⟨f0,f1,f2,f3,f4,f5⟩:=(uh kr).f6;go_wp2_with fail;refine Zz (v:= .tuple #[.agg (S6 b0 q0 b1 q1 b2 q2 b3 q3 b4 q4 M),.int .i64 x]) (by simp [results,results50,go_sem, *]) rfl ⟨M,_,_,_,_,_,x,rq,rfl,?_,?_⟩
 ·refine FullSmy.mono (n₀:=cb+1) ?_ (by omega)
  iterate 6 (refine FullSmy.set ?_ _ _ _ (by omega))
  exact uh HF
 ·iterate 6 (refine Yv ?_ (by show w.heap.size<=w.heap.size;omega) _)
  exact uh BB
set_option maxRecDepth 100000
theorem SM (a:Option Addr) (len cap:Nat) (w:World) (hr:Row w.heap.size w a len) :
  Calls prog 13 #[.slice a len cap] w fun e w'=> ∃ M u0 u1 u2 u3 u4 x y rq,e= .returned (.tuple #[.agg #[u0,u1,u2,u3,u4,.int .i64 M.now],.int .i64 x,.int .i64 y])/\FullSmy (w.heap.size+1) w' u0 u1 u2 u3 u4 M rq/\Below w.heap.size w w':=by
 have Hr:=Z9 (Draw.row_later hr ((Z3 _ _).alloc (Z0 _) (.cells E6 32)));clear hr;go_enter func13,ntmps13;go_wp2_with fail;have kr:Hid (Blk (w.alloc (.cells E6 32)) w.heap.size 32 E6):=Z9 (Blk.new _ _ _);have BB:Hid (Below w.heap.size w (w.alloc (.cells E6 32))):=Z9 ((ba _ _));have hzW:w.heap.size<(w.alloc (.cells E6 32)).heap.size:=by simp
 generalize w.alloc (.cells E6 32)=W at *;refine (Draw.new_any a len cap _ (uh Hr)).mono ?_;rintro e w1 ⟨rfl,s1,o1⟩;have Hs:=Z9 s1;replace kr:=Z9 ((uh kr).away o1 (by omega));replace BB:=Z9 ((uh BB).trans (o1.below (by omega) (uh BB).size));clear s1 o1 Hr;generalize W.heap.size=cb at *;go_wp2_with fail;refine (VB a len cap cb _ (uh Hs)).mono ?_;rintro e w2 ⟨M,u0,u1,u2,u3,u4,rq,rfl,hm2,hm3,hf,s2,o2⟩;have Hm2:=Z9 hm2;have Hm3:=Z9 hm3;clear hm2 hm3;have hc1:=WI (uh Hs);have k6:=hf.smy;obtain ⟨b0,q0,b1,q1,b2,q2,b3,q3,b4,q4,rfl,rfl,rfl,rfl,rfl,_,_,_,_,_,_,_,_,_,_⟩:=k6.five;have HF:=Z9 (hf.mono (n₁:=cb+1) (by omega));replace Hs:=Z9 s2;have Hs0:=Hs;replace kr:=Z9 ((uh kr).away o2 (by omega));replace BB:=Z9 ((uh BB).trans (o2.below (by omega) (uh BB).size));clear hf s2 o2 k6;go_upto_region 3 with fail;obtain ⟨W2,hW2,hb,km⟩:=Zc w2 32 (S6 b0 q0 b1 q1 b2 q2 b3 q3 b4 q4 M);replace kr:=bl kr hb;replace HF:=Z9 ((uh HF).below hb);replace Hs:=Z9 ((uh Hs).alloc (.cells (S6 b0 q0 b1 q1 b2 q2 b3 q3 b4 q4 M) 32));replace BB:=bt BB hb;have hmb:cb+1<=w2.heap.size:=WI (uh Hs0);have hown:Hid (∀ k,V7 (.slice b0 M.rm.length q0) (.slice b1 M.gd.length q1) (.slice b2 M.sm.length q2) (.slice b3 M.dk.length q3) (.slice b4 M.pc.length q4) rq k->k ≠ w.heap.size/\cb<k):=Z9 (fun k e=>by have:=((uh HF).own e).1;omega);clear hb Hs0;rw [hW2]
 (try rw [hW2] at Hs);clear hW2
 generalize w2.heap.size=mb at *;have hkl:M.sm.length<=1000000:=by have:=uh Hm2;omega
 have hkd:M.dk.length<=1000000:=by have:=uh Hm3;omega
 obtain ⟨x0,x1,x2,x3,x4,x5⟩:=(uh km).c6;go_wp2_with fail;refine (Rh a len cap cb _ _ _ _ _ _ _ _ _ _ _ _ _ _ _ _ hkl _ (uh Hs)).mono ?_;rintro e9 w3 ⟨x,rfl,s9,p9⟩;have ho:=p9;replace km:=Z9 ((uh km).away ho (by omega));replace kr:=Z9 ((uh kr).away ho (by omega));replace HF:=Z9 ((uh HF).keep (fun k e=>ho.block k ((uh HF).own e).2 (by have:=(uh hown k e).2;omega)));replace BB:=Z9 ((uh BB).trans (ho.below (by omega) (uh BB).size));replace Hs:=Z9 s9;clear s9 p9 ho x0 x1 x2 x3 x4 x5;obtain ⟨x0,x1,x2,x3,x4,x5⟩:=(uh km).c6;go_wp2_with fail;refine wp_region_held_drew (S:=fun w'=>w'.cell? ⟨mb,0,none⟩=some (.slice b0 M.rm.length q0)/\w'.cell? ⟨mb,1,none⟩=some (.slice b1 M.gd.length q1)/\w'.cell? ⟨mb,2,none⟩=some (.slice b2 M.sm.length q2)/\w'.cell? ⟨mb,3,none⟩=some (.slice b3 M.dk.length q3)/\w'.cell? ⟨mb,4,none⟩=some (.slice b4 M.pc.length q4)/\w'.cell? ⟨mb,5,none⟩=some (.int .i64 M.now)) (by kernel_rfl) ⟨x0,x1,x2,x3,x4,x5⟩ (fun hHeld=> ?_);clear x0 x1 x2 x3 x4 x5
 iterate 4 refine tz ?_
 refine rd 4 rfl (fun K hK=> ?_);go_simp;refine (SV a len cap cb _ _ _ _ _ _ _ _ _ _ _ _ _ _ _ _ hkd _ (Vc (uh Hs))).mono ?_;rintro e9 w5 ⟨y,rfl,s9,p9⟩;have ho:=U0 p9;replace km:=Z9 ((uh km).away ho (by omega));replace kr:=Z9 ((uh kr).away ho (by omega));replace HF:=Z9 ((uh HF).keep (fun k e=>ho.block k ((uh HF).own e).2 (by have:=(uh hown k e).2;omega)));replace BB:=Z9 ((uh BB).trans (ho.below (by omega) (uh BB).size));clear s9 p9 ho;refine hK.out _ _ (uh km).c6 (fun hHeld=> ?_);clear hK K
 (try simp only [Act.put,sA,sZ,sS])
 obtain ⟨o0,o1,o2,o3,o4,o5⟩:=(uh kr).c6;obtain ⟨f0,f1,f2,f3,f4,f5⟩:=(uh kr).f6;have kmN:Blk ((((((w5.setCell ⟨w.heap.size,0,none⟩ (.slice b0 M.rm.length q0)).setCell ⟨w.heap.size,1,none⟩ (.slice b1 M.gd.length q1)).setCell ⟨w.heap.size,2,none⟩ (.slice b2 M.sm.length q2)).setCell ⟨w.heap.size,3,none⟩ (.slice b3 M.dk.length q3)).setCell ⟨w.heap.size,4,none⟩ (.slice b4 M.pc.length q4)).setCell ⟨w.heap.size,5,none⟩ (.int .i64 M.now)) mb 32 (S6 b0 q0 b1 q1 b2 q2 b3 q3 b4 q4 M):=(((((((uh km).other (a:=⟨w.heap.size,0,none⟩) (by show mb ≠ w.heap.size;omega) (.slice b0 M.rm.length q0)).other (a:=⟨w.heap.size,1,none⟩) (by show mb ≠ w.heap.size;omega) (.slice b1 M.gd.length q1)).other (a:=⟨w.heap.size,2,none⟩) (by show mb ≠ w.heap.size;omega) (.slice b2 M.sm.length q2)).other (a:=⟨w.heap.size,3,none⟩) (by show mb ≠ w.heap.size;omega) (.slice b3 M.dk.length q3)).other (a:=⟨w.heap.size,4,none⟩) (by show mb ≠ w.heap.size;omega) (.slice b4 M.pc.length q4)).other (a:=⟨w.heap.size,5,none⟩) (by show mb ≠ w.heap.size;omega) (.int .i64 M.now))
 refine rd 5 rfl (fun K hK=> ?_);go_simp;refine hK.out _ _ ⟨kmN.cell (i:=0) rfl,kmN.cell (i:=1) rfl,kmN.cell (i:=2) rfl,kmN.cell (i:=3) rfl,kmN.cell (i:=4) rfl,kmN.cell (i:=5) rfl⟩ (fun hHeld=> ?_);clear hK K
 (try simp only [Act.put,sA,sZ,sS])
 refine rd 6 rfl (fun K hK=> ?_);go_simp;refine hK.out _ _ ⟨kmN.cell (i:=0) rfl,kmN.cell (i:=1) rfl,kmN.cell (i:=2) rfl,kmN.cell (i:=3) rfl,kmN.cell (i:=4) rfl,kmN.cell (i:=5) rfl⟩ (fun hHeld=> ?_);clear hK K
 (try simp only [Act.put,sA,sZ,sS])
 refine rd 7 rfl (fun K hK=> ?_);go_simp;refine hK.out _ _ ⟨kmN.cell (i:=0) rfl,kmN.cell (i:=1) rfl,kmN.cell (i:=2) rfl,kmN.cell (i:=3) rfl,kmN.cell (i:=4) rfl,kmN.cell (i:=5) rfl⟩ (fun hHeld=> ?_);clear hK K
 (try simp only [Act.put,sA,sZ,sS])
 clear kmN;refine wpAnyH_done (by kernel_rfl) ?_ _;clear hHeld;go_wp2_with fail;refine Zz (v:= .tuple #[.agg (S6 b0 q0 b1 q1 b2 q2 b3 q3 b4 q4 M),.int .i64 x,.int .i64 y]) (by simp [results,results13,go_sem, *]) rfl ⟨M,_,_,_,_,_,x,y,rq,rfl,?_,?_⟩
 ·refine FullSmy.mono (n₀:=cb+1) ?_ (by omega)
  iterate 6 (refine FullSmy.set_off ?_ (fun k e=>(uh hown k e).1) _ _)
  exact uh HF
 ·iterate 6 (refine Yv ?_ (by show w.heap.size<=w.heap.size;omega) _)
  exact uh BB
set_option maxRecDepth 100000
theorem NI (a:Option Addr) (len cap:Nat) (w:World) (hr:Row w.heap.size w a len) :
  Calls prog 18 #[.slice a len cap] w fun e w'=> ∃ M u0 u1 u2 u3 u4 x rq,e= .returned (.tuple #[.agg #[u0,u1,u2,u3,u4,.int .i64 M.now],.int .i64 x])/\FullSmy (w.heap.size+1) w' u0 u1 u2 u3 u4 M rq/\Below w.heap.size w w':=by
 have Hr:=Z9 (Draw.row_later hr ((Z3 _ _).alloc (Z0 _) (.cells E6 32)));clear hr;go_enter func18,ntmps18;go_wp2_with fail;have kr:Hid (Blk (w.alloc (.cells E6 32)) w.heap.size 32 E6):=Z9 (Blk.new _ _ _);have BB:Hid (Below w.heap.size w (w.alloc (.cells E6 32))):=Z9 ((ba _ _));have hzW:w.heap.size<(w.alloc (.cells E6 32)).heap.size:=by simp
 generalize w.alloc (.cells E6 32)=W at *;refine (Q6 a len cap _ (uh Hr)).mono ?_;rintro e w2 ⟨M,u0,u1,u2,u3,u4,x,rq,rfl,hm,hb⟩;have HF:=Z9 hm;have k6:=hm.smy;obtain ⟨b0,q0,b1,q1,b2,q2,b3,q3,b4,q4,rfl,rfl,rfl,rfl,rfl,_,_,_,_,_,_,_,_,_,_⟩:=k6.five;replace kr:=Z9 ((uh kr).below hb hzW);replace BB:=bt BB hb;clear hm hb Hr k6;generalize W.heap.size=cb at *;obtain ⟨o0,o1,o2,o3,o4,o5⟩:=(uh kr).c6;obtain ⟨f0,f1,f2,f3,f4,f5⟩:=(uh kr).f6;go_wp2_with fail;refine Zz (v:= .tuple #[.agg (S6 b0 q0 b1 q1 b2 q2 b3 q3 b4 q4 M),.int .i64 x]) (by simp [results,results18,go_sem, *]) rfl ⟨M,_,_,_,_,_,x,rq,rfl,?_,?_⟩
 ·refine FullSmy.mono (n₀:=cb+1) ?_ (by omega)
  iterate 6 (refine FullSmy.set ?_ _ _ _ (by omega))
  exact uh HF
 ·iterate 6 (refine Yv ?_ (by show w.heap.size<=w.heap.size;omega) _)
  exact uh BB
theorem NJ (a:Option Addr) (len cap:Nat) (w:World) (hr:Row w.heap.size w a len) :
  Calls prog 20 #[.slice a len cap] w fun e w'=> ∃ M u0 u1 u2 u3 u4 x y rq,e= .returned (.tuple #[.agg #[u0,u1,u2,u3,u4,.int .i64 M.now],.int .i64 x,.int .i64 y])/\FullSmy (w.heap.size+1) w' u0 u1 u2 u3 u4 M rq/\Below w.heap.size w w':=by
 have Hr:=Z9 (Draw.row_later hr ((Z3 _ _).alloc (Z0 _) (.cells E6 32)));clear hr;go_enter func20,ntmps20;go_wp2_with fail;have kr:Hid (Blk (w.alloc (.cells E6 32)) w.heap.size 32 E6):=Z9 (Blk.new _ _ _);have BB:Hid (Below w.heap.size w (w.alloc (.cells E6 32))):=Z9 ((ba _ _));have hzW:w.heap.size<(w.alloc (.cells E6 32)).heap.size:=by simp
 generalize w.alloc (.cells E6 32)=W at *;refine (SM a len cap _ (uh Hr)).mono ?_;rintro e w2 ⟨M,u0,u1,u2,u3,u4,x,y,rq,rfl,hm,hb⟩;have HF:=Z9 hm;have k6:=hm.smy;obtain ⟨b0,q0,b1,q1,b2,q2,b3,q3,b4,q4,rfl,rfl,rfl,rfl,rfl,_,_,_,_,_,_,_,_,_,_⟩:=k6.five;replace kr:=Z9 ((uh kr).below hb hzW);replace BB:=bt BB hb;clear hm hb Hr k6;generalize W.heap.size=cb at *;obtain ⟨o0,o1,o2,o3,o4,o5⟩:=(uh kr).c6;obtain ⟨f0,f1,f2,f3,f4,f5⟩:=(uh kr).f6;go_wp2_with fail;refine Zz (v:= .tuple #[.agg (S6 b0 q0 b1 q1 b2 q2 b3 q3 b4 q4 M),.int .i64 x,.int .i64 y]) (by simp [results,results20,go_sem, *]) rfl ⟨M,_,_,_,_,_,x,y,rq,rfl,?_,?_⟩
 ·refine FullSmy.mono (n₀:=cb+1) ?_ (by omega)
  iterate 6 (refine FullSmy.set ?_ _ _ _ (by omega))
  exact uh HF
 ·iterate 6 (refine Yv ?_ (by show w.heap.size<=w.heap.size;omega) _)
  exact uh BB
theorem LL (a:Option Addr) (len cap:Nat) (w:World) (hr:Row w.heap.size w a len) :
  Calls prog 32 #[.slice a len cap] w fun e w'=> ∃ M u0 u1 u2 u3 u4 x rq,e= .returned (.tuple #[.agg #[u0,u1,u2,u3,u4,.int .i64 M.now],.int .i64 x])/\FullSmy (w.heap.size+1) w' u0 u1 u2 u3 u4 M rq/\Below w.heap.size w w':=by
 have Hr:=Z9 (Draw.row_later hr ((Z3 _ _).alloc (Z0 _) (.cells E6 32)));clear hr;go_enter func32,ntmps32;go_wp2_with fail;have kr:Hid (Blk (w.alloc (.cells E6 32)) w.heap.size 32 E6):=Z9 (Blk.new _ _ _);have BB:Hid (Below w.heap.size w (w.alloc (.cells E6 32))):=Z9 ((ba _ _));have hzW:w.heap.size<(w.alloc (.cells E6 32)).heap.size:=by simp
 generalize w.alloc (.cells E6 32)=W at *;refine (Q6 a len cap _ (uh Hr)).mono ?_;rintro e w2 ⟨M,u0,u1,u2,u3,u4,x,rq,rfl,hm,hb⟩;have HF:=Z9 hm;have k6:=hm.smy;obtain ⟨b0,q0,b1,q1,b2,q2,b3,q3,b4,q4,rfl,rfl,rfl,rfl,rfl,_,_,_,_,_,_,_,_,_,_⟩:=k6.five;replace kr:=Z9 ((uh kr).below hb hzW);replace BB:=bt BB hb;clear hm hb Hr k6;generalize W.heap.size=cb at *;obtain ⟨o0,o1,o2,o3,o4,o5⟩:=(uh kr).c6;obtain ⟨f0,f1,f2,f3,f4,f5⟩:=(uh kr).f6;go_wp2_with fail;refine Zz (v:= .tuple #[.agg (S6 b0 q0 b1 q1 b2 q2 b3 q3 b4 q4 M),.int .i64 x]) (by simp [results,results32,go_sem, *]) rfl ⟨M,_,_,_,_,_,x,rq,rfl,?_,?_⟩
 ·refine FullSmy.mono (n₀:=cb+1) ?_ (by omega)
  iterate 6 (refine FullSmy.set ?_ _ _ _ (by omega))
  exact uh HF
 ·iterate 6 (refine Yv ?_ (by show w.heap.size<=w.heap.size;omega) _)
  exact uh BB
theorem NH (a:Option Addr) (len cap:Nat) (w:World) (hr:Row w.heap.size w a len) :
  Calls prog 34 #[.slice a len cap] w fun e w'=> ∃ M u0 u1 u2 u3 u4 rq,e= .returned (.agg #[u0,u1,u2,u3,u4,.int .i64 M.now])/\FullSmy (w.heap.size+1) w' u0 u1 u2 u3 u4 M rq/\Below w.heap.size w w':=by
 have Hr:=Z9 (Draw.row_later hr ((Z3 _ _).alloc (Z0 _) (.cells E6 32)));clear hr;go_enter func34,ntmps34;go_wp2_with fail;have kr:Hid (Blk (w.alloc (.cells E6 32)) w.heap.size 32 E6):=Z9 (Blk.new _ _ _);have BB:Hid (Below w.heap.size w (w.alloc (.cells E6 32))):=Z9 ((ba _ _));have hzW:w.heap.size<(w.alloc (.cells E6 32)).heap.size:=by simp
 generalize w.alloc (.cells E6 32)=W at *;refine (SN a len cap _ (uh Hr)).mono ?_;rintro e w2 ⟨M,u0,u1,u2,u3,u4,rq,rfl,hm,hb⟩;have HF:=Z9 hm;have k6:=hm.smy;obtain ⟨b0,q0,b1,q1,b2,q2,b3,q3,b4,q4,rfl,rfl,rfl,rfl,rfl,_,_,_,_,_,_,_,_,_,_⟩:=k6.five;replace kr:=Z9 ((uh kr).below hb hzW);replace BB:=bt BB hb;clear hm hb Hr k6;generalize W.heap.size=cb at *;obtain ⟨o0,o1,o2,o3,o4,o5⟩:=(uh kr).c6;obtain ⟨f0,f1,f2,f3,f4,f5⟩:=(uh kr).f6;go_wp2_with fail;refine Zz (v:= .agg (S6 b0 q0 b1 q1 b2 q2 b3 q3 b4 q4 M)) (by simp [results,results34,go_sem, *]) rfl ⟨M,_,_,_,_,_,rq,rfl,?_,?_⟩
 ·refine FullSmy.mono (n₀:=cb+1) ?_ (by omega)
  iterate 6 (refine FullSmy.set ?_ _ _ _ (by omega))
  exact uh HF
 ·iterate 6 (refine Yv ?_ (by show w.heap.size<=w.heap.size;omega) _)
  exact uh BB
open Draw (Row Vt Pa row_later Qz OM)
set_option maxRecDepth 100000
theorem Pz  {k b:Nat} (hok:ZM m=true) (hw:Yn m (k:Int)=true) (hk:k<m.sm.length) (hb0:b<m.dk.length) (h:Smy w v0 v1 v2 v3 v4 m):cB 40 #[.agg #[v0,v1,v2,v3,v4,.int .i64 m.now],.int .i64 (k:Int),.int .i64 (b:Int)] w (.int .i64 (YE m (k:Int) b)):=by
 have Hu:Hid (Ve m (b:Int)=Zx m (b:Int) (-1)):=Z9 (by unfold Ve Y1;rw [hok,Zn (by omega) (by omega)];rfl);have Hwn:Hid (YM m (k:Int)=ZC m (k:Int)):=Z9 (by unfold YM;rw [hok,hw];rfl);rw [<-Cz hk b];have hfo:Ru m k (b:Int)=if (Z8 m.sm k).2.1=(b:Int)/\ZL (Z8 m.sm k)=true then ZC m (k:Int) else 0:=rfl
 have hk1:(k:Int)<(m.sm.length:Int):=by omega
 have hub:=U4 m (b:Int) (-1);have hwb:=Wr m (k:Int);have hl:=PQ hok;have HF:=Z9 (fun (X:World) (v:Value) (h:IsRooms X v m.rm)=>UN (b:Int) h);clear hok hw;generalize Zo m.rm (b:Int)=fo at *;generalize Zx m (b:Int) (-1)=us at *;generalize Ru m k (b:Int)=ow at *;generalize ZC m (k:Int)=wv at *;obtain ⟨un,hun⟩:=ZJ (us-ow);rw [hun];obtain ⟨a0,p0,a1,p1,a2,p2,a3,p3,a4,p4,rfl,rfl,rfl,rfl,rfl,K⟩:=Bx.new h;clear h;go_enter func40,ntmps40;go_wp2_with fail;generalize w.alloc (.cells (S6 a0 p0 a1 p1 a2 p2 a3 p3 a4 p4 m) 32)=W at *;refine ck (Wn (uh Hu) K.smy) fun w1 hb=> ?_;replace K:=K.next hb;clear hb Hu;obtain ⟨_,_,hse,_,_,r2⟩:=K.smy.sm;cases hse
 rcases r2 with e0 | ⟨sb,off,rfl,hbw,hcl⟩
 ·rw [e0] at hk;simp at hk
 obtain ⟨d0,d1,d2,d3,d4,d5,d6,d7,d8,d9,d10⟩:=Zu hcl hk;have c2:=K.blk.cell (i:=2) (v:= .slice (some ⟨sb,off,none⟩) m.sm.length p2) rfl;clear hcl;generalize Z8 m.sm k=ss at *;obtain ⟨pr,hpr⟩:=ZJ (ZL ss);obtain ⟨st,be,rk,my,gu,lo,hi,hd,ca,ut,wk⟩:=ss;rw [hpr] at hfo;have Hpr:=Z9 hpr;clear hpr;simp only at d0 d1 d2 d3 d4 d5 d6 d7 d8 d9 d10 hfo;have hbw2:sb<w1.heap.size+1:=by omega
 have hsne:sb ≠ w1.heap.size:=VH hbw;go_upto_region 3 with fail;obtain ⟨W2,hW,hb,ks⟩:=Zc w1 38 (I11 st be rk my gu lo hi hd ca ut wk);rw [hW];clear hW d0 d1 d2 d3 d4 d5 d6 d7 d8 d9 d10 c2;replace K:=K.next hb;clear hb;obtain ⟨s0,s1,s2,s3,s4,s5,s6,s7,s8,s9,s10⟩:=(uh ks).c11;go_wp2_with fail;refine ck (Kf (uh Hpr) _) fun w3 hb=> ?_;replace K:=K.next hb;replace ks:=bl ks hb;clear hb s0 s1 s2 s3 s4 s5 s6 s7 s8 s9 s10 Hpr;have s1:=(uh ks).cell (i:=1) (v:= .int .i64 be) rfl
 have hkey:(pr=false/\us=un)\/(pr=true/\be ≠ (b:Int)/\us=un)\/(pr=true/\be=(b:Int)/\us-wv=un):=by
  cases pr
  ·left;rw [if_neg (by simp)] at hfo;exact ⟨rfl,by omega⟩
  ·right
   by_cases hbe:be=(b:Int)
   ·right;rw [if_pos ⟨hbe,rfl⟩] at hfo;exact ⟨rfl,hbe,by omega⟩
   ·left;rw [if_neg (fun h=>hbe h.1)] at hfo;exact ⟨rfl,hbe,by omega⟩
 clear hfo hun;obtain ⟨c0,c1,c2,c3,c4,c5⟩:=K.cells
 rcases hkey with ⟨rfl,hu9⟩ | ⟨rfl,hbe,hu9⟩ | ⟨rfl,rfl,hu9⟩
 ·have Hu9:=Z9 hu9
  clear hu9;go_wp2_with fail;refine ck (uh HF _ _ K.smy.rm) fun w5 hb=> ?_;replace K:=K.next hb;clear hb c0 c1 c2 c3 c4 c5;go_wp2_with fail;refine ck (Calls.same_below' (VZ _ fo _)) fun w6 hb=> ?_;replace K:=K.next hb;clear hb;go_wp2_with fail;go_ret;exact ⟨by rw [uh Hu9];rfl,K.bb⟩
 ·have Hu9:=Z9 hu9
  have hbb:(be ==(b:Int))=false:=by simpa using hbe
  clear hu9;go_wp2_with fail;refine ck (uh HF _ _ K.smy.rm) fun w5 hb=> ?_;replace K:=K.next hb;clear hb c0 c1 c2 c3 c4 c5;go_wp2_with fail;refine ck (Calls.same_below' (VZ _ fo _)) fun w6 hb=> ?_;replace K:=K.next hb;clear hb;go_wp2_with fail;go_ret;exact ⟨by rw [uh Hu9];rfl,K.bb⟩
 ·have Hu9:=Z9 hu9
  clear hu9;go_wp2_with fail;refine ck (Uh (uh Hwn) K.smy) fun w4 hb=> ?_;replace K:=K.next hb;clear hb c0 c1 c2 c3 c4 c5;obtain ⟨c0,c1,c2,c3,c4,c5⟩:=K.cells;go_wp2_with fail;refine ck (uh HF _ _ K.smy.rm) fun w5 hb=> ?_;replace K:=K.next hb;clear hb c0 c1 c2 c3 c4 c5;go_wp2_with fail;refine ck (Calls.same_below' (VZ _ fo _)) fun w6 hb=> ?_;replace K:=K.next hb;clear hb;go_wp2_with fail;go_ret;exact ⟨by rw [uh Hu9];rfl,K.bb⟩
theorem JF (a0:Option Addr) (len0 cap0:Nat) (z0:List Int) (w:World) (w0:Vt .u8 w a0 len0 cap0 z0) :
  cB 5 #[.slice a0 len0 cap0] w (.bool true):=by
 by_cases hbig:4096<len0
 ·go_enter func5,ntmps5
  go_wp2_with fail;refine (Qz _ _ _ _ hbig).mono ?_;rintro e w' ⟨rfl,rfl⟩;go_wp2_with fail;go_ret;exact ⟨rfl,Z3 _ _⟩
 have Hr:=Z9 (Pa w0 (by omega));clear w0;go_enter func5,ntmps5;go_wp2_with fail;refine (OM _ _ _ _ (by omega)).mono ?_;rintro e w' ⟨rfl,hw'⟩;subst w';go_wp2_with fail;refine (LL _ _ _ _ (uh Hr)).mono ?_;rintro e w1 ⟨M,u0,u1,u2,u3,u4,who,rq,rfl,hf,hb⟩;obtain ⟨a0,p0,a1,p1,a2,p2,a3,p3,a4,p4,rfl,rfl,rfl,rfl,rfl,K1⟩:=Bx.put hf.smy (hb);replace Hr:=Z9 (row_later (uh Hr) hb);clear hb;clear hf;go_upto_region 4 with fail;have hb:Below w1.heap.size w1 (w1.alloc (.cells (S6 a0 p0 a1 p1 a2 p2 a3 p3 a4 p4 M) 32)):=ba _ _;replace Hr:=Z9 (row_later (uh Hr) hb);clear hb;generalize w1.alloc (.cells (S6 a0 p0 a1 p1 a2 p2 a3 p3 a4 p4 M) 32)=W1 at *;generalize w1.heap.size=mb at *;obtain ⟨c,Hc⟩:=YV (X9 M who);obtain ⟨c0,c1,c2,c3,c4,c5⟩:=K1.cells;go_wp2_with fail;clear c0 c1 c2 c3 c4 c5;refine ck (L8 (uh Hc) K1.smy) fun w2 hb=> ?_;replace K1:=K1.next hb;replace Hr:=Z9 (row_later (uh Hr) hb);clear hb;go_wp2_with fail;refine (NH _ _ _ _ (uh Hr)).mono ?_;rintro e w3 ⟨Q,u0,u1,u2,u3,u4,rq2,rfl,hf,hb⟩;obtain ⟨d0,t0,d1,t1,d2,t2,d3,t3,d4,t4,rfl,rfl,rfl,rfl,rfl,K2⟩:=Bx.put hf.smy (K1.bb.trans (hb.mono K1.bb.size));replace K1:=K1.next hb;replace Hr:=Z9 (row_later (uh Hr) hb);clear hb;clear hf;go_upto_region 6 with fail;have hb:Below w3.heap.size w3 (w3.alloc (.cells (S6 d0 t0 d1 t1 d2 t2 d3 t3 d4 t4 Q) 32)):=ba _ _;replace K1:=K1.next hb;replace Hr:=Z9 (row_later (uh Hr) hb);clear hb;generalize w3.alloc (.cells (S6 d0 t0 d1 t1 d2 t2 d3 t3 d4 t4 Q) 32)=W3 at *;generalize w3.heap.size=rb at *;clear Hr;obtain ⟨fu,Hfu⟩:=YV (Xx Q);obtain ⟨c0,c1,c2,c3,c4,c5⟩:=K2.cells;go_wp2_with fail;clear c0 c1 c2 c3 c4 c5;refine ck (NM (uh Hfu) K2.smy) fun w4 hb=> ?_;replace K1:=K1.next hb;replace K2:=K2.next hb;clear hb;obtain ⟨c0,c1,c2,c3,c4,c5⟩:=K1.cells;go_wp2_with fail;clear c0 c1 c2 c3 c4 c5;refine ck (MQ (uh Hc) K1.smy) fun w5 hb=> ?_;replace K1:=K1.next hb;replace K2:=K2.next hb;clear hb;obtain ⟨c0,c1,c2,c3,c4,c5⟩:=K2.cells;go_wp2_with fail;clear c0 c1 c2 c3 c4 c5;refine ck (RT (uh Hfu) K2.smy) fun w6 hb=> ?_;replace K1:=K1.next hb;replace K2:=K2.next hb;clear hb;have hpp:(fu !=fu)=false:=bne_self_eq_false fu;have HB:=Z9 (Z3 w6.heap.size w6)
 go_upto_block 0 with fail
 go_cut [8] (fun s wc=>s= .bool fu/\Below w6.heap.size w6 wc)
 case first=>
  clear K1 Hc hpp;obtain ⟨ok,Hok⟩:=YV (ZM Q);have HU:Hid (ok=true-> ∀ b:Nat,b<Q.dk.length->Ve Q (b:Int)=Zx Q (b:Int) (-1)):=Z9 (fun e b hb=>by unfold Ve Y1;rw [uh Hok,e,Zn (by omega) (by omega)];rfl);have HI:Hid (ok=true->XT Q=fu):=Z9 (fun e=>by rw [<-uh Hfu,LI ((uh Hok).trans e)]);have HO:Hid (ok=false->fu=false):=Z9 (fun e=>by rw [<-uh Hfu,BE ((uh Hok).trans e)]);have H8:Hid (ok=true->Q.dk.length<=8):=Z9 (fun e=>(ZU ((uh Hok).trans e)).sane.eight);go_wp2_with fail
  go_loopw [8,9] (fun s i wr=> ∃ j:Nat,j<=Q.dk.length/\i= .int .i64 j/\s= .bool ((List.range j).any (Vv Q))/\(ok=false->j=0)/\Below w6.heap.size w6 wr) (fun _ i _=>Q.dk.length-(intOf i).toNat)
  case atStart=>exact ⟨0,ZA _,rfl,rfl,fun _=>rfl,Z3 _ _⟩
  case round=>
   obtain ⟨j,hj,rfl,rfl,hz,hb⟩:=hrel;have K:=K2.next hb;have HW:=Z9 hb;have Hz:=Z9 hz;clear hb hz;obtain ⟨so,hso⟩:=ZJ ((List.range j).any (Vv Q));have HA:=Z9 (IW (p:=Vv Q) j);rw [hso] at HA ⊢;have Hso:=Z9 hso;clear hso;obtain ⟨c0,c1,c2,c3,c4,c5⟩:=K.cells;by_cases hlt:j<Q.dk.length;rotate_left
   ·obtain rfl:j=Q.dk.length:=by omega
    have hfin:so=fu:=by
     cases ok
     ·have h0:=uh Hz rfl
      rw [<-uh Hso,h0,uh HO rfl];rfl
     ·rw [<-uh Hso]
      exact uh HI rfl
    subst hfin;go_wp2_with fail;go_meet;exact ⟨rfl,uh HW⟩
   have hlt1:(j:Int)<(Q.dk.length:Int):=by omega
   go_wp2_with fail;refine ck (Ww (uh Hok) K.smy) fun w7 hb=> ?_;replace K:=K.next hb;replace HW:=Z9 ((uh HW).trans (hb.mono (uh HW).size));clear hb c0 c1 c2 c3 c4 c5;cases ok
   ·have hfin:so=fu:=by
     have h0:=uh Hz rfl;rw [<-uh Hso,h0,uh HO rfl];rfl
    subst hfin;go_wp2_with fail;go_meet;exact ⟨rfl,uh HW⟩
   have h8:=uh H8 rfl;have Hu:=Z9 (uh HU rfl j hlt);have hcr:Vv Q j=((Z8 Q.dk j).1 && V4 (Zx Q (j:Int) (-1)) (Zo Q.rm (j:Int))):=rfl;rw [hcr] at HA;clear hcr;obtain ⟨_,_,hde,_,_,r3⟩:=K.smy.dk;cases hde
   rcases r3 with e0 | ⟨db,off,rfl,hbw,hcl⟩
   ·rw [e0] at hlt;simp at hlt
   obtain ⟨e0,e1,e2⟩:=Zh hcl hlt;clear hcl e1 e2;have hfc:=Z9 (fun (X:World) (h:IsRooms X (.slice d0 Q.rm.length t0) Q.rm)=>UN (j:Int) h);generalize Zo Q.rm (j:Int)=fo at *;generalize Zx Q (j:Int) (-1)=us at *;generalize (Z8 Q.dk j).1=op at *;obtain ⟨mu,hmu⟩:=ZJ (V4 us fo);have HM:=Z9 (fun X=>Calls.bool_of (Calls.same_below' (RW us fo X)) hmu);rw [hmu] at HA;clear hmu Hso;obtain ⟨c0,c1,c2,c3,c4,c5⟩:=K.cells;go_upto_region 13 with fail;have k0:=ZX c0;have k1:=ZX c1;have k2:=ZX c2;have k3:=ZX c3;have k4:=ZX c4;have k5:=ZX c5;have k6:=ZX e0;cases so
   ·cases op
    ·refine Go.Proofs.YtgdpaigcmoifbaaGreat.wq ?_
     repeat (go_big_quiet_step (first | exact ZZ (Wn (uh Hu) (K.smy.below (Z1 _ _ _))) | exact ZZ (uh hfc _ (K.smy.below (Z1 _ _ _)).rm) | exact ZZ (uh HM _)))
     refine wpQuiet_nil ?_;intro _ hw';obtain ⟨⟨dq,osq⟩,hw9⟩:=hw';subst hw9;go_wp2_with fail;go_roundw
     case rel=>exact ⟨j+1,by omega,by go_num,by rw [uh HA];rfl,(fun e=>by cases e),(uh HW).trans ((Z1 _ _ _).mono (uh HW).size)⟩
     case measure=>exact ms
    ·refine Go.Proofs.YtgdpaigcmoifbaaGreat.wq ?_
     repeat (go_big_quiet_step (first | exact ZZ (Wn (uh Hu) (K.smy.below (Z1 _ _ _))) | exact ZZ (uh hfc _ (K.smy.below (Z1 _ _ _)).rm) | exact ZZ (uh HM _)))
     refine wpQuiet_nil ?_;intro _ hw';obtain ⟨⟨dq,osq⟩,hw9⟩:=hw';subst hw9;go_wp2_with fail;go_roundw
     case rel=>exact ⟨j+1,by omega,by go_num,by rw [uh HA];cases mu<;>rfl,(fun e=>by cases e),(uh HW).trans ((Z1 _ _ _).mono (uh HW).size)⟩
     case measure=>exact ms
   ·refine Go.Proofs.YtgdpaigcmoifbaaGreat.wq ?_
    repeat (go_big_quiet_step (first | exact ZZ (Wn (uh Hu) (K.smy.below (Z1 _ _ _))) | exact ZZ (uh hfc _ (K.smy.below (Z1 _ _ _)).rm) | exact ZZ (uh HM _)))
    refine wpQuiet_nil ?_;intro _ hw';obtain ⟨⟨dq,osq⟩,hw9⟩:=hw';subst hw9;go_wp2_with fail;go_roundw
    case rel=>exact ⟨j+1,by omega,by go_num,by rw [uh HA];rfl,(fun e=>by cases e),(uh HW).trans ((Z1 _ _ _).mono (uh HW).size)⟩
    case measure=>exact ms
 case rest=>
  obtain ⟨rfl,hb⟩:=hcut;obtain ⟨w7,rfl⟩:∃ x,x=wc:=⟨wc,rfl⟩
  clear HB K2 Hfu;replace K1:=K1.next hb;clear hb;obtain ⟨wv,Hw⟩:=YV (YM M who);obtain ⟨c0,c1,c2,c3,c4,c5⟩:=K1.cells;go_wp2_with fail;clear c0 c1 c2 c3 c4 c5;refine ck (Uh (uh Hw) K1.smy) fun w8 hb=> ?_;replace K1:=K1.next hb;clear hb;clear hpp
  rcases Nj (uh Hw) with hneg | ⟨hw0,hok,hwh⟩
  ·subst hneg
   obtain rfl:c= -1:=by rw [<-uh Hc];exact FO (uh Hw)
   go_wp2_with fail;go_ret;exact ⟨rfl,K1.bb⟩
  obtain ⟨k,rfl,hk,hs⟩:=YK hwh;have hk1:(k:Int)<(M.sm.length:Int):=by omega
  have hneg:¬ wv<0:=by omega
  have Hok:=Z9 hok;have Hwh:=Z9 hwh;clear hok hwh hs Hw;have h8:=(ZU (uh Hok)).sane.eight;obtain ⟨fs,hfs⟩:=ZJ (Zi M (k:Int));have Hfs:=Z9 hfs;have hfl:fs.length<=1000:=by rw [<-hfs];exact zg M (k:Int)
  clear hfs;obtain ⟨c0,c1,c2,c3,c4,c5⟩:=K1.cells;go_wp2_with fail;clear c0 c1 c2 c3 c4 c5;refine (RU (uh Hfs) K1.smy).mono ?_;rintro e w9 ⟨v9,rfl,hn,hb⟩;obtain ⟨fa,fc,rfl⟩:=RecAt.shape hn;have HF:=Z9 hn;clear hn;replace K1:=K1.next hb;clear hb;obtain ⟨own,hown⟩:=ZJ ((Z8 M.sm k).2.1);have Hown:=Z9 hown;obtain ⟨_,_,hse,_,_,r2⟩:=K1.smy.sm;cases hse
  rcases r2 with e0 | ⟨sb,off,rfl,hbw,hcl⟩
  ·rw [e0] at hk;simp at hk
  obtain ⟨d0,d1,d2,d3,d4,d5,d6,d7,d8,d9,d10⟩:=Zu hcl hk;have c2:=K1.blk.cell (i:=2) (v:= .slice (some ⟨sb,off,none⟩) M.sm.length p2) rfl;clear hcl;rw [hown] at d1;clear hown;obtain ⟨ss,hss⟩:=ZJ (Z8 M.sm k);rw [hss] at d0 d2 d3 d4 d5 d6 d7 d8 d9 d10;clear hss;obtain ⟨st,be,rk,my,gu,lo,hi,hd,ca,ut,wk⟩:=ss;simp only at d0 d2 d3 d4 d5 d6 d7 d8 d9 d10;have hbw2:sb<w9.heap.size+1:=by omega
  have hsne:sb ≠ w9.heap.size:=VH hbw;go_upto_region 21 with fail;obtain ⟨W,hW,hb,ks⟩:=Zc w9 38 (I11 st own rk my gu lo hi hd ca ut wk);rw [hW];clear hW d0 d1 d2 d3 d4 d5 d6 d7 d8 d9 d10 c2;replace HF:=Z9 (RecAt.later (uh HF) hb);replace K1:=K1.next hb;clear hb;obtain ⟨cr,Hcr⟩:=YV (Xx M);obtain ⟨c0,c1,c2,c3,c4,c5⟩:=K1.cells;go_wp2_with fail;clear c0 c1 c2 c3 c4 c5;refine ck (RT (uh Hcr) K1.smy) fun w10 hb=> ?_;replace ks:=bl ks hb;replace HF:=Z9 (RecAt.later (uh HF) hb);replace K1:=K1.next hb;clear hb;by_cases hway:cr=false/\0<fs.length
  ·obtain ⟨rfl,hfp⟩:=hway
   have hfi:(0:Int)<(fs.length:Int):=by omega
   obtain ⟨hin,hcc,hall⟩:=Aq (uh Hok) (uh Hwh) (uh Hcr) (uh Hfs) hfp (uh Hc);have Hin:=Z9 hin;have Hcc:=Z9 hcc;have Hall:=Z9 hall;rw [uh Hown] at Hall;clear hin hcc hall Hcr Hfs Hc;obtain ⟨c0,c1,c2,c3,c4,c5⟩:=K1.cells;generalize hle:ZS M (k:Int) c=le at *;clear hle;go_wp2_with fail;refine ck (Vo (uh Hcc) K1.smy) fun w11 hb=> ?_;replace HF:=Z9 (RecAt.later (uh HF) hb);replace K1:=K1.next hb;replace ks:=bl ks hb;clear hb c0 c1 c2 c3 c4 c5;go_wp2_with fail
   go_loopw [14] (fun i wr=> ∃ j:Nat,j<=fs.length/\i= .int .i64 j/\Below w11.heap.size w11 wr) (fun i _=>fs.length-(intOf i).toNat)
   case atStart=>exact ⟨0,ZA _,rfl,Z3 _ _⟩
   case round=>
    obtain ⟨j,hj,rfl,hb⟩:=hrel;have K:=K1.next hb;have HG:=Z9 (RecAt.later (uh HF) hb);have kt:=bl ks hb;have HW:=Z9 hb;clear hb;by_cases hlt:j<fs.length;rotate_left
    ·obtain rfl:j=fs.length:=by omega
     go_wp2_with fail;refine ck (Calls.bool_of (Calls.same_below' (Dm c (NumsAt.ints (uh HG)))) (uh Hin)) fun w12 hb=> ?_;replace K:=K.next hb;clear hb;go_wp2_with fail;go_ret;exact ⟨rfl,K.bb⟩
    have hlt1:(j:Int)<(fs.length:Int):=by omega
    obtain ⟨hq,hle,heq⟩:=uh Hall j hlt;obtain ⟨g,hga,_,hgw,hcl,_⟩:=RecAt.view Ze (by omega) (uh HG) rfl (by omega);cases hga;have z0:=hcl j hlt 0 _ rfl;simp only [Nat.mul_one,Nat.add_zero] at z0;clear hcl;generalize Z8 fs j=x at *;have Hq:=Z9 hq;have Heq:=Z9 heq;clear hq heq;generalize ZS M (k:Int) x=cw at *;obtain ⟨c0,c1,c2,c3,c4,c5⟩:=K.cells;have k0:=ZX c0;have k1:=ZX c1;have k2:=ZX c2;have k3:=ZX c3;have k4:=ZX c4;have k5:=ZX c5;have k6:=ZX z0;go_upto_region 26 with fail;refine Go.Proofs.YtgdpaigcmoifbaaGreat.wq ?_
    repeat (go_big_quiet_step (exact ZZ (Vo (uh Hq) (K.smy.below (Z1 _ _ _)))))
    refine wpQuiet_nil ?_;intro _ hw';obtain ⟨⟨dq,osq⟩,hw9⟩:=hw';subst hw9;have hb:Below wr.heap.size wr (Go.Sort.grow (Go.redrawn wr dq) osq):=Z1 wr dq osq;generalize Go.Sort.grow (Go.redrawn wr dq) osq=wq at *;replace z0:=(hb.cell (p:=⟨g,j,none⟩) hgw).trans z0;replace kt:=bl kt hb;replace HW:=Z9 ((uh HW).trans (hb.mono (uh HW).size));clear hb c0 c1 c2 c3 c4 c5 k0 k1 k2 k3 k4 k5 k6 K HG;have s1:=(uh kt).cell (i:=1) (v:= .int .i64 own) rfl;have k6:=ZX z0;have k7:=ZX s1;go_upto_region 27 with fail
    have hcase:(le<cw)\/(cw=le/\c=own/\x=own)\/(cw=le/\c=own/\x ≠ own/\x<c)\/(cw=le/\c=own/\x ≠ own/\ ¬ x<c)\/(cw=le/\c ≠ own/\x ≠ own/\ ¬ x<c):=by
     by_cases e1:cw=le
     ·right
      rcases uh Heq e1 with e2 | ⟨e2,e3⟩
      ·by_cases e4:x=own
       ·exact .inl ⟨e1,e2,e4⟩
       ·right
        by_cases e5:x<c
        ·exact .inl ⟨e1,e2,e4,e5⟩
        ·exact .inr (.inl ⟨e1,e2,e4,e5⟩)
      ·right
       by_cases e4:c=own
       ·exact .inr (.inl ⟨e1,e4,e2,by omega⟩)
       ·exact .inr (.inr ⟨e1,e4,e2,by omega⟩)
     ·left;omega
    clear Heq hle;have Hle:Hid True:=Z9 trivial
    rcases hcase with h1 | ⟨rfl,rfl,rfl⟩ | ⟨rfl,rfl,h2,h3⟩ | ⟨rfl,rfl,h2,h3⟩ | ⟨rfl,h1,h2,h3⟩
    ·have f1:¬ cw<le:=by omega
     have f2:(cw ==le)=false:=beq_eq_false_iff_ne.mpr (by omega);have f3:decide (cw=le)=false:=Yb (by omega);have f4:decide (cw<le)=false:=Yb f1;refine Go.Proofs.YtgdpaigcmoifbaaGreat.wq ?_
     repeat (go_big_quiet_step (fail))
     refine wpQuiet_nil ?_;intro _ hw';obtain ⟨⟨dr,osr⟩,hw9⟩:=hw';subst hw9;go_wp2_with fail;go_roundw
     case rel=>exact ⟨j+1,by omega,by go_num,(uh HW).trans ((Z1 _ _ _).mono (uh HW).size)⟩
     case measure=>exact ms
    ·have f2:(cw ==cw)=true:=beq_self_eq_true cw
     have f5:(x ==x)=true:=beq_self_eq_true x;have f6:(x !=x)=false:=bne_self_eq_false x;have f7:¬ x<x:=by omega
     have f8:¬ cw<cw:=by omega
     refine Go.Proofs.YtgdpaigcmoifbaaGreat.wq ?_
     repeat (go_big_quiet_step (fail))
     refine wpQuiet_nil ?_;intro _ hw';obtain ⟨⟨dr,osr⟩,hw9⟩:=hw';subst hw9;go_wp2_with fail;go_roundw
     case rel=>exact ⟨j+1,by omega,by go_num,(uh HW).trans ((Z1 _ _ _).mono (uh HW).size)⟩
     case measure=>exact ms
    ·have f2:(cw ==cw)=true:=beq_self_eq_true cw
     have f5:(x ==c)=false:=beq_eq_false_iff_ne.mpr h2;have f9:decide (x=c)=false:=Yb h2;have f6:(c !=c)=false:=bne_self_eq_false c;have f8:¬ cw<cw:=by omega
     have f7:decide (x<c)=true:=V0 h3;refine Go.Proofs.YtgdpaigcmoifbaaGreat.wq ?_
     repeat (go_big_quiet_step (fail))
     refine wpQuiet_nil ?_;intro _ hw';obtain ⟨⟨dr,osr⟩,hw9⟩:=hw';subst hw9;go_wp2_with fail;go_roundw
     case rel=>exact ⟨j+1,by omega,by go_num,(uh HW).trans ((Z1 _ _ _).mono (uh HW).size)⟩
     case measure=>exact ms
    ·have f2:(cw ==cw)=true:=beq_self_eq_true cw
     have f5:(x ==c)=false:=beq_eq_false_iff_ne.mpr h2;have f9:decide (x=c)=false:=Yb h2;have f6:(c !=c)=false:=bne_self_eq_false c;have f8:¬ cw<cw:=by omega
     have f7:decide (x<c)=false:=Yb h3;refine Go.Proofs.YtgdpaigcmoifbaaGreat.wq ?_
     repeat (go_big_quiet_step (fail))
     refine wpQuiet_nil ?_;intro _ hw';obtain ⟨⟨dr,osr⟩,hw9⟩:=hw';subst hw9;go_wp2_with fail;go_roundw
     case rel=>exact ⟨j+1,by omega,by go_num,(uh HW).trans ((Z1 _ _ _).mono (uh HW).size)⟩
     case measure=>exact ms
    ·have f2:(cw ==cw)=true:=beq_self_eq_true cw
     have f5:(x ==own)=false:=beq_eq_false_iff_ne.mpr h2;have f9:decide (x=own)=false:=Yb h2;have f8:¬ cw<cw:=by omega
     have f7:decide (x<c)=false:=Yb h3;refine Go.Proofs.YtgdpaigcmoifbaaGreat.wq ?_
     repeat (go_big_quiet_step (fail))
     refine wpQuiet_nil ?_;intro _ hw';obtain ⟨⟨dr,osr⟩,hw9⟩:=hw';subst hw9;go_wp2_with fail;go_roundw
     case rel=>exact ⟨j+1,by omega,by go_num,(uh HW).trans ((Z1 _ _ _).mono (uh HW).size)⟩
     case measure=>exact ms
  have hway2:cr=true\/fs.length=0:=by
   cases cr
   ·exact .inr (Nat.eq_zero_of_not_pos (fun h=>hway ⟨rfl,h⟩))
   ·exact .inl rfl
  have hmost:=At (uh Hok) (uh Hwh) (uh Hfs) (by rw [uh Hcr];exact hway2) (uh Hc);have Hmost:=Z9 hmost;have HMW:Hid (∀ b:Nat,b<M.dk.length->XJ M (k:Int) (b:Int)=Zk M (k:Int) b):=Z9 (fun b hb=>AB (uh Hok) (uh Hwh) hb);clear hway hmost Hcr Hfs Hc;obtain ⟨an,han⟩:=ZJ ((List.range M.dk.length).any (Zk M (k:Int)));rw [han] at Hmost;have Han:=Z9 han;clear han;have HB:=Z9 (Z3 w10.heap.size w10)
  have hcond:(cr=true)\/(cr=false/\fs=[]):=by
   rcases hway2 with rfl | h0
   ·exact .inl rfl
   ·cases cr
    ·exact .inr ⟨rfl,List.eq_nil_of_length_eq_zero h0⟩
    ·exact .inl rfl
  clear hway2 HF ks
  rcases hcond with rfl | ⟨rfl,rfl⟩
  all_goals
   go_upto_block 4 with fail
   go_cut [16] (fun s wc=>s= .bool an/\Below w10.heap.size w10 wc)
   case first=>
    go_wp2_with fail
    go_loopw [16,17] (fun s i wr=> ∃ j:Nat,j<=M.dk.length/\i= .int .i64 j/\s= .bool ((List.range j).any (Zk M (k:Int)))/\Below w10.heap.size w10 wr) (fun _ i _=>M.dk.length-(intOf i).toNat)
    case atStart=>exact ⟨0,ZA _,rfl,rfl,Z3 _ _⟩
    case round=>
     obtain ⟨j,hj,rfl,rfl,hb⟩:=hrel;have K:=K1.next hb;have HW:=Z9 hb;clear hb;obtain ⟨so,hso⟩:=ZJ ((List.range j).any (Zk M (k:Int)));have HA:=Z9 (IW (p:=Zk M (k:Int)) j);rw [hso] at HA ⊢;have Hso:=Z9 hso;clear hso;obtain ⟨c0,c1,c2,c3,c4,c5⟩:=K.cells;by_cases hlt:j<M.dk.length;rotate_left
     ·obtain rfl:j=M.dk.length:=by omega
      obtain rfl:so=an:=(uh Hso).symm.trans (uh Han);go_wp2_with fail;go_meet;exact ⟨rfl,uh HW⟩
     have hlt1:(j:Int)<(M.dk.length:Int):=by omega
     have Hq:=Z9 (uh HMW j hlt);generalize Zk M (k:Int) j=mw at *;clear Hso;cases so
     ·go_wp2_with fail
      refine ck (VY (uh Hq) K.smy) fun w11 hb=> ?_;replace HW:=Z9 ((uh HW).trans (hb.mono (uh HW).size));clear hb c0 c1 c2 c3 c4 c5;go_wp2_with fail;go_roundw
      case rel=>exact ⟨j+1,by omega,by go_num,by rw [uh HA];cases mw<;>rfl,uh HW⟩
      case measure=>exact ms
     ·go_wp2_with fail
      go_roundw
      case rel=>exact ⟨j+1,by omega,by go_num,by rw [uh HA];rfl,uh HW⟩
      case measure=>exact ms
   case rest=>
    obtain ⟨rfl,hb⟩:=hcut;obtain ⟨w11,rfl⟩:∃ x,x=wc:=⟨wc,rfl⟩
    replace K1:=K1.next hb;clear hb HB Han
    rcases uh Hmost with ⟨rfl,rfl⟩ | ⟨cn,rfl,hcn,hmay,rfl,hsp⟩
    ·go_wp2_with fail
     go_ret;exact ⟨rfl,K1.bb⟩
    have Hsp:=Z9 hsp;have Hmay:=Z9 hmay;clear hsp hmay Hmost;obtain ⟨c0,c1,c2,c3,c4,c5⟩:=K1.cells;go_wp2_with fail;refine ck (Pz (uh Hok) (uh Hwh) hk hcn K1.smy) fun w12 hb=> ?_;replace K1:=K1.next hb;clear hb c0 c1 c2 c3 c4 c5;generalize hmi:YE M (k:Int) cn=mi at *;clear hmi;go_wp2_with fail
    go_loopw [19] (fun i wr=> ∃ j:Nat,j<=M.dk.length/\i= .int .i64 j/\Below w12.heap.size w12 wr) (fun i _=>M.dk.length-(intOf i).toNat)
    case atStart=>exact ⟨0,ZA _,rfl,Z3 _ _⟩
    case round=>
     obtain ⟨j,hj,rfl,hb⟩:=hrel;have K:=K1.next hb;have HW:=Z9 hb;clear hb;obtain ⟨c0,c1,c2,c3,c4,c5⟩:=K.cells;by_cases hlt:j<M.dk.length;rotate_left
     ·obtain rfl:j=M.dk.length:=by omega
      have Hq:=Z9 ((uh HMW cn hcn).trans (uh Hmay));go_wp2_with fail;refine ck (VY (uh Hq) K.smy) fun w13 hb=> ?_;replace K:=K.next hb;clear hb c0 c1 c2 c3 c4 c5;go_wp2_with fail;go_ret;exact ⟨rfl,K.bb⟩
     have hlt1:(j:Int)<(M.dk.length:Int):=by omega
     have Hq:=Z9 (uh HMW j hlt);have Hs2:=Z9 (uh Hsp j hlt);have HL:=Z9 (fun (X:World) (v0 v1 v2 v3 v4:Value) (h:Smy X v0 v1 v2 v3 v4 M)=>Pz (uh Hok) (uh Hwh) hk hlt h);generalize YE M (k:Int) j=sp at *;generalize Zk M (k:Int) j=mw at *;go_wp2_with fail;refine ck (uh HL _ _ _ _ _ _ K.smy) fun w13 hb=> ?_;replace K:=K.next hb;replace HW:=Z9 ((uh HW).trans (hb.mono (uh HW).size));clear hb c0 c1 c2 c3 c4 c5 HL;obtain ⟨c0,c1,c2,c3,c4,c5⟩:=K.cells;go_wp2_with fail;refine ck (VY (uh Hq) K.smy) fun w14 hb=> ?_;replace HW:=Z9 ((uh HW).trans (hb.mono (uh HW).size));clear hb c0 c1 c2 c3 c4 c5
     have hres:mw=false\/(mw=true/\sp<mi)\/(mw=true/\sp=mi/\ ¬ (j:Int)<(cn:Int)):=by
      cases mw
      ·exact .inl rfl
      ·right
       obtain ⟨e1,e2⟩:=uh Hs2 rfl;by_cases e3:sp=mi
       ·exact .inr ⟨rfl,e3,by have:=e2 e3;omega⟩
       ·exact .inl ⟨rfl,by omega⟩
     clear Hs2
     rcases hres with rfl | ⟨rfl,h1⟩ | ⟨rfl,rfl,h2⟩
     ·go_wp2_with fail
      go_roundw
      case rel=>exact ⟨j+1,by omega,by go_num,uh HW⟩
      case measure=>exact ms
     ·have f1:¬ mi<sp:=by omega
      have f2:(sp ==mi)=false:=beq_eq_false_iff_ne.mpr (by omega);go_wp2_with fail;go_roundw
      case rel=>exact ⟨j+1,by omega,by go_num,uh HW⟩
      case measure=>exact ms
     ·have f1:¬ sp<sp:=by omega
      have f2:(sp ==sp)=true:=beq_self_eq_true sp;go_wp2_with fail;go_roundw
      case rel=>exact ⟨j+1,by omega,by go_num,uh HW⟩
      case measure=>exact ms
set_option maxRecDepth 100000
theorem Oa {P:Program} {Q:Exit->Act->World->Prop} {id:Nat} {full:List Oper} {a:Act} {S:World->Prop} (hm:P.follows .mixedOrders=true) (hne:full ≠ []) (hok:RH .any full.dropLast.toArray (full.getLast hne)=true) (hS:S w.drew)
  (h:∀ X,X=w.drew->S X->wpAnyH P .any full.dropLast.toArray (Nb P full.toArray Q full.dropLast.length) S full.dropLast.length (Array.replicate full.dropLast.length false) a X):(Code.region id full.toArray true).wp P Q a w:=ZI hm hne hok hS (fun hs=>h _ rfl hs)
theorem Fo (a0:Option Addr) (len0 cap0:Nat) (z0:List Int) (w:World) (w0:Vt .u8 w a0 len0 cap0 z0) :
  cB 3 #[.slice a0 len0 cap0] w (.bool true):=by
 by_cases hbig:4096<len0
 ·go_enter func3,ntmps3
  go_wp2_with fail;refine (Qz _ _ _ _ hbig).mono ?_;rintro e w' ⟨rfl,rfl⟩;go_wp2_with fail;go_ret;exact ⟨rfl,Z3 _ _⟩
 have Hr:=Z9 (Pa w0 (by omega));clear w0;go_enter func3,ntmps3;go_wp2_with fail;refine (OM _ _ _ _ (by omega)).mono ?_;rintro e w' ⟨rfl,hw'⟩;subst w';go_wp2_with fail;refine (SM _ _ _ _ (uh Hr)).mono ?_;rintro e w1 ⟨M,u0,u1,u2,u3,u4,who,b,rq,rfl,hf,hb⟩;obtain ⟨a0,p0,a1,p1,a2,p2,a3,p3,a4,p4,rfl,rfl,rfl,rfl,rfl,K1⟩:=Bx.put hf.smy (hb);replace Hr:=Z9 (row_later (uh Hr) hb);clear hb;clear hf;go_upto_region 4 with fail;have hb:Below w1.heap.size w1 (w1.alloc (.cells (S6 a0 p0 a1 p1 a2 p2 a3 p3 a4 p4 M) 32)):=ba _ _;replace Hr:=Z9 (row_later (uh Hr) hb);clear hb;generalize w1.alloc (.cells (S6 a0 p0 a1 p1 a2 p2 a3 p3 a4 p4 M) 32)=W1 at *;generalize w1.heap.size=mb at *;clear Hr;obtain ⟨c,Hc⟩:=YV (Zf M who b);obtain ⟨c0,c1,c2,c3,c4,c5⟩:=K1.cells;go_wp2_with fail;clear c0 c1 c2 c3 c4 c5;refine ck (OW (uh Hc) K1.smy) fun w2 hb=> ?_;replace K1:=K1.next hb;clear hb;obtain ⟨c0,c1,c2,c3,c4,c5⟩:=K1.cells;go_wp2_with fail;clear c0 c1 c2 c3 c4 c5;refine ck (Vo (uh Hc) K1.smy) fun w3 hb=> ?_;replace K1:=K1.next hb;clear hb;have hcs:=Lz M who b;rw [uh Hc] at hcs
 rcases hcs with hneg | ⟨hpos,hok,hwh,hop,hcv⟩
 ·subst hneg
  go_wp2_with fail;go_ret;exact ⟨rfl,K1.bb⟩
 obtain ⟨k,rfl,hk,hs⟩:=YK hwh;have hbb:0<=b/\b<(M.dk.length:Int)/\(Z8 M.dk b.toNat).1=true:=by unfold WG Xa at hop;simpa [and_assoc] using hop
 obtain ⟨bn,rfl⟩:=Int.eq_ofNat_of_zero_le hbb.1;have hbn:bn<M.dk.length:=by omega
 have hop2:(Z8 M.dk bn).1=true:=by simpa using hbb.2.2
 have HV:Hid (Sb (Xr (KT M k bn))=c):=Z9 ((As hok hk hs hbn hop2).trans hcv.symm);have hl12:=PQ hok;have hk1:(k:Int)<(M.sm.length:Int):=by omega
 have hb1:(bn:Int)<(M.dk.length:Int):=by omega
 have hneg:¬ c<0:=by omega
 clear hok hwh hop hcv hbb hop2 hs Hc;go_upto_region 9 with fail
 go_cut [7] (fun s wc=> ∃ xb g gc,s= .pointer (some ⟨xb,0,none⟩)/\xb ≠ g/\w3.heap.size<=xb/\w3.heap.size<=g/\Blk wc xb 32 (S6 a0 p0 a1 p1 (some ⟨g,0,none⟩) gc a3 p3 a4 p4 M)/\SmithsAt w3.heap.size wc (.slice (some ⟨g,0,none⟩) M.sm.length gc) M.sm/\Below w3.heap.size w3 wc)
 case first=>
  obtain ⟨c0,c1,c2,c3,c4,c5⟩:=K1.cells;go_wp2_with fail;refine Oa (S:=fun w'=>w'.cell? ⟨mb,0,none⟩=some (.slice a0 M.rm.length p0)/\w'.cell? ⟨mb,1,none⟩=some (.slice a1 M.gd.length p1)/\w'.cell? ⟨mb,2,none⟩=some (.slice a2 M.sm.length p2)/\w'.cell? ⟨mb,3,none⟩=some (.slice a3 M.dk.length p3)/\w'.cell? ⟨mb,4,none⟩=some (.slice a4 M.pc.length p4)/\w'.cell? ⟨mb,5,none⟩=some (.int .i64 M.now)) (by kernel_rfl) (Wz _ _) (by kernel_rfl) ⟨c0,c1,c2,c3,c4,c5⟩ (fun X0 hX0 hHeld=> ?_);simp only [WA,WB,YL,YF,Nat.zero_add,Nat.reduceAdd];clear c0 c1 c2 c3 c4 c5
  iterate 4 refine tz ?_
  refine tp 5 ?_;refine tp 6 ?_;refine tp 8 ?_;refine tp 9 ?_;refine tp 10 ?_;refine tp 11 ?_;refine tp 12 ?_;refine tp 13 ?_;have hx3:X0.heap.size=w3.heap.size:=by rw [hX0];rfl
  obtain ⟨n0,hn0⟩:∃ n,n=X0.heap.size:=⟨_,rfl⟩
  have hn3:n0=w3.heap.size:=by omega
  have HD:Hid (Below w3.heap.size w3 X0):=Z9 (by rw [hX0];exact (Z3 _ _).drew);have K0:Bx w X0 mb a0 p0 a1 p1 a2 p2 a3 p3 a4 p4 M:=by rw [hX0];exact K1.drew
  have HK:=Z9 (fun (Y:World) (h:Below n0 X0 Y)=>K0.next (X:=Y) (by rw [<-hn0];exact h));have HG:Hid (∀ Y,Below n0 X0 Y->n0<=Y.heap.size):=Z9 (fun Y h=>by have:=h.size;omega);have HB:Hid (Below n0 X0 X0):=Z9 (Z3 _ _);clear K0 hn0 hX0 hx3;refine wpAnyH_ready (rs:=[4,15]) (by kernel_rfl) (by simp) ?_;refine AllReadyH.cons rfl (fun K hK=> ?_) (AllReadyH.cons rfl (fun K hK=> ?_) AllReadyH.nil)
  ·
   go_simp;have hsz:=uh HG _ (uh HB);have HE:Hid (SmithsAt n0 (X0.alloc (.cells #[] 38)) (.slice (some ⟨X0.heap.size,0,none⟩) 0 0) []):=Z9 (Zq rfl hsz);replace HB:=Z9 ((uh HB).alloc hsz (.cells #[] 38));generalize X0.alloc (.cells #[] 38)=WL at *;generalize X0.heap.size=lb at *;refine hK.out _ _ (uh HK _ (uh HB)).cells (fun hHeld=> ?_);clear hK K
   (try simp only [Act.put,sA,sZ,sS])
   refine wpAnyH_ready (rs:=[7,15]) (by kernel_rfl) (by simp) ?_;refine AllReadyH.cons rfl (fun K hK=> ?_) (AllReadyH.cons rfl (fun K hK=> ?_) AllReadyH.nil)
   ·
    have hsw:=uh HG _ (uh HB);obtain ⟨v9,w9,hrun,hown,hg9,hat⟩:=XW tyS (w:=WL) (t:=28) (ty:=28) (base:=n0) underlying28 (uh HE) (uh HK _ (uh HB)).smy.sm (by simp only [YF];omega) hsw;rw [List.nil_append] at hown;refine XY rfl (.tmp 35) (.tmp 37) 28 rfl rfl rfl hrun ?_;replace HB:=Z9 ((uh HB).grown hg9 hsw (fun i e=>(RecAt.lt (uh HE) e).1));obtain ⟨ga,gc,rfl⟩:=RecAt.shape hown;obtain ⟨g,rfl,hg1,hg2,_,_⟩:=RecAt.view ZT (by omega) hown rfl (by omega);have HP:=Z9 hown;clear hrun hg9 hown;refine hK.out _ _ (uh HK _ (uh HB)).cells (fun hHeld=> ?_);clear hK K
    (try simp only [Act.put,sA,sZ,sS])
    refine tp 14 ?_;refine rd 15 rfl (fun K hK=> ?_);go_simp;have KX:Hid (Blk (w9.alloc (.cells E6 32)) w9.heap.size 32 E6):=Z9 (Blk.new _ _ _);have hxb:=uh HG _ (uh HB);have hgl:=RecAt.lt (uh HP) rfl;have hxg:w9.heap.size ≠ g:=by omega
    replace HP:=Z9 (RecAt.later (uh HP) ((Z3 _ _).alloc (Z0 _) (.cells E6 32)));replace HB:=Z9 ((uh HB).alloc hxb (.cells E6 32));generalize w9.alloc (.cells E6 32)=WX at *;generalize w9.heap.size=xb at *;refine hK.out _ _ (uh HK _ (uh HB)).cells (fun hHeld=> ?_);clear hK K
    (try simp only [Act.put,sA,sZ,sS])
    refine wpAnyH_done (by kernel_rfl) ?_ _;refine ZK rfl rfl ?_;obtain ⟨o0,o1,o2,o3,o4,o5⟩:=(uh KX).c6;obtain ⟨t0,t1,t2,t3,t4,t5⟩:=(uh KX).f6;go_simp;clear hHeld;go_wp2_with fail;go_meet;exact ⟨xb,g,gc,rfl,hxg,by omega,by omega,(uh KX).put6 _ _ _ _ _ _,RecAt.off6 _ _ _ _ _ _ (RecAt.mono (uh HP) (by omega)) (fun i e=>by cases e;exact Ne.symm hxg),Below.put6 _ _ _ _ _ _ ((uh HD).trans ((uh HB).mono (by omega))) (by omega)⟩
   ·
    go_simp;have KX:Hid (Blk (WL.alloc (.cells E6 32)) WL.heap.size 32 E6):=Z9 (Blk.new _ _ _);have hxb:=uh HG _ (uh HB);have hel:n0<=lb/\lb<WL.heap.size:=RecAt.lt (uh HE) rfl;replace HE:=Z9 (RecAt.later (uh HE) ((Z3 _ _).alloc (Z0 _) (.cells E6 32)));replace HB:=Z9 ((uh HB).alloc hxb (.cells E6 32));generalize WL.alloc (.cells E6 32)=WX at *;generalize WL.heap.size=xb at *;refine hK.out _ _ (uh HK _ (uh HB)).cells (fun hHeld=> ?_);clear hK K
    (try simp only [Act.put,sA,sZ,sS])
    refine rd 7 rfl (fun K hK=> ?_);have hsw:=uh HG _ (uh HB);obtain ⟨v9,w9,hrun,hown,hg9,hat⟩:=XW tyS (w:=WX) (t:=28) (ty:=28) (base:=n0) underlying28 (uh HE) (uh HK _ (uh HB)).smy.sm (by simp only [YF];omega) hsw;rw [List.nil_append] at hown;refine XY rfl (.tmp 35) (.tmp 37) 28 rfl rfl rfl hrun ?_;replace HB:=Z9 ((uh HB).grown hg9 hsw (fun i e=>(RecAt.lt (uh HE) e).1));have hxl:=(uh KX).lt;have hxne:xb ≠ lb:=by omega
    replace KX:=Z9 ((uh KX).same (hg9.block _ (uh KX).lt (fun e=>by cases e;exact hxne rfl)))
    have hxg2:∀ i,v9.ownBlock=some i->xb ≠ i:=fun i e=>by
     rcases hat with h | h
     ·rw [h] at e;cases e;exact hxne
     ·rw [h] at e;cases e;omega
    obtain ⟨ga,gc,rfl⟩:=RecAt.shape hown;obtain ⟨g,rfl,hg1,hg2,_,_⟩:=RecAt.view ZT (by omega) hown rfl (by omega);have HP:=Z9 hown;clear hrun hg9 hown;refine hK.out _ _ (uh HK _ (uh HB)).cells (fun hHeld=> ?_);clear hK K
    (try simp only [Act.put,sA,sZ,sS])
    have hxg:xb ≠ g:=hxg2 g rfl;clear hxg2;refine tp 14 ?_;refine wpAnyH_done (by kernel_rfl) ?_ _;refine ZK rfl rfl ?_;obtain ⟨o0,o1,o2,o3,o4,o5⟩:=(uh KX).c6;obtain ⟨t0,t1,t2,t3,t4,t5⟩:=(uh KX).f6;go_simp;clear hHeld;go_wp2_with fail;go_meet;exact ⟨xb,g,gc,rfl,hxg,by omega,by omega,(uh KX).put6 _ _ _ _ _ _,RecAt.off6 _ _ _ _ _ _ (RecAt.mono (uh HP) (by omega)) (fun i e=>by cases e;exact Ne.symm hxg),Below.put6 _ _ _ _ _ _ ((uh HD).trans ((uh HB).mono (by omega))) (by omega)⟩
  ·
   go_simp;have KX:Hid (Blk (X0.alloc (.cells E6 32)) X0.heap.size 32 E6):=Z9 (Blk.new _ _ _);have hxb:=uh HG _ (uh HB);replace HB:=Z9 ((uh HB).alloc hxb (.cells E6 32));generalize X0.alloc (.cells E6 32)=WX at *;generalize X0.heap.size=xb at *;refine hK.out _ _ (uh HK _ (uh HB)).cells (fun hHeld=> ?_);clear hK K
   (try simp only [Act.put,sA,sZ,sS])
   refine rd 4 rfl (fun K hK=> ?_);go_simp;have hsz:=uh HG _ (uh HB);have HE:Hid (SmithsAt n0 (WX.alloc (.cells #[] 38)) (.slice (some ⟨WX.heap.size,0,none⟩) 0 0) []):=Z9 (Zq rfl hsz);have hxlb:=(uh KX).lt;replace KX:=Z9 ((uh KX).alloc (.cells #[] 38));replace HB:=Z9 ((uh HB).alloc hsz (.cells #[] 38));generalize WX.alloc (.cells #[] 38)=WL at *;generalize WX.heap.size=lb at *;refine hK.out _ _ (uh HK _ (uh HB)).cells (fun hHeld=> ?_);clear hK K
   (try simp only [Act.put,sA,sZ,sS])
   refine rd 7 rfl (fun K hK=> ?_);have hsw:=uh HG _ (uh HB);obtain ⟨v9,w9,hrun,hown,hg9,hat⟩:=XW tyS (w:=WL) (t:=28) (ty:=28) (base:=n0) underlying28 (uh HE) (uh HK _ (uh HB)).smy.sm (by simp only [YF];omega) hsw;rw [List.nil_append] at hown;refine XY rfl (.tmp 35) (.tmp 37) 28 rfl rfl rfl hrun ?_;replace HB:=Z9 ((uh HB).grown hg9 hsw (fun i e=>(RecAt.lt (uh HE) e).1));have hxl:=(uh KX).lt;have hxne:xb ≠ lb:=by omega
   replace KX:=Z9 ((uh KX).same (hg9.block _ (uh KX).lt (fun e=>by cases e;exact hxne rfl)))
   have hxg2:∀ i,v9.ownBlock=some i->xb ≠ i:=fun i e=>by
    rcases hat with h | h
    ·rw [h] at e;cases e;exact hxne
    ·rw [h] at e;cases e;omega
   obtain ⟨ga,gc,rfl⟩:=RecAt.shape hown;obtain ⟨g,rfl,hg1,hg2,_,_⟩:=RecAt.view ZT (by omega) hown rfl (by omega);have HP:=Z9 hown;clear hrun hg9 hown;refine hK.out _ _ (uh HK _ (uh HB)).cells (fun hHeld=> ?_);clear hK K
   (try simp only [Act.put,sA,sZ,sS])
   have hxg:xb ≠ g:=hxg2 g rfl;clear hxg2;refine tp 14 ?_;refine wpAnyH_done (by kernel_rfl) ?_ _;refine ZK rfl rfl ?_;obtain ⟨o0,o1,o2,o3,o4,o5⟩:=(uh KX).c6;obtain ⟨t0,t1,t2,t3,t4,t5⟩:=(uh KX).f6;go_simp;clear hHeld;go_wp2_with fail;go_meet;exact ⟨xb,g,gc,rfl,hxg,by omega,by omega,(uh KX).put6 _ _ _ _ _ _,RecAt.off6 _ _ _ _ _ _ (RecAt.mono (uh HP) (by omega)) (fun i e=>by cases e;exact Ne.symm hxg),Below.put6 _ _ _ _ _ _ ((uh HD).trans ((uh HB).mono (by omega))) (by omega)⟩
 case rest=>
  obtain ⟨xb,g,gc,rfl,hxg,hxl,hgl,kx,hsm,hb⟩:=hcut;obtain ⟨w4,rfl⟩:∃ x,x=wc:=⟨wc,rfl⟩
  have K4:=K1.next hb;have KX:=Z9 kx;have HS:=Z9 hsm;obtain ⟨_,hge,_,hg2,hcl,hfr⟩:=RecAt.view ZT (by omega) (uh HS) rfl (by omega);cases hge;have s0:=hcl k hk 0 _ rfl;have s1:=hcl k hk 1 _ rfl;have s3:=hcl k hk 3 _ rfl;have s7:=hcl k hk 7 _ rfl;have f0:=hfr (k*11);have f1:=hfr (k*11+1);have f3:=hfr (k*11+3);have f7:=hfr (k*11+7);simp only [Nat.add_zero] at s0;clear hcl hfr kx hsm;obtain ⟨_,_,hde,_,_,r3⟩:=K1.smy.dk;cases hde
  rcases r3 with e0 | ⟨db,dof,rfl,hbw,hcd⟩
  ·rw [e0] at hbn;simp at hbn
  have hbw4:db<w4.heap.size:=Y0 hbw hb.size;have hdg:db ≠ g:=by omega
  obtain ⟨_,_,hde,_,_,r3⟩:=K4.smy.dk;cases hde
  rcases r3 with e0 | ⟨_,_,he,_,hcd4⟩
  ·rw [e0] at hbn;simp at hbn
  cases he;obtain ⟨d0,d1,d2⟩:=Zh hcd4 hbn;clear hcd hcd4;have hmg:mb ≠ g:=by have:=K1.blk.lt;omega
  have hgm:g ≠ mb:=Ne.symm hmg;have hgx:g ≠ xb:=Ne.symm hxg;have H0:Hid (SmithsAt w3.heap.size w4 (.slice (some ⟨g,0,none⟩) M.sm.length gc) (M.sm.set k (Z8 M.sm k))):=Z9 (by rw [MM hk];exact uh HS);have H1:=Z9 ((uh H0).put rfl hk (i:=0) (by omega) (.int .i64 2) (2,(Z8 M.sm k).2) rfl);have H2:=Z9 ((uh H1).put rfl hk (i:=1) (by omega) (.int .i64 (bn:Int)) (2,(bn:Int),(Z8 M.sm k).2.2) rfl);have H3:=Z9 ((uh H2).put rfl hk (i:=3) (by omega) (.int .i64 255) (2,(bn:Int),(Z8 M.sm k).2.2.1,255,(Z8 M.sm k).2.2.2.2) rfl);have H4:=Z9 ((uh H3).put rfl hk (i:=7) (by omega) (.int .i64 (Z8 M.dk bn).2.2) (yz M k bn) rfl);simp only [Nat.add_zero] at H1 H2 H3 H4
  have HB4:Hid (Below w3.heap.size w3 ((((w4.setCell ⟨g,k*11,none⟩ (.int .i64 2)).setCell ⟨g,k*11+1,none⟩ (.int .i64 (bn:Int))).setCell ⟨g,k*11+3,none⟩ (.int .i64 255)).setCell ⟨g,k*11+7,none⟩ (.int .i64 (Z8 M.dk bn).2.2))):=Z9 (by
   iterate 4 (refine Yv ?_ hgl _)
   exact hb)
  have KY:Hid (Blk ((((w4.setCell ⟨g,k*11,none⟩ (.int .i64 2)).setCell ⟨g,k*11+1,none⟩ (.int .i64 (bn:Int))).setCell ⟨g,k*11+3,none⟩ (.int .i64 255)).setCell ⟨g,k*11+7,none⟩ (.int .i64 (Z8 M.dk bn).2.2)) xb 32 #[.slice a0 M.rm.length p0,.slice a1 M.gd.length p1,.slice (some ⟨g,0,none⟩) M.sm.length gc,.slice (some ⟨db,dof,none⟩) M.dk.length p3,.slice a4 M.pc.length p4,.int .i64 M.now]):=Z9 ((((uh KX).other (a:=⟨g,k*11,none⟩) hxg _).other (a:=⟨g,k*11+1,none⟩) hxg _).other (a:=⟨g,k*11+3,none⟩) hxg _ |>.other (a:=⟨g,k*11+7,none⟩) hxg _);have HM:=Z9 (K1.smy.other (uh HB4) (uh H4));clear H0 H1 H2 H3 H4 hb HS;generalize hmk:(Z8 M.dk bn).2.2=mk at *;clear hmk;have c3:=K4.blk.cell (i:=3) (v:= .slice (some ⟨db,dof,none⟩) M.dk.length p3) rfl;have x2:=(uh KX).cell (i:=2) (v:= .slice (some ⟨g,0,none⟩) M.sm.length gc) rfl;go_upto_region 15 with fail;generalize (((w4.setCell ⟨g,k*11,none⟩ (.int .i64 2)).setCell ⟨g,k*11+1,none⟩ (.int .i64 (bn:Int))).setCell ⟨g,k*11+3,none⟩ (.int .i64 255)).setCell ⟨g,k*11+7,none⟩ (.int .i64 mk)=W5 at *;clear s0 s1 s3 s7 f0 f1 f3 f7 d0 d1 d2 c3 x2 KX K4;obtain ⟨y0,y1,y2,y3,y4,y5⟩:=(uh KY).c6;go_wp2_with fail;refine (M8 _ _ _ _ _ _ (KT M k bn) (uh HM)).mono ?_;rintro e w6 ⟨z0,z1,z2,z3,z4,rs,rfl,hf,hb⟩;replace HB4:=Z9 ((uh HB4).trans (hb.mono (uh HB4).size));obtain ⟨d0,t0,d1,t1,d2,t2,d3,t3,d4,t4,rfl,rfl,rfl,rfl,rfl,_⟩:=hf.smy.five;have HT:=Z9 hf.smy;clear hf hb y0 y1 y2 y3 y4 y5 KY HM;generalize Xr (KT M k bn)=TM at *;go_wp2_with fail;refine ck (MS (uh HV) (uh HT)) fun w7 hb=> ?_;replace HB4:=Z9 ((uh HB4).trans (hb.mono (uh HB4).size));clear hb;go_wp2_with fail;go_ret;exact ⟨by simp,K1.bb.trans ((uh HB4).mono K1.bb.size)⟩
set_option maxRecDepth 100000
theorem Lj (a0:Option Addr) (len0 cap0:Nat) (z0:List Int) (w:World) (w0:Vt .u8 w a0 len0 cap0 z0) :
  cB 4 #[.slice a0 len0 cap0] w (.bool true):=by
 by_cases hbig:4096<len0
 ·go_enter func4,ntmps4
  go_wp2_with fail;refine (Qz _ _ _ _ hbig).mono ?_;rintro e w' ⟨rfl,rfl⟩;go_wp2_with fail;go_ret;exact ⟨rfl,Z3 _ _⟩
 have Hr:=Z9 (Pa w0 (by omega));clear w0;go_enter func4,ntmps4;go_wp2_with fail;refine (OM _ _ _ _ (by omega)).mono ?_;rintro e w' ⟨rfl,hw'⟩;subst w';go_wp2_with fail;refine (NI _ _ _ _ (uh Hr)).mono ?_;rintro e w1 ⟨M,u0,u1,u2,u3,u4,who,rq,rfl,hf,hb⟩;obtain ⟨a0,p0,a1,p1,a2,p2,a3,p3,a4,p4,rfl,rfl,rfl,rfl,rfl,K1⟩:=Bx.put hf.smy (hb);replace Hr:=Z9 (row_later (uh Hr) hb);clear hb;clear hf;go_upto_region 4 with fail;have hb:Below w1.heap.size w1 (w1.alloc (.cells (S6 a0 p0 a1 p1 a2 p2 a3 p3 a4 p4 M) 32)):=ba _ _;replace Hr:=Z9 (row_later (uh Hr) hb);clear hb;generalize w1.alloc (.cells (S6 a0 p0 a1 p1 a2 p2 a3 p3 a4 p4 M) 32)=W1 at *;generalize w1.heap.size=mb at *;obtain ⟨fs,Hfs⟩:=YV (Zi M who);obtain ⟨c0,c1,c2,c3,c4,c5⟩:=K1.cells;go_wp2_with fail;clear c0 c1 c2 c3 c4 c5;refine (NP (uh Hfs) K1.smy).mono ?_;rintro e w2 ⟨v9,rfl,hn,hb⟩;obtain ⟨fa,fc,rfl⟩:=RecAt.shape hn;have HF:=Z9 hn;clear hn;replace K1:=K1.next hb;replace Hr:=Z9 (row_later (uh Hr) hb);clear hb;go_wp2_with fail;refine (NJ _ _ _ _ (uh Hr)).mono ?_;rintro e w3 ⟨Q,u0,u1,u2,u3,u4,qw,qb,rq2,rfl,hf,hb⟩;obtain ⟨d0,t0,d1,t1,d2,t2,d3,t3,d4,t4,rfl,rfl,rfl,rfl,rfl,K2⟩:=Bx.put hf.smy (K1.bb.trans (hb.mono K1.bb.size));replace HF:=Z9 (RecAt.later (uh HF) hb);replace K1:=K1.next hb;replace Hr:=Z9 (row_later (uh Hr) hb);clear hb;clear hf;go_upto_region 6 with fail;have hb:Below w3.heap.size w3 (w3.alloc (.cells (S6 d0 t0 d1 t1 d2 t2 d3 t3 d4 t4 Q) 32)):=ba _ _;replace HF:=Z9 (RecAt.later (uh HF) hb);replace K1:=K1.next hb;replace Hr:=Z9 (row_later (uh Hr) hb);clear hb;generalize w3.alloc (.cells (S6 d0 t0 d1 t1 d2 t2 d3 t3 d4 t4 Q) 32)=W3 at *;generalize w3.heap.size=rb at *;clear Hr;obtain ⟨mq,Hmq⟩:=YV (XJ Q qw qb);have HB:=Z9 (Z3 W3.heap.size W3);go_upto_region 6 with fail
 go_cut [50] (fun s wc=>s= .bool false/\Below W3.heap.size W3 wc)
 case first=>
  obtain ⟨c0,c1,c2,c3,c4,c5⟩:=K1.cells;obtain ⟨x0,x1,x2,x3,x4,x5⟩:=K2.cells;go_wp2_with fail;refine wp_region_held_drew (S:=fun w'=>(w'.cell? ⟨mb,0,none⟩=some (.slice a0 M.rm.length p0)/\w'.cell? ⟨mb,1,none⟩=some (.slice a1 M.gd.length p1)/\w'.cell? ⟨mb,2,none⟩=some (.slice a2 M.sm.length p2)/\w'.cell? ⟨mb,3,none⟩=some (.slice a3 M.dk.length p3)/\w'.cell? ⟨mb,4,none⟩=some (.slice a4 M.pc.length p4)/\w'.cell? ⟨mb,5,none⟩=some (.int .i64 M.now))/\w'.cell? ⟨rb,0,none⟩=some (.slice d0 Q.rm.length t0)/\w'.cell? ⟨rb,1,none⟩=some (.slice d1 Q.gd.length t1)/\w'.cell? ⟨rb,2,none⟩=some (.slice d2 Q.sm.length t2)/\w'.cell? ⟨rb,3,none⟩=some (.slice d3 Q.dk.length t3)/\w'.cell? ⟨rb,4,none⟩=some (.slice d4 Q.pc.length t4)/\w'.cell? ⟨rb,5,none⟩=some (.int .i64 Q.now)) (by kernel_rfl) ⟨⟨c0,c1,c2,c3,c4,c5⟩,x0,x1,x2,x3,x4,x5⟩ (fun hHeld=> ?_);simp only [List.size_toArray,YL,YF,Nat.zero_add,Nat.reduceAdd];clear c0 c1 c2 c3 c4 c5 x0 x1 x2 x3 x4 x5
  iterate 3 refine tz ?_
  have hb:Below W3.heap.size W3 W3.drew:=(Z3 _ _).drew;replace HF:=Z9 (RecAt.later (uh HF) hb);replace K1:=K1.next hb;replace K2:=K2.next hb;replace HB:=Z9 ((uh HB).trans (hb.mono (uh HB).size));clear hb;refine rd 3 rfl (fun K hK=> ?_);go_simp;refine (RU (uh Hfs) K1.smy).mono ?_;rintro e9 w4 ⟨v9,rfl,hn,hb⟩;obtain ⟨za,zc,rfl⟩:=RecAt.shape hn;have HZ:=Z9 hn;clear hn;replace HF:=Z9 (RecAt.later (uh HF) hb);replace K1:=K1.next hb;replace K2:=K2.next hb;replace HB:=Z9 ((uh HB).trans (hb.mono (uh HB).size));clear hb;refine hK.out _ _ ⟨K1.cells,K2.cells⟩ (fun hHeld=> ?_);clear hK K
  (try simp only [Act.put,sA,sZ,sS])
  refine rd 4 rfl (fun K hK=> ?_);go_simp;refine ck (PC (RecAt.recs Ze (by omega) (uh HF)) (RecAt.recs Ze (by omega) (uh HZ))) fun w5 hb=> ?_;clear HZ;replace HF:=Z9 (RecAt.later (uh HF) hb);replace K1:=K1.next hb;replace K2:=K2.next hb;replace HB:=Z9 ((uh HB).trans (hb.mono (uh HB).size));clear hb;refine hK.out _ _ ⟨K1.cells,K2.cells⟩ (fun hHeld=> ?_);clear hK K
  (try simp only [Act.put,sA,sZ,sS])
  refine tp 5 ?_;refine tp 6 ?_;refine tp 7 ?_;refine tp 8 ?_;refine tp 9 ?_;refine tp 11 ?_;refine tp 12 ?_;refine tp 13 ?_;refine rd 10 rfl (fun K hK=> ?_);go_simp;refine ck (UK (uh Hmq) K2.smy) fun w6 hb=> ?_;replace HF:=Z9 (RecAt.later (uh HF) hb);replace K1:=K1.next hb;replace K2:=K2.next hb;replace HB:=Z9 ((uh HB).trans (hb.mono (uh HB).size));clear hb;refine hK.out _ _ ⟨K1.cells,K2.cells⟩ (fun hHeld=> ?_);clear hK K
  (try simp only [Act.put,sA,sZ,sS])
  refine rd 14 rfl (fun K hK=> ?_);go_simp;refine ck (VY (uh Hmq) K2.smy) fun w7 hb=> ?_;replace HF:=Z9 (RecAt.later (uh HF) hb);replace K1:=K1.next hb;replace K2:=K2.next hb;replace HB:=Z9 ((uh HB).trans (hb.mono (uh HB).size));clear hb;refine hK.out _ _ ⟨K1.cells,K2.cells⟩ (fun hHeld=> ?_);clear hK K
  (try simp only [Act.put,sA,sZ,sS])
  have hpp:(mq !=mq)=false:=bne_self_eq_false mq;refine tp 15 ?_;refine tp 16 ?_;refine tp 17 ?_;refine tp 18 ?_;refine rd 19 rfl (fun K hK=> ?_);go_simp;refine ck (Cq (NumsAt.ints (uh HF)) (AV (zs:=fs) (by rw [<-uh Hfs];exact zi M who))) fun w8 hst=> ?_;have hb:=hst.below w7.heap.size;clear hst;replace HF:=Z9 (RecAt.later (uh HF) hb);replace K1:=K1.next hb;replace K2:=K2.next hb;replace HB:=Z9 ((uh HB).trans (hb.mono (uh HB).size));clear hb;refine hK.out _ _ ⟨K1.cells,K2.cells⟩ (fun hHeld=> ?_);clear hK K
  (try simp only [Act.put,sA,sZ,sS])
  refine rd 20 rfl (fun K hK=> ?_);go_simp;refine hK.out _ _ ⟨K1.cells,K2.cells⟩ (fun hHeld=> ?_);clear hK K
  (try simp only [Act.put,sA,sZ,sS])
  refine rd 21 rfl (fun K hK=> ?_);go_simp;refine hK.out _ _ ⟨K1.cells,K2.cells⟩ (fun hHeld=> ?_);clear hK K
  (try simp only [Act.put,sA,sZ,sS])
  refine wpAnyH_done (by kernel_rfl) ?_ _;clear hHeld hpp;go_wp2_with fail;go_meet;exact ⟨by first | rfl | simp,uh HB⟩
 case rest=>
  obtain ⟨rfl,hb⟩:=hcut;obtain ⟨w8,rfl⟩:∃ x,x=wc:=⟨wc,rfl⟩
  clear HB K2 Hmq;replace HF:=Z9 (RecAt.later (uh HF) hb);replace K1:=K1.next hb;clear hb;obtain ⟨wv,Hw⟩:=YV (YM M who);obtain ⟨c0,c1,c2,c3,c4,c5⟩:=K1.cells;go_wp2_with fail;clear c0 c1 c2 c3 c4 c5;refine ck (Uh (uh Hw) K1.smy) fun w9 hb=> ?_;replace HF:=Z9 (RecAt.later (uh HF) hb);replace K1:=K1.next hb;clear hb
  rcases Nj (uh Hw) with hneg | ⟨hw0,hok,hwh⟩
  ·subst hneg
   obtain rfl:fs=[]:=by rw [<-uh Hfs];exact Aa (uh Hw)
   go_wp2_with fail;go_ret;exact ⟨rfl,K1.bb⟩
  obtain ⟨k,rfl,hk,hs⟩:=YK hwh;have hk1:(k:Int)<(M.sm.length:Int):=by omega
  have hneg:¬ wv<0:=by omega
  have hwq:wv=ZC M (k:Int):=by rw [<-uh Hw];unfold YM;rw [hok,hwh];rfl
  have HLo:=Z9 (ZU hok);have h8:=(uh HLo).sane.eight;have hl12:=PQ hok;have HT:Hid (∀ b:Nat,b<M.dk.length->decide ((b:Int) ∈ fs)=(XJ M (k:Int) (b:Int) && WW wv (Zx M (b:Int) (-1)-Ru M k (b:Int)) (Zo M.rm (b:Int)))):=Z9 (fun b hb=>by rw [<-uh Hfs,hwq];exact zh hok hwh hk hb);have HU:Hid (∀ b:Nat,b<M.dk.length->Ve M (b:Int)=Zx M (b:Int) (-1)):=Z9 (fun b hb=>by unfold Ve Y1;rw [hok,Zn (by omega) (by omega)];rfl);have HO:Hid (∀ b:Int,Ru M k b=if (Z8 M.sm k).2.1=b/\ZL (Z8 M.sm k)=true then wv else 0):=Z9 (fun b=>by rw [hwq];rfl);have hwbd:=Wr M (k:Int);rw [<-hwq] at hwbd;clear hwh hok hs Hw hwq Hfs HLo;obtain ⟨c0,c1,c2,c3,c4,c5⟩:=K1.cells;go_wp2_with fail;clear c0 c1 c2 c3 c4 c5
  go_loopw [10] (fun i wr=> ∃ j:Nat,j<=M.dk.length/\i= .int .i64 j/\Below w9.heap.size w9 wr) (fun i _=>M.dk.length-(intOf i).toNat)
  case atStart=>exact ⟨0,ZA _,rfl,Z3 _ _⟩
  case round=>
   obtain ⟨j,hj,rfl,hb⟩:=hrel;have K:=K1.next hb;have HG:=Z9 (RecAt.later (uh HF) hb);have HW:=Z9 hb;clear hb;by_cases hlt:j<M.dk.length;rotate_left
   ·obtain ⟨c0,c1,c2,c3,c4,c5⟩:=K.cells
    obtain rfl:j=M.dk.length:=by omega
    go_wp2_with fail;go_ret;exact ⟨rfl,K.bb⟩
   have hlt1:(j:Int)<(M.dk.length:Int):=by omega
   have Ht:=Z9 (uh HT j hlt);have Hu:=Z9 (uh HU j hlt);have hub:=U4 M (j:Int) (-1);have hfo:=uh HO (j:Int);have hfc:=Z9 (fun (X:World) (h:IsRooms X (.slice a0 M.rm.length p0) M.rm)=>UN (j:Int) h);obtain ⟨mw,hmw⟩:=ZJ (XJ M (k:Int) (j:Int));have Hmw:=Z9 hmw;rw [hmw] at Ht;generalize Zo M.rm (j:Int)=fo at *;generalize Zx M (j:Int) (-1)=us at *;generalize Ru M k (j:Int)=ow at *;obtain ⟨c0,c1,c2,c3,c4,c5⟩:=K.cells;go_wp2_with fail;refine ck (Wn (uh Hu) K.smy) fun w10 hb=> ?_;replace K:=K.next hb;replace HG:=Z9 (RecAt.later (uh HG) hb);replace HW:=Z9 ((uh HW).trans (hb.mono (uh HW).size));clear hb c0 c1 c2 c3 c4 c5 Hu hmw;obtain ⟨_,_,hse,_,_,r2⟩:=K.smy.sm;cases hse
   rcases r2 with e0 | ⟨sb,off,rfl,hbw,hcl⟩
   ·rw [e0] at hk;simp at hk
   obtain ⟨d0,d1,d2,d3,d4,d5,d6,d7,d8,d9,d10⟩:=Zu hcl hk;have c2:=K.blk.cell (i:=2) (v:= .slice (some ⟨sb,off,none⟩) M.sm.length p2) rfl;clear hcl;generalize Z8 M.sm k=ss at *;obtain ⟨pr,hpr⟩:=ZJ (ZL ss);obtain ⟨st,be,rk,my,gu,lo,hi,hd,ca,ut,wk⟩:=ss;rw [hpr] at hfo;have Hpr:=Z9 hpr;clear hpr;simp only at d0 d1 d2 d3 d4 d5 d6 d7 d8 d9 d10 hfo;have hbw2:sb<w10.heap.size+1:=by omega
   have hsne:sb ≠ w10.heap.size:=VH hbw;go_upto_region 16 with fail;obtain ⟨W,hW,hb,ks⟩:=Zc w10 38 (I11 st be rk my gu lo hi hd ca ut wk);rw [hW];clear hW d0 d1 d2 d3 d4 d5 d6 d7 d8 d9 d10 c2;replace K:=K.next hb;replace HG:=Z9 (RecAt.later (uh HG) hb);replace HW:=Z9 ((uh HW).trans (hb.mono (uh HW).size));clear hb;have HB:=Z9 (Z3 W.heap.size W)
   go_cut [81] (fun c wc=>c= .bool (pr && decide (be=(j:Int)))/\Below W.heap.size W wc)
   case first=>
    obtain ⟨s0,s1,s2,s3,s4,s5,s6,s7,s8,s9,s10⟩:=(uh ks).c11;go_wp2_with fail;refine ck (Kf (uh Hpr) _) fun w11 hb=> ?_;replace ks:=bl ks hb;replace HB:=bt HB hb;clear hb s0 s1 s2 s3 s4 s5 s6 s7 s8 s9 s10;have s1:=(uh ks).cell (i:=1) (v:= .int .i64 be) rfl;cases pr
    ·go_wp2_with fail
     go_meet;exact ⟨rfl,uh HB⟩
    by_cases hbe:be=(j:Int)
    ·subst hbe
     go_wp2_with fail;go_meet;exact ⟨by simp,uh HB⟩
    ·have hbb:(be ==(j:Int))=false:=by simpa using hbe
     go_wp2_with fail;go_meet;exact ⟨by simp [hbe],uh HB⟩
   case rest=>
    obtain ⟨rfl,hb⟩:=hcut;obtain ⟨w11,rfl⟩:∃ x,x=wc:=⟨wc,rfl⟩
    replace K:=K.next hb;replace HG:=Z9 (RecAt.later (uh HG) hb);replace HW:=Z9 ((uh HW).trans (hb.mono (uh HW).size));clear hb HB ks Hpr;obtain ⟨un,hun⟩:=ZJ (us-ow);rw [hun] at Ht
    have hkey:((pr && decide (be=(j:Int)))=false/\us=un)\/((pr && decide (be=(j:Int)))=true/\us-wv=un):=by
     cases hcc:(pr && decide (be=(j:Int)))
     ·left
      rw [if_neg (by rintro ⟨e1,e2⟩;rw [e2,e1] at hcc;simp at hcc)] at hfo;exact ⟨rfl,by omega⟩
     ·right
      rw [ZO,decide_eq_true_iff] at hcc;rw [if_pos ⟨hcc.2,hcc.1⟩] at hfo;exact ⟨rfl,by omega⟩
    obtain ⟨hs,hhs⟩:=ZJ (decide ((j:Int) ∈ fs));rw [hhs] at Ht;have HH:=Z9 (fun (X:World) (h:NumsAt W1.heap.size X (.slice fa fs.length fc) fs)=>Calls.bool_of (Calls.same_below' (Dm (j:Int) (NumsAt.ints h))) hhs);obtain ⟨ft,hft⟩:=ZJ (WW wv un fo);have HT2:=Z9 (fun X=>Calls.bool_of (Calls.same_below' (VC wv un fo X)) hft);rw [hft] at Ht;have Hun:=Z9 hun;clear hhs hft hun hfo;generalize (pr && decide (be=(j:Int)))=bq at *;obtain ⟨c0,c1,c2,c3,c4,c5⟩:=K.cells;have k0:=ZX c0;have k1:=ZX c1;have k2:=ZX c2;have k3:=ZX c3;have k4:=ZX c4;have k5:=ZX c5
    rcases hkey with ⟨rfl,hu9⟩ | ⟨rfl,hu9⟩
    all_goals
     have Hu9:=Z9 hu9;clear hu9;go_upto_region 18 with fail;rw [uh Hu9];clear Hu9 Hun;cases mw
     ·obtain rfl:hs=false:=uh Ht
      refine Go.Proofs.YtgdpaigcmoifbaaGreat.wq ?_
      repeat (go_big_quiet_step (first | exact ZZ (uh HH _ (RecAt.later (uh HG) (Z1 _ _ _))) | exact ZZ (UK (uh Hmw) (K.smy.below (Z1 _ _ _))) | exact ZZ (uh hfc _ (K.smy.below (Z1 _ _ _)).rm) | exact ZZ (uh HT2 _)))
      refine wpQuiet_nil ?_;intro _ hw';obtain ⟨⟨dq,osq⟩,hw9⟩:=hw';subst hw9;go_wp2_with fail;go_roundw
      case rel=>exact ⟨j+1,by omega,by go_num,(uh HW).trans ((Z1 _ _ _).mono (uh HW).size)⟩
      case measure=>exact ms
     ·obtain rfl:hs=ft:=uh Ht
      have hpp:(hs !=hs)=false:=bne_self_eq_false hs;refine Go.Proofs.YtgdpaigcmoifbaaGreat.wq ?_
      repeat (go_big_quiet_step (first | exact ZZ (uh HH _ (RecAt.later (uh HG) (Z1 _ _ _))) | exact ZZ (UK (uh Hmw) (K.smy.below (Z1 _ _ _))) | exact ZZ (uh hfc _ (K.smy.below (Z1 _ _ _)).rm) | exact ZZ (uh HT2 _)))
      refine wpQuiet_nil ?_;intro _ hw';obtain ⟨⟨dq,osq⟩,hw9⟩:=hw';subst hw9;go_wp2_with fail;go_roundw
      case rel=>exact ⟨j+1,by omega,by go_num,(uh HW).trans ((Z1 _ _ _).mono (uh HW).size)⟩
      case measure=>exact ms
end Go.Proofs.YtgdpaigcmoifbaaGreat
