/- Part 22 of what the proof rests on. No condition but those that a theorem names. -/
import Derived.Test.YtffcgajndmhpkaaGreatDoorXw21
import Derived.RangeFuncNested
import Derived.RangeFuncBound
import Derived.RangeFuncCalls
import Derived.RangeFuncLeaves
import Derived.RangeFuncBox
import Derived.Shelf.Abstract
import Derived.OwnWalkIn
import Derived.TacticsInMore
import Derived.LoopNIn
import Derived.LoopIn
set_option maxHeartbeats 8000000
set_option maxRecDepth 100000
namespace Go.Proofs.YtffcgajndmhpkaaGreatDoor
open Go.ChangeShapes Go.WideShapes Go.ChangeAt Go.RowKit Go.Sort Go.Shelf
set_option linter.unusedVariables false
set_option linter.unusedSimpArgs false
set_option maxRecDepth 100000
theorem Ef {a0 a1 a2 a3 a4:Option Addr} {n0 n1 n2 n3 n4 p0 p1 p2 p3 p4:Nat} {now:Int} {W:World} : Calls Tryz.prog 34 #[.agg #[.slice a0 n0 p0,.slice a1 n1 p1,.slice a2 n2 p2,.slice a3 n3 p3,.slice a4 n4 p4,.int .i64 now],.nilIface] W fun e w'=>e= .returned (.tuple #[.agg #[.slice a0 n0 p0,.slice a1 n1 p1,.slice a2 n2 p2,.slice a3 n3 p3,.slice a4 n4 p4,.int .i64 now],.int .i64 0])/\Below W.heap.size W w':=by
 have kb:Hid (Blk (((W.alloc (.cells #[.slice a0 n0 p0,.slice a1 n1 p1,.slice a2 n2 p2,.slice a3 n3 p3,.slice a4 n4 p4,.int .i64 now] 32)).alloc (.cells E6 32)).alloc (.cells #[.pointer none] 122)) W.heap.size 32 #[.slice a0 n0 p0,.slice a1 n1 p1,.slice a2 n2 p2,.slice a3 n3 p3,.slice a4 n4 p4,.int .i64 now]):=Z9 (((Blk.new W _ _).alloc _).alloc _)
 have kr:Hid (Blk (((W.alloc (.cells #[.slice a0 n0 p0,.slice a1 n1 p1,.slice a2 n2 p2,.slice a3 n3 p3,.slice a4 n4 p4,.int .i64 now] 32)).alloc (.cells E6 32)).alloc (.cells #[.pointer none] 122)) (W.heap.size+1) 32 E6):=Z9 (by
  have k:=Blk.new (W.alloc (.cells #[.slice a0 n0 p0,.slice a1 n1 p1,.slice a2 n2 p2,.slice a3 n3 p3,.slice a4 n4 p4,.int .i64 now] 32)) 32 E6
  rw [World.size_alloc] at k
  exact k.alloc _)
 have kv:Hid (Blk (((W.alloc (.cells #[.slice a0 n0 p0,.slice a1 n1 p1,.slice a2 n2 p2,.slice a3 n3 p3,.slice a4 n4 p4,.int .i64 now] 32)).alloc (.cells E6 32)).alloc (.cells #[.pointer none] 122)) (W.heap.size+1+1) 122 #[.pointer none]):=Z9 (by
  have k:=Blk.new ((W.alloc (.cells #[.slice a0 n0 p0,.slice a1 n1 p1,.slice a2 n2 p2,.slice a3 n3 p3,.slice a4 n4 p4,.int .i64 now] 32)).alloc (.cells E6 32)) 122 #[.pointer none]
  rw [World.size_alloc,World.size_alloc] at k
  exact k)
 have BB:Hid (Below W.heap.size W (((W.alloc (.cells #[.slice a0 n0 p0,.slice a1 n1 p1,.slice a2 n2 p2,.slice a3 n3 p3,.slice a4 n4 p4,.int .i64 now] 32)).alloc (.cells E6 32)).alloc (.cells #[.pointer none] 122))):=Z9 ((((ba _ _)).alloc (by simp) _).alloc (by simp;omega) _)
 have hsz:(((W.alloc (.cells #[.slice a0 n0 p0,.slice a1 n1 p1,.slice a2 n2 p2,.slice a3 n3 p3,.slice a4 n4 p4,.int .i64 now] 32)).alloc (.cells E6 32)).alloc (.cells #[.pointer none] 122)).heap.size=W.heap.size+1+1+1:=by simp
 go_enter Tryz.func34,Tryz.ntmps34
 go_wp2_with fail
 generalize (((W.alloc (.cells #[.slice a0 n0 p0,.slice a1 n1 p1,.slice a2 n2 p2,.slice a3 n3 p3,.slice a4 n4 p4,.int .i64 now] 32)).alloc (.cells E6 32)).alloc (.cells #[.pointer none] 122))=W1 at *
 refine ck (Br _ _) fun w1 h9=> ?_
 subst w1
 obtain ⟨t0,t1,t2,t3,t4,t5⟩:=(uh kb).c6
 go_wp2_with fail
 refine ZS (S:=fun w'=>w'.cell? ⟨W.heap.size,0,none⟩=some (.slice a0 n0 p0)/\w'.cell? ⟨W.heap.size,1,none⟩=some (.slice a1 n1 p1)/\w'.cell? ⟨W.heap.size,2,none⟩=some (.slice a2 n2 p2)/\w'.cell? ⟨W.heap.size,3,none⟩=some (.slice a3 n3 p3)/\w'.cell? ⟨W.heap.size,4,none⟩=some (.slice a4 n4 p4)/\w'.cell? ⟨W.heap.size,5,none⟩=some (.int .i64 now)) (by kernel_rfl) (List.cons_ne_nil _ _) (by kernel_rfl) ⟨t0,t1,t2,t3,t4,t5⟩ (fun hHeld=> ?_)
 simp only [List.dropLast_cons_cons,List.dropLast_singleton,List.length_cons,List.length_nil,Nat.zero_add,Nat.reduceAdd]
 have hbd:Below W1.heap.size W1 W1.drew:=(Below.refl _ _).drew
 replace kr:=bl kr hbd
 replace BB:=bt BB hbd
 replace kb:=bl kb hbd
 clear t0 t1 t2 t3 t4 t5
 clear hbd
 generalize W1.drew=W5 at *
 obtain ⟨t0,t1,t2,t3,t4,t5⟩:=(uh kb).c6
 (refine tq 0 ?_;(try simp only [Act.put,sA,sZ,sS]))
 (refine tq 1 ?_;(try simp only [Act.put,sA,sZ,sS]))
 refine wpAnyH_ready (rs:=[2]) (by kernel_rfl) (by simp) ?_
 refine AllReadyH.cons rfl (fun K0 hK=> ?_) AllReadyH.nil
 go_simp
 refine ck (Gw _) fun w9 h9=> ?_
 subst w9
 refine hK.out _ _ ⟨t0,t1,t2,t3,t4,t5⟩ (fun hHeld=> ?_)
 clear hK K0
 (try simp only [Act.put,sA,sZ,sS])
 obtain ⟨o0,o1,o2,o3,o4,o5⟩:=(uh kr).c6
 obtain ⟨f0,f1,f2,f3,f4,f5⟩:=(uh kr).f6
 have kbN:Blk ((((((W5.setCell ⟨W.heap.size+1,0,none⟩ (.slice a0 n0 p0)).setCell ⟨W.heap.size+1,1,none⟩ (.slice a1 n1 p1)).setCell ⟨W.heap.size+1,2,none⟩ (.slice a2 n2 p2)).setCell ⟨W.heap.size+1,3,none⟩ (.slice a3 n3 p3)).setCell ⟨W.heap.size+1,4,none⟩ (.slice a4 n4 p4)).setCell ⟨W.heap.size+1,5,none⟩ (.int .i64 now)) W.heap.size 32 #[.slice a0 n0 p0,.slice a1 n1 p1,.slice a2 n2 p2,.slice a3 n3 p3,.slice a4 n4 p4,.int .i64 now]:=(((((((uh kb).other (a:=⟨W.heap.size+1,0,none⟩) (by show W.heap.size ≠ W.heap.size+1;omega) (.slice a0 n0 p0)).other (a:=⟨W.heap.size+1,1,none⟩) (by show W.heap.size ≠ W.heap.size+1;omega) (.slice a1 n1 p1)).other (a:=⟨W.heap.size+1,2,none⟩) (by show W.heap.size ≠ W.heap.size+1;omega) (.slice a2 n2 p2)).other (a:=⟨W.heap.size+1,3,none⟩) (by show W.heap.size ≠ W.heap.size+1;omega) (.slice a3 n3 p3)).other (a:=⟨W.heap.size+1,4,none⟩) (by show W.heap.size ≠ W.heap.size+1;omega) (.slice a4 n4 p4)).other (a:=⟨W.heap.size+1,5,none⟩) (by show W.heap.size ≠ W.heap.size+1;omega) (.int .i64 now))
 refine wpAnyH_ready (rs:=[3]) (by kernel_rfl) (by simp) ?_
 refine AllReadyH.cons rfl (fun K0 hK=> ?_) AllReadyH.nil
 go_simp
 refine hK.out _ _ ⟨kbN.cell (i:=0) rfl,kbN.cell (i:=1) rfl,kbN.cell (i:=2) rfl,kbN.cell (i:=3) rfl,kbN.cell (i:=4) rfl,kbN.cell (i:=5) rfl⟩ (fun hHeld=> ?_)
 clear hK K0
 (try simp only [Act.put,sA,sZ,sS])
 refine wpAnyH_done (by kernel_rfl) ?_ _
 refine ZH rfl rfl ?_
 go_simp
 clear hHeld
 go_wp2_with fail
 refine bodyPost_ret (v:= .tuple #[.agg #[.slice a0 n0 p0,.slice a1 n1 p1,.slice a2 n2 p2,.slice a3 n3 p3,.slice a4 n4 p4,.int .i64 now],.int .i64 0]) (by simp [results,Tryz.results34,go_sem, *]) rfl ⟨rfl,?_⟩
 iterate 6 (refine Below.setCell ?_ (by show _<=W.heap.size+1;omega) _)
 exact uh BB
theorem Fq {a0 a1 a2 a3 a4:Option Addr} {n0 n1 n2 n3 n4 p0 p1 p2 p3 p4:Nat} {now:Int} {W:World} {q:Int->Addr} (he:Errs W q):Calls Tryz.prog 34 #[.agg #[.slice a0 n0 p0,.slice a1 n1 p1,.slice a2 n2 p2,.slice a3 n3 p3,.slice a4 n4 p4,.int .i64 now],Xv (q 3)] W fun e w'=>e= .returned (.tuple #[.agg #[.slice a0 n0 p0,.slice a1 n1 p1,.slice a2 n2 p2,.slice a3 n3 p3,.slice a4 n4 p4,.int .i64 now],.int .i64 3])/\Below W.heap.size W w':=by
 have HE:=Z9 he
 clear he
 have kb:Hid (Blk (((W.alloc (.cells #[.slice a0 n0 p0,.slice a1 n1 p1,.slice a2 n2 p2,.slice a3 n3 p3,.slice a4 n4 p4,.int .i64 now] 32)).alloc (.cells E6 32)).alloc (.cells #[.pointer none] 122)) W.heap.size 32 #[.slice a0 n0 p0,.slice a1 n1 p1,.slice a2 n2 p2,.slice a3 n3 p3,.slice a4 n4 p4,.int .i64 now]):=Z9 (((Blk.new W _ _).alloc _).alloc _)
 have kr:Hid (Blk (((W.alloc (.cells #[.slice a0 n0 p0,.slice a1 n1 p1,.slice a2 n2 p2,.slice a3 n3 p3,.slice a4 n4 p4,.int .i64 now] 32)).alloc (.cells E6 32)).alloc (.cells #[.pointer none] 122)) (W.heap.size+1) 32 E6):=Z9 (by
  have k:=Blk.new (W.alloc (.cells #[.slice a0 n0 p0,.slice a1 n1 p1,.slice a2 n2 p2,.slice a3 n3 p3,.slice a4 n4 p4,.int .i64 now] 32)) 32 E6
  rw [World.size_alloc] at k
  exact k.alloc _)
 have kv:Hid (Blk (((W.alloc (.cells #[.slice a0 n0 p0,.slice a1 n1 p1,.slice a2 n2 p2,.slice a3 n3 p3,.slice a4 n4 p4,.int .i64 now] 32)).alloc (.cells E6 32)).alloc (.cells #[.pointer none] 122)) (W.heap.size+1+1) 122 #[.pointer none]):=Z9 (by
  have k:=Blk.new ((W.alloc (.cells #[.slice a0 n0 p0,.slice a1 n1 p1,.slice a2 n2 p2,.slice a3 n3 p3,.slice a4 n4 p4,.int .i64 now] 32)).alloc (.cells E6 32)) 122 #[.pointer none]
  rw [World.size_alloc,World.size_alloc] at k
  exact k)
 have BB:Hid (Below W.heap.size W (((W.alloc (.cells #[.slice a0 n0 p0,.slice a1 n1 p1,.slice a2 n2 p2,.slice a3 n3 p3,.slice a4 n4 p4,.int .i64 now] 32)).alloc (.cells E6 32)).alloc (.cells #[.pointer none] 122))):=Z9 ((((ba _ _)).alloc (by simp) _).alloc (by simp;omega) _)
 have hsz:(((W.alloc (.cells #[.slice a0 n0 p0,.slice a1 n1 p1,.slice a2 n2 p2,.slice a3 n3 p3,.slice a4 n4 p4,.int .i64 now] 32)).alloc (.cells E6 32)).alloc (.cells #[.pointer none] 122)).heap.size=W.heap.size+1+1+1:=by simp
 have HX:=Z9 ((uh HE).below (uh BB))
 go_enter Tryz.func34,Tryz.ntmps34
 go_wp2_with fail
 generalize (((W.alloc (.cells #[.slice a0 n0 p0,.slice a1 n1 p1,.slice a2 n2 p2,.slice a3 n3 p3,.slice a4 n4 p4,.int .i64 now] 32)).alloc (.cells E6 32)).alloc (.cells #[.pointer none] 122))=W1 at *
 refine ck (Bf (q 3) _ _ (uh HX).ct) fun w1 hb=> ?_
 replace kb:=bl kb hb
 replace kr:=bl kr hb
 replace BB:=bt BB hb
 replace HX:=Z9 ((uh HX).below hb)
 clear hb
 obtain ⟨t0,t1,t2,t3,t4,t5⟩:=(uh kb).c6
 go_wp2_with fail
 refine ZS (S:=fun w'=>w'.cell? ⟨W.heap.size,0,none⟩=some (.slice a0 n0 p0)/\w'.cell? ⟨W.heap.size,1,none⟩=some (.slice a1 n1 p1)/\w'.cell? ⟨W.heap.size,2,none⟩=some (.slice a2 n2 p2)/\w'.cell? ⟨W.heap.size,3,none⟩=some (.slice a3 n3 p3)/\w'.cell? ⟨W.heap.size,4,none⟩=some (.slice a4 n4 p4)/\w'.cell? ⟨W.heap.size,5,none⟩=some (.int .i64 now)) (by kernel_rfl) (List.cons_ne_nil _ _) (by kernel_rfl) ⟨t0,t1,t2,t3,t4,t5⟩ (fun hHeld=> ?_)
 simp only [List.dropLast_cons_cons,List.dropLast_singleton,List.length_cons,List.length_nil,Nat.zero_add,Nat.reduceAdd]
 have hbd:Below w1.heap.size w1 w1.drew:=(Below.refl _ _).drew
 replace kr:=bl kr hbd
 replace BB:=bt BB hbd
 replace kb:=bl kb hbd
 clear t0 t1 t2 t3 t4 t5
 replace HX:=Z9 ((uh HX).below hbd)
 clear hbd
 generalize w1.drew=W5 at *
 obtain ⟨t0,t1,t2,t3,t4,t5⟩:=(uh kb).c6
 (refine tq 0 ?_;(try simp only [Act.put,sA,sZ,sS]))
 (refine tq 1 ?_;(try simp only [Act.put,sA,sZ,sS]))
 refine wpAnyH_ready (rs:=[2]) (by kernel_rfl) (by simp) ?_
 refine AllReadyH.cons rfl (fun K0 hK=> ?_) AllReadyH.nil
 go_simp
 refine ck (Jg (uh HX)) fun w9 h9=> ?_
 subst w9
 refine hK.out _ _ ⟨t0,t1,t2,t3,t4,t5⟩ (fun hHeld=> ?_)
 clear hK K0
 (try simp only [Act.put,sA,sZ,sS])
 obtain ⟨o0,o1,o2,o3,o4,o5⟩:=(uh kr).c6
 obtain ⟨f0,f1,f2,f3,f4,f5⟩:=(uh kr).f6
 have kbN:Blk ((((((W5.setCell ⟨W.heap.size+1,0,none⟩ (.slice a0 n0 p0)).setCell ⟨W.heap.size+1,1,none⟩ (.slice a1 n1 p1)).setCell ⟨W.heap.size+1,2,none⟩ (.slice a2 n2 p2)).setCell ⟨W.heap.size+1,3,none⟩ (.slice a3 n3 p3)).setCell ⟨W.heap.size+1,4,none⟩ (.slice a4 n4 p4)).setCell ⟨W.heap.size+1,5,none⟩ (.int .i64 now)) W.heap.size 32 #[.slice a0 n0 p0,.slice a1 n1 p1,.slice a2 n2 p2,.slice a3 n3 p3,.slice a4 n4 p4,.int .i64 now]:=(((((((uh kb).other (a:=⟨W.heap.size+1,0,none⟩) (by show W.heap.size ≠ W.heap.size+1;omega) (.slice a0 n0 p0)).other (a:=⟨W.heap.size+1,1,none⟩) (by show W.heap.size ≠ W.heap.size+1;omega) (.slice a1 n1 p1)).other (a:=⟨W.heap.size+1,2,none⟩) (by show W.heap.size ≠ W.heap.size+1;omega) (.slice a2 n2 p2)).other (a:=⟨W.heap.size+1,3,none⟩) (by show W.heap.size ≠ W.heap.size+1;omega) (.slice a3 n3 p3)).other (a:=⟨W.heap.size+1,4,none⟩) (by show W.heap.size ≠ W.heap.size+1;omega) (.slice a4 n4 p4)).other (a:=⟨W.heap.size+1,5,none⟩) (by show W.heap.size ≠ W.heap.size+1;omega) (.int .i64 now))
 refine wpAnyH_ready (rs:=[3]) (by kernel_rfl) (by simp) ?_
 refine AllReadyH.cons rfl (fun K0 hK=> ?_) AllReadyH.nil
 go_simp
 refine hK.out _ _ ⟨kbN.cell (i:=0) rfl,kbN.cell (i:=1) rfl,kbN.cell (i:=2) rfl,kbN.cell (i:=3) rfl,kbN.cell (i:=4) rfl,kbN.cell (i:=5) rfl⟩ (fun hHeld=> ?_)
 clear hK K0
 (try simp only [Act.put,sA,sZ,sS])
 refine wpAnyH_done (by kernel_rfl) ?_ _
 refine ZH rfl rfl ?_
 go_simp
 clear hHeld
 go_wp2_with fail
 refine bodyPost_ret (v:= .tuple #[.agg #[.slice a0 n0 p0,.slice a1 n1 p1,.slice a2 n2 p2,.slice a3 n3 p3,.slice a4 n4 p4,.int .i64 now],.int .i64 3]) (by simp [results,Tryz.results34,go_sem, *]) rfl ⟨rfl,?_⟩
 iterate 6 (refine Below.setCell ?_ (by show _<=W.heap.size+1;omega) _)
 exact uh BB
theorem Fs {a0 a1 a2 a3 a4:Option Addr} {n0 n1 n2 n3 n4 p0 p1 p2 p3 p4:Nat} {now:Int} {b0 b1 b2 b3 b4:Option Addr} {l0 l1 l2 l3 l4 r0 r1 r2 r3 r4:Nat} {nw:Int} {W:World} {q:Int->Addr} (he:Errs W q) {p:Nat} {c:Int} (hcc:c=1\/c=2\/c=3\/c=4\/c=5) (hp:Blk W p 126 #[.slice b0 l0 r0,.slice b1 l1 r1,.slice b2 l2 r2,.slice b3 l3 r3,.slice b4 l4 r4,.int .i64 nw,Xv (q c)]):Calls Tryz.prog 34 #[.agg #[.slice a0 n0 p0,.slice a1 n1 p1,.slice a2 n2 p2,.slice a3 n3 p3,.slice a4 n4 p4,.int .i64 now],QJ p] W fun e w'=>e= .returned (.tuple #[.agg #[.slice b0 l0 r0,.slice b1 l1 r1,.slice b2 l2 r2,.slice b3 l3 r3,.slice b4 l4 r4,.int .i64 nw],.int .i64 c])/\Below W.heap.size W w':=by
 have HE:=Z9 he
 have Hp:=Z9 hp
 clear he hp
 have kb:Hid (Blk (((W.alloc (.cells #[.slice a0 n0 p0,.slice a1 n1 p1,.slice a2 n2 p2,.slice a3 n3 p3,.slice a4 n4 p4,.int .i64 now] 32)).alloc (.cells E6 32)).alloc (.cells #[.pointer none] 122)) W.heap.size 32 #[.slice a0 n0 p0,.slice a1 n1 p1,.slice a2 n2 p2,.slice a3 n3 p3,.slice a4 n4 p4,.int .i64 now]):=Z9 (((Blk.new W _ _).alloc _).alloc _)
 have kr:Hid (Blk (((W.alloc (.cells #[.slice a0 n0 p0,.slice a1 n1 p1,.slice a2 n2 p2,.slice a3 n3 p3,.slice a4 n4 p4,.int .i64 now] 32)).alloc (.cells E6 32)).alloc (.cells #[.pointer none] 122)) (W.heap.size+1) 32 E6):=Z9 (by
  have k:=Blk.new (W.alloc (.cells #[.slice a0 n0 p0,.slice a1 n1 p1,.slice a2 n2 p2,.slice a3 n3 p3,.slice a4 n4 p4,.int .i64 now] 32)) 32 E6
  rw [World.size_alloc] at k
  exact k.alloc _)
 have kv:Hid (Blk (((W.alloc (.cells #[.slice a0 n0 p0,.slice a1 n1 p1,.slice a2 n2 p2,.slice a3 n3 p3,.slice a4 n4 p4,.int .i64 now] 32)).alloc (.cells E6 32)).alloc (.cells #[.pointer none] 122)) (W.heap.size+1+1) 122 #[.pointer none]):=Z9 (by
  have k:=Blk.new ((W.alloc (.cells #[.slice a0 n0 p0,.slice a1 n1 p1,.slice a2 n2 p2,.slice a3 n3 p3,.slice a4 n4 p4,.int .i64 now] 32)).alloc (.cells E6 32)) 122 #[.pointer none]
  rw [World.size_alloc,World.size_alloc] at k
  exact k)
 have BB:Hid (Below W.heap.size W (((W.alloc (.cells #[.slice a0 n0 p0,.slice a1 n1 p1,.slice a2 n2 p2,.slice a3 n3 p3,.slice a4 n4 p4,.int .i64 now] 32)).alloc (.cells E6 32)).alloc (.cells #[.pointer none] 122))):=Z9 ((((ba _ _)).alloc (by simp) _).alloc (by simp;omega) _)
 have hsz:(((W.alloc (.cells #[.slice a0 n0 p0,.slice a1 n1 p1,.slice a2 n2 p2,.slice a3 n3 p3,.slice a4 n4 p4,.int .i64 now] 32)).alloc (.cells E6 32)).alloc (.cells #[.pointer none] 122)).heap.size=W.heap.size+1+1+1:=by simp
 have HX:=Z9 ((uh HE).below (uh BB))
 have kp:=Z9 ((uh Hp).below (uh BB) (uh Hp).lt)
 go_enter Tryz.func34,Tryz.ntmps34
 go_wp2_with fail
 generalize (((W.alloc (.cells #[.slice a0 n0 p0,.slice a1 n1 p1,.slice a2 n2 p2,.slice a3 n3 p3,.slice a4 n4 p4,.int .i64 now] 32)).alloc (.cells E6 32)).alloc (.cells #[.pointer none] 122))=W1 at *
 refine (Bs _ p _ (uh HX).ct ((uh kv).cell (i:=0) rfl) ((uh kv).free 0)).mono ?_
 rintro e w1 ⟨rfl,hc,hall⟩
 have hb:=hall (W.heap.size+1+1) (Nat.le_refl _) (by omega)
 have hpl:=(uh Hp).lt
 replace kb:=Z9 ((uh kb).below hb (by omega))
 replace kr:=Z9 ((uh kr).below hb (by omega))
 replace kp:=Z9 ((uh kp).below hb (by omega))
 have hE0:=(uh HE).below ((uh BB).trans (hb.mono (by omega)))
 replace BB:=Z9 ((uh BB).trans (hb.mono (by omega)))
 replace HX:=Z9 hE0
 clear hb hall hE0 kv hsz hpl
 obtain ⟨t0,t1,t2,t3,t4,t5⟩:w1.cell? ⟨p,0,none⟩=some (.slice b0 l0 r0)/\w1.cell? ⟨p,1,none⟩=some (.slice b1 l1 r1)/\w1.cell? ⟨p,2,none⟩=some (.slice b2 l2 r2)/\w1.cell? ⟨p,3,none⟩=some (.slice b3 l3 r3)/\w1.cell? ⟨p,4,none⟩=some (.slice b4 l4 r4)/\w1.cell? ⟨p,5,none⟩=some (.int .i64 nw):=⟨(uh kp).cell (i:=0) rfl,(uh kp).cell (i:=1) rfl,(uh kp).cell (i:=2) rfl,(uh kp).cell (i:=3) rfl,(uh kp).cell (i:=4) rfl,(uh kp).cell (i:=5) rfl⟩
 go_wp2_with fail
 refine ZS (S:=fun w'=>w'.cell? ⟨W.heap.size+1+1,0,none⟩=some (.pointer (some ⟨p,0,none⟩))/\w'.cell? ⟨p,0,none⟩=some (.slice b0 l0 r0)/\w'.cell? ⟨p,1,none⟩=some (.slice b1 l1 r1)/\w'.cell? ⟨p,2,none⟩=some (.slice b2 l2 r2)/\w'.cell? ⟨p,3,none⟩=some (.slice b3 l3 r3)/\w'.cell? ⟨p,4,none⟩=some (.slice b4 l4 r4)/\w'.cell? ⟨p,5,none⟩=some (.int .i64 nw)) (by kernel_rfl) (List.cons_ne_nil _ _) (by kernel_rfl) ⟨hc,t0,t1,t2,t3,t4,t5⟩ (fun hHeld=> ?_)
 simp only [List.dropLast_cons_cons,List.dropLast_singleton,List.length_cons,List.length_nil,Nat.zero_add,Nat.reduceAdd]
 have hbd:Below w1.heap.size w1 w1.drew:=(Below.refl _ _).drew
 replace kr:=bl kr hbd
 replace BB:=bt BB hbd
 replace kp:=bl kp hbd
 replace hc:=(hbd.cell (World.block_lt_of_cell? _ _ hc)).trans hc
 replace HX:=Z9 ((uh HX).below hbd)
 clear t0 t1 t2 t3 t4 t5
 clear hbd
 generalize w1.drew=W5 at *
 obtain ⟨t0,t1,t2,t3,t4,t5⟩:W5.cell? ⟨p,0,none⟩=some (.slice b0 l0 r0)/\W5.cell? ⟨p,1,none⟩=some (.slice b1 l1 r1)/\W5.cell? ⟨p,2,none⟩=some (.slice b2 l2 r2)/\W5.cell? ⟨p,3,none⟩=some (.slice b3 l3 r3)/\W5.cell? ⟨p,4,none⟩=some (.slice b4 l4 r4)/\W5.cell? ⟨p,5,none⟩=some (.int .i64 nw):=⟨(uh kp).cell (i:=0) rfl,(uh kp).cell (i:=1) rfl,(uh kp).cell (i:=2) rfl,(uh kp).cell (i:=3) rfl,(uh kp).cell (i:=4) rfl,(uh kp).cell (i:=5) rfl⟩
 (refine tq 0 ?_;(try simp only [Act.put,sA,sZ,sS]))
 (refine tq 1 ?_;(try simp only [Act.put,sA,sZ,sS]))
 (refine tq 2 ?_;(try simp only [Act.put,sA,sZ,sS]))
 (refine tq 3 ?_;(try simp only [Act.put,sA,sZ,sS]))
 (refine tq 4 ?_;(try simp only [Act.put,sA,sZ,sS]))
 refine wpAnyH_ready (rs:=[5]) (by kernel_rfl) (by simp) ?_
 refine AllReadyH.cons rfl (fun K0 hK=> ?_) AllReadyH.nil
 go_simp
 refine ck (Jh hcc p (uh HX) ((uh kp).cell (i:=6) rfl)) fun w9 h9=> ?_
 subst w9
 refine hK.out _ _ ⟨hc,t0,t1,t2,t3,t4,t5⟩ (fun hHeld=> ?_)
 clear hK K0
 (try simp only [Act.put,sA,sZ,sS])
 obtain ⟨o0,o1,o2,o3,o4,o5⟩:=(uh kr).c6
 obtain ⟨f0,f1,f2,f3,f4,f5⟩:=(uh kr).f6
 have hpl:=(uh Hp).lt
 have hne:p ≠ W.heap.size+1:=by omega
 have hcN:((((((W5.setCell ⟨W.heap.size+1,0,none⟩ (.slice b0 l0 r0)).setCell ⟨W.heap.size+1,1,none⟩ (.slice b1 l1 r1)).setCell ⟨W.heap.size+1,2,none⟩ (.slice b2 l2 r2)).setCell ⟨W.heap.size+1,3,none⟩ (.slice b3 l3 r3)).setCell ⟨W.heap.size+1,4,none⟩ (.slice b4 l4 r4)).setCell ⟨W.heap.size+1,5,none⟩ (.int .i64 nw)).cell? ⟨W.heap.size+1+1,0,none⟩=some (.pointer (some ⟨p,0,none⟩)):=by
  rw [World.cell?_setCell_far _ _ _ _ (by show W.heap.size+1 ≠ W.heap.size+1+1;omega),World.cell?_setCell_far _ _ _ _ (by show W.heap.size+1 ≠ W.heap.size+1+1;omega),World.cell?_setCell_far _ _ _ _ (by show W.heap.size+1 ≠ W.heap.size+1+1;omega),World.cell?_setCell_far _ _ _ _ (by show W.heap.size+1 ≠ W.heap.size+1+1;omega),World.cell?_setCell_far _ _ _ _ (by show W.heap.size+1 ≠ W.heap.size+1+1;omega),World.cell?_setCell_far _ _ _ _ (by show W.heap.size+1 ≠ W.heap.size+1+1;omega)]
  exact hc
 have kpN:Blk ((((((W5.setCell ⟨W.heap.size+1,0,none⟩ (.slice b0 l0 r0)).setCell ⟨W.heap.size+1,1,none⟩ (.slice b1 l1 r1)).setCell ⟨W.heap.size+1,2,none⟩ (.slice b2 l2 r2)).setCell ⟨W.heap.size+1,3,none⟩ (.slice b3 l3 r3)).setCell ⟨W.heap.size+1,4,none⟩ (.slice b4 l4 r4)).setCell ⟨W.heap.size+1,5,none⟩ (.int .i64 nw)) p 126 #[.slice b0 l0 r0,.slice b1 l1 r1,.slice b2 l2 r2,.slice b3 l3 r3,.slice b4 l4 r4,.int .i64 nw,Xv (q c)]:=(((((((uh kp).other (a:=⟨W.heap.size+1,0,none⟩) hne (.slice b0 l0 r0)).other (a:=⟨W.heap.size+1,1,none⟩) hne (.slice b1 l1 r1)).other (a:=⟨W.heap.size+1,2,none⟩) hne (.slice b2 l2 r2)).other (a:=⟨W.heap.size+1,3,none⟩) hne (.slice b3 l3 r3)).other (a:=⟨W.heap.size+1,4,none⟩) hne (.slice b4 l4 r4)).other (a:=⟨W.heap.size+1,5,none⟩) hne (.int .i64 nw))
 refine wpAnyH_ready (rs:=[6]) (by kernel_rfl) (by simp) ?_
 refine AllReadyH.cons rfl (fun K0 hK=> ?_) AllReadyH.nil
 go_simp
 refine hK.out _ _ ⟨hcN,kpN.cell (i:=0) rfl,kpN.cell (i:=1) rfl,kpN.cell (i:=2) rfl,kpN.cell (i:=3) rfl,kpN.cell (i:=4) rfl,kpN.cell (i:=5) rfl⟩ (fun hHeld=> ?_)
 clear hK K0
 (try simp only [Act.put,sA,sZ,sS])
 refine wpAnyH_done (by kernel_rfl) ?_ _
 refine ZH rfl rfl ?_
 go_simp
 clear hHeld
 go_wp2_with fail
 refine bodyPost_ret (v:= .tuple #[.agg #[.slice b0 l0 r0,.slice b1 l1 r1,.slice b2 l2 r2,.slice b3 l3 r3,.slice b4 l4 r4,.int .i64 nw],.int .i64 c]) (by simp [results,Tryz.results34,go_sem, *]) rfl ⟨rfl,?_⟩
 iterate 6 (refine Below.setCell ?_ (by show _<=W.heap.size+1;omega) _)
 exact uh BB
def Tr (w:World) (q:Int->Addr) (m X:Z4) (c:Int) (e:Ending) (w':World):Prop:=
 Below w.heap.size w w'/\((ZP m=false/\e= .returned (.tuple #[.agg E6,Xv (q 3)]))\/(ZP m=true/\c=0/\ ∃ a0 p0 a1 p1 a2 p2 a3 p3 a4 p4 rs,e= .returned (.tuple #[.agg #[.slice a0 (Zz X).rooms.length p0,.slice a1 (Zz X).guilds.length p1,.slice a2 (Zz X).smiths.length p2,.slice a3 (Zz X).desks.length p3,.slice a4 (Zz X).paces.length p4,.int .i64 (Zz X).now],.nilIface])/\FullSmy w.heap.size w' (.slice a0 (Zz X).rooms.length p0) (.slice a1 (Zz X).guilds.length p1) (.slice a2 (Zz X).smiths.length p2) (.slice a3 (Zz X).desks.length p3) (.slice a4 (Zz X).paces.length p4) (Zz X) rs)\/(ZP m=true/\(c=1\/c=2\/c=3\/c=4\/c=5)/\ ∃ p a0 p0 a1 p1 a2 p2 a3 p3 a4 p4 rs,e= .returned (.tuple #[.agg E6,QJ p])/\Blk w' p 126 #[.slice a0 m.rooms.length p0,.slice a1 m.guilds.length p1,.slice a2 m.smiths.length p2,.slice a3 m.desks.length p3,.slice a4 m.paces.length p4,.int .i64 m.now,Xv (q c)]/\FullSmy w.heap.size w' (.slice a0 m.rooms.length p0) (.slice a1 m.guilds.length p1) (.slice a2 m.smiths.length p2) (.slice a3 m.desks.length p3) (.slice a4 m.paces.length p4) m rs))
theorem Ui {n:Nat} {w:World} {v0 v1 v2 v3 v4:Value} {m:Z4} {qs:List (Z2 × Value)} (h:FullSmy n w v0 v1 v2 v3 v4 m qs):∃ a0 p0 a1 p1 a2 p2 a3 p3 a4 p4,v0= .slice a0 m.rooms.length p0/\v1= .slice a1 m.guilds.length p1/\v2= .slice a2 m.smiths.length p2/\v3= .slice a3 m.desks.length p3/\v4= .slice a4 m.paces.length p4:=by
 obtain ⟨a0,p0,a1,p1,a2,p2,a3,p3,a4,p4,e0,e1,e2,e3,e4,_⟩:=h.smy.five
 exact ⟨a0,p0,a1,p1,a2,p2,a3,p3,a4,p4,e0,e1,e2,e3,e4⟩
set_option maxRecDepth 100000
theorem Nx.putP {w W:World} {R:Nat} {v0 v1 v2 v3:Value} {m:Z4} {qs:List (Z2 × Value)} {g n cap:Nat} (h:Nx w W R v0 v1 v2 v3 (.slice (some ⟨g,0,none⟩) n cap) m qs) (hn:n=m.paces.length) {j:Nat} (hj:j<m.paces.length) (x:Int):Nx w (W.setCell ⟨g,j,none⟩ (.int .i64 x)) R v0 v1 v2 v3 (.slice (some ⟨g,0,none⟩) n cap) (Xq m j x) qs:=by
 have hg:=h.full.own (k:=g) (.inr (.inr (.inr (.inr (.inr rfl)))))
 have hgR:=h.own g (.inr (.inr (.inr (.inr (.inr rfl)))))
 exact ⟨h.full.putP hn hj x,h.blk.other (a:=⟨g,j,none⟩) (fun e=>hgR e.symm) _,h.own,h.bb.setCell (p:=⟨g,j,none⟩) hg.1 _,h.hR⟩
section
variable {F : Nat → TypeId → Array Value → Prop} {w W : World} {R : Nat} {v0 v1 v2 v3 v4 : Value} {m : Z4} {qs : List (Z2 × Value)}
end
theorem Sn {w w':World} (hb:Below w.heap.size w w') {p:Addr} {v:Value} (c:w.cell? p=some v):w'.cell? p=some v:=(hb.cell (World.block_lt_of_cell? _ _ c)).trans c
end Go.Proofs.YtffcgajndmhpkaaGreatDoor
namespace Go.Proofs.YtffcgajndmhpkaaGreatDoor
open Go.ChangeShapes Go.WideShapes Go.ChangeAt Go.RowKit Go.Shelf
set_option linter.unusedVariables false
attribute [local go_sem] Oper.semAt_some
def KeepsBox (Bn:Nat) (t:TypeId) (W W':World):Prop:= ∀ v,Boxed W Bn t v->Boxed W' Bn t v
theorem KeepsBox.trans {Bn:Nat} {t:TypeId} {A B C:World} (h:KeepsBox Bn t A B) (k:KeepsBox Bn t B C):KeepsBox Bn t A C:=fun v hv=>k v (h v hv)
theorem KeepsBox.putObj {Bn:Nat} {t:TypeId} {n:Nat} (h:Bn<n) (W:World) (l:Nat) (o o':Obj) (hl:n<=l) (_:W.heap[l]?=some o) (_:o.isCells=false) (_:o.isWalk=false):KeepsBox Bn t W (W.putObj l o'):=
 fun v hv=>hv.kept (grownBy_putObj' W l o') (fun e=>by cases e;omega)
theorem JX (n:Nat) (hn:1<=n) (l Bn:Nat) (s:Int) (J Jx:List Int->World->Prop)
  (hY:∀ pre x W,J pre W->pre.length<8->YieldAt Fence.wide (n-1) Tryz.prog l #[.int .i64 x] W fun e W'=>
   (e= .returned (.bool true)/\J (pre++[x]) W'/\KeepsBox Bn 2 W W')\/(e= .returned (.bool false)/\Jx (pre++[x]) W'))
  (W:World) (hBn:Boxed W Bn 2 (.int .i64 s)) (h0:J [] W) :
  CallsIn Fence.wide n Tryz.prog 230 #[.func (.yield l) #[] #[],.pointer (some ⟨Bn,0,none⟩)] W fun e W'=>(∃ v,e= .returned v)/\
   ((∃ ys,ys=Rm s/\J ys W')\/(∃ pre,pre <+: Rm s/\Jx pre W')):=by
 refine callsIn_of_wp Tryz.func230 rfl trivial ?_ rfl
 simp only [Tryz.ntmps230,List.size_toArray,List.length_cons,List.length_nil,Nat.reduceAdd,Nat.reduceSub,Array.replicate_succ,Array.replicate_zero,List.push_toArray,List.append_toArray,List.nil_append,List.cons_append]
 gi_wp2
 gi_loopw [4] (fun i wr=> ∃ k:Nat,k<=8/\i= .int .i64 k/\Boxed wr Bn 2 (.int .i64 s)/\J (VL s k) wr)
  (fun i wr=>8-(intOf i).toNat)
 case atStart=>exact ⟨0,by omega,rfl,hBn,h0⟩
 case round=>
  obtain ⟨k,hk,rfl,hbx,hJ⟩:=hrel
  have hul:=KP s k
  have hc:=hbx.cell
  have Hb:=Z9 hbx
  clear hbx
  by_cases hlt:(k:Int)<8
  ·cases hm:UZ s k
   ·gi_wp2_with (refine ⟨trivial,?_⟩;gi_at_call 174;refine (callsIn_wide.2 (UI _ _ _)).mono ?_;rintro e w' ⟨rfl,rfl⟩)
    refine ⟨fun _ h=>(by cases h),?_⟩
    gi_wp2
    go_roundw
    case rel=>exact ⟨k+1,by omega,by go_num,uh Hb,by rw [Vx hm];exact hJ⟩
    case measure=>exact ms
   ·obtain ⟨fn,tmps,assign,body,hy,hR⟩:=hY (VL s k) k wr hJ (by omega)
    gi_wp2_with (refine ⟨trivial,?_⟩;gi_at_call 174;refine (callsIn_wide.2 (UI _ _ _)).mono ?_;rintro e w' ⟨rfl,rfl⟩)
    refine hR.mono ?_
    rintro e W3 (⟨rfl,hJ3,hk3⟩ | ⟨rfl,hJx3⟩)
    ·gi_wp2
     go_roundw
     case rel=>exact ⟨k+1,by omega,by go_num,hk3 _ (uh Hb),by rw [Tm hm];exact hJ3⟩
     case measure=>exact ms
    ·gi_wp2
     refine bodyPost_ret (results_none rfl _ _ _) rfl ?_
     exact ⟨⟨_,rfl⟩,.inr ⟨VL s k++[(k:Int)],by rw [<-Tm hm];exact Ej s (k+1) (by omega),hJx3⟩⟩
  ·obtain rfl:k=8:=by omega
   gi_wp2
   go_end0
   exact ⟨⟨_,rfl⟩,.inl hJ⟩
theorem Rl (n:Nat) (s:Int) (w:World) :
  CallsIn Fence.wide n Tryz.prog 179 #[.int .i64 s] w fun e w'=>e= .returned (.func (.func 230) #[] #[.pointer (some ⟨w.heap.size,0,none⟩)])/\w'=w.alloc (.cells #[.int .i64 s] 2):=by
 refine callsIn_of_wp Tryz.func179 rfl trivial ?_ rfl
 simp only [Tryz.ntmps179,List.size_toArray,List.length_cons,List.length_nil,Nat.reduceAdd,Nat.reduceSub,Array.replicate_succ,Array.replicate_zero,List.push_toArray,List.append_toArray,List.nil_append,List.cons_append]
 gi_wp2
 go_ret
 exact ⟨rfl,rfl⟩
theorem Sc (n:Nat) (hn:1<=n) (Bn:Nat) (s:Int) (w:World) (hBn:Boxed w Bn 2 (.int .i64 s)) :
  SeqStopsK Fence.wide n Tryz.prog 230 #[.pointer (some ⟨Bn,0,none⟩)] (fun x:Int=>#[Value.int .i64 x]) (KeepsBox Bn 2) (fun ys=>ys=Rm s) (fun pre=>pre <+: Rm s) 8 w:=fun l J Jx W hW _ _ hY h0=>
 JX n hn l Bn s J Jx hY W ((hW.block Bn hBn.lt).trans hBn) h0
theorem Oa (n:Nat) (hn:3<=n) (s:Int) (w:World) :
  CallsIn Fence.wide n Tryz.prog 319 #[.int .i64 s] w fun e w'=>e= .returned (.int .i64 (Wx s))/\Below w.heap.size w w':=by
 have h1:1<=n:=by omega
 refine callsIn_of_wp_marks Tryz.func319 rfl trivial ?_ rfl
 simp only [Tryz.ntmps319,List.size_toArray,List.length_cons,List.length_nil,Nat.reduceAdd,Nat.reduceSub,Array.replicate_succ,Array.replicate_zero,List.push_toArray,List.append_toArray,List.nil_append,List.cons_append]
 gi_wp2_with (refine ⟨trivial,?_⟩;gi_at_call 179;refine (Rl (n-1) _ _).mono ?_;rintro e w' ⟨rfl,rfl⟩)
 have bR:=Boxed.new w 2 (.int .i64 0)
 have bN:=Boxed.new (w.alloc (.cells #[.int .i64 0] 2)) 2 (.int .i64 s)
 simp only [World.size_alloc] at bN
 have hB0:Below w.heap.size w ((w.alloc (.cells #[.int .i64 0] 2)).alloc (.cells #[.int .i64 s] 2)):=((Below.refl _ w).alloc (Nat.le_refl _) _).alloc (by simp) _
 refine wpIn_rangeFunc_ownG rfl h1 (gf:=230) (lb:=#[.pointer (some ⟨w.heap.size+1,0,none⟩)]) rfl trivial (enters_of Tryz.func230 (by kernel_rfl) rfl)
  (Sc (n-1) (by omega) (w.heap.size+1) s _ bN) (fun h k=>h.trans k) (KeepsBox.putObj (by simp)) (Below.refl _ _) (fun _=>rfl)
  (fun pre W=>(pre=[]/\Boxed W w.heap.size 2 (.int .i64 0))/\Below w.heap.size w W)
  (fun c pre W=>(c= .ret/\ ∃ x,pre=[x]/\Boxed W w.heap.size 2 (.int .i64 x))/\Below w.heap.size w W)
  (OwnFrom.and (Own.from (fun s A B row hs hg hr=>⟨hs.1,hs.2.kept hg (fun e=>by obtain ⟨o,ho,hc⟩:=hr _ e.symm;rw [show A.heap[w.heap.size]?=_ from hs.2] at ho;cases ho;cases hc)⟩) _) (ownFrom_below (Nat.le_refl _) (by simp;omega)))
  (fun c=>OwnFrom.and (Own.from (fun s A B row hs hg hr=>by obtain ⟨e1,x,e2,hb⟩:=hs;exact ⟨e1,x,e2,hb.kept hg (fun e=>by obtain ⟨o,ho,hc⟩:=hr _ e.symm;rw [show A.heap[w.heap.size]?=_ from hb] at ho;cases ho;cases hc)⟩) _) (ownFrom_below (Nat.le_refl _) (by simp;omega)))
  ⟨⟨rfl,bR.alloc _⟩,hB0⟩
  (fun x=>{ tmps:=#[.int .i64 s,undef,.pointer (some ⟨w.heap.size,0,none⟩),.int .i64 x,.int .i64 s,.func (.func 230) #[] #[.pointer (some ⟨w.heap.size+1,0,none⟩)],.int .i64 x,undef],defers:=[] }) ?assign ?body ?done ?stop
 case assign=>
  intro l x W K hK
  gi_wp2
  exact hK
 case body=>
  rintro l pre x W ⟨⟨rfl,hb⟩,hB⟩ _
  have hc:=hb.cell
  have hf:=hb.frozen
  gi_wp2
  exact ⟨(KeepsOthers.setCell _ _ _).from _,⟨rfl,x,rfl,hb.set _⟩,hB.setCell (p:=⟨w.heap.size,0,none⟩) (Nat.le_refl _) _⟩
 case done=>
  rintro D ys W hD hys ⟨⟨hp,hb⟩,hB⟩ hK
  have hc:=hb.cell
  have hf:=hb.frozen
  gi_wp2
  have hK':=(KeepsOthers.setCell W ⟨w.heap.size,0,none⟩ (.int .i64 (-1))).same D _ hK rfl
  refine ⟨by simp,.inl ⟨_,_,rfl,run_takeDeferred hK',?_⟩⟩
  have hc5:=Go.cell_kept (hb.set (.int .i64 (-1))).cell (grownBy_putObj' _ D (.deferred none)) (fun r e=>by cases e;exact ⟨_,hK',rfl⟩)
  have hm:Rm s=[]:=hys.symm.trans hp
  refine ⟨.int .i64 (-1),?_,ZI (by unfold Wx;rw [hm];rfl),(hB.setCell (p:=⟨w.heap.size,0,none⟩) (Nat.le_refl _) _).trans (belowK_b (w:=w) (Nat.le_refl _) _ D _ _ (by simp at hD;omega) hK' rfl rfl)⟩
  simp [results,Tryz.f319,go_sem,hc5]
 case stop=>
  rintro D c pre W hD hpre ⟨⟨rfl,x,rfl,hb⟩,hB⟩ hK
  gi_wp2
  refine ⟨by simp,.inl ⟨_,_,rfl,run_takeDeferred hK,?_⟩⟩
  have hc5:=Go.cell_kept hb.cell (grownBy_putObj' _ D (.deferred none)) (fun r e=>by cases e;exact ⟨_,hK,rfl⟩)
  have hx:Wx s=x:=by obtain ⟨r,hr⟩:=hpre;unfold Wx;rw [<-hr];rfl
  refine ⟨.int .i64 x,?_,ZI hx.symm,hB.trans (belowK_b (w:=w) (Nat.le_refl _) W D _ _ (by simp at hD;omega) hK rfl rfl)⟩
  simp [results,Tryz.f319,go_sem,hc5]
theorem Pt (s:Int) (w:World):Calls Tryz.prog 319 #[.int .i64 s] w fun e w'=>e= .returned (.int .i64 (Wx s))/\Below w.heap.size w w':=
 callsIn_wide.1 (Oa 3 (Nat.le_refl _) s w)
end Go.Proofs.YtffcgajndmhpkaaGreatDoor
namespace Go.Proofs.YtffcgajndmhpkaaGreatDoor
open Go.ChangeShapes Go.WideShapes Go.ChangeAt Go.RowKit Go.Sort
set_option linter.unusedVariables false
theorem Ew:∀ k:Fin 256,(Wx (k.val:Int) != -1)=inB (k.val:Int) 1 255:=by decide +kernel
theorem Ex (s:Int):(Wx s != -1)=inB s 1 255:=by
 cases h:inB s 0 255
 ·have hf:Wx s= -1:=by unfold Wx Rm;rw [MS h];rfl
  have h2:s<0\/255<s:=by
   rcases Int.lt_or_le s 0 with h1 | h1
   ·exact .inl h1
   ·rcases Int.lt_or_le 255 s with h2 | h2
    ·exact .inr h2
    ·rw [Zv h1 h2] at h;cases h
  rw [hf,U7 (by omega)];rfl
 ·obtain ⟨h0,h1⟩:=ZU h
  obtain ⟨n,rfl⟩:=Int.eq_ofNat_of_zero_le h0
  exact Ew ⟨n,by omega⟩
theorem Na {s f:Int} (h:Wx s=f) (w:World):Calls Tryz.prog 319 #[.int .i64 s] w fun e w'=>e= .returned (.int .i64 f)/\Below w.heap.size w w':=by
 have:=Pt s w;rw [h] at this;exact this
theorem EG (s:Int) (w:World):Calls Tryz.prog 313 #[.int .i64 s] w fun e w'=>e= .returned (.bool (inB s 1 255))/\Below w.heap.size w w':=by
 have hf:=Ex s
 obtain ⟨f,hv⟩:∃ f,Wx s=f:=⟨_,rfl⟩
 have Hv:=Z9 hv
 rw [hv] at hf
 have Hf:=Z9 hf
 clear hf hv
 go_enter Tryz.func313,Tryz.ntmps313
 go_wp2_with fail
 refine ck (Na (uh Hv) _) fun w1 hb=> ?_
 go_wp2_with fail
 go_ret
 exact ⟨Z5 (uh Hf),hb⟩
theorem JJ (c r:Int) (w:World):Calls Tryz.prog 314 #[.int .i64 c,.int .i64 r] w fun e w'=>e= .returned (.bool (inB c 0 (Zx r-1)))/\w'=w:=by
 obtain ⟨x,hv⟩:∃ x,Zx r=x:=⟨_,rfl⟩
 have Hv:=Z9 hv
 rw [hv]
 clear hv
 by_cases h0:0<=c
 ·by_cases h1:c<x
  ·rw [Zv (x:=c) (lo:=0) (hi:=x-1) h0 (by omega)]
   go_enter Tryz.func314,Tryz.ntmps314
   go_wp2_with (go_at_call 262;refine (SQ (uh Hv) _).mono ?_;rintro e w' ⟨rfl,rfl⟩)
   go_ret
   exact ⟨rfl,rfl⟩
  ·rw [U7 (x:=c) (lo:=0) (hi:=x-1) (by omega)]
   go_enter Tryz.func314,Tryz.ntmps314
   go_wp2_with (go_at_call 262;refine (SQ (uh Hv) _).mono ?_;rintro e w' ⟨rfl,rfl⟩)
   go_ret
   exact ⟨Z5 (b:=false) (by rw [decide_eq_false_iff_not];omega),rfl⟩
 ·rw [U7 (x:=c) (lo:=0) (hi:=x-1) (by omega)]
  go_enter Tryz.func314,Tryz.ntmps314
  go_wp2_with fail
  go_ret
  exact ⟨rfl,rfl⟩
theorem Ry (n:Int) (w:World):Calls Tryz.prog 310 #[.int .i64 n] w fun e w'=>e= .returned (.bool (inB n (-1000000000000) 1000000000000))/\w'=w:=by
 go_enter Tryz.func310,Tryz.ntmps310
 go_wp2_with (go_at_call 117;refine (ZD _ _ _ _).mono ?_;rintro e w' ⟨rfl,rfl⟩)
 go_ret
 exact ⟨rfl,rfl⟩
theorem Mm {c r:Int} {q:Bool} (h:inB c 0 (Zx r-1)=q) (w:World):Calls Tryz.prog 314 #[.int .i64 c,.int .i64 r] w fun e w'=>e= .returned (.bool q)/\w'=w:=by
 have:=JJ c r w;rw [h] at this;exact this
theorem Dh (x:Int):inB x 0 (0-1)=false:=by
 refine U7 ?_
 rcases Int.lt_or_le x 0 with h | h
 ·exact .inl h
 ·exact .inr (by omega)
theorem DF (st be rk my gu lo hi hd ca ut wk:Int):Zf (st,be,rk,my,gu,lo,hi,hd,ca,ut,wk)=(inB st 1 3 && (inB be 0 7 && (inB my 1 255 && (inB gu (-1) 5 && (YG lo hi && (inB hd (-1000000000000) 1000000000000 && (inB ca 0 (Zx rk-1) && (inB ut 0 1024 && (inB wk 0 100000000000))))))))):=by
 unfold Zf
 simp only
 cases hr:inB rk (-5) 5
 ·rw [WE hr,show inB ca 0 (0-1)=false from Dh ca]
  simp
 ·simp only [Bool.true_and]
theorem R7 (st be rk my gu lo hi hd ca ut wk:Int) (w:World):Calls Tryz.prog 296 #[.agg (I11 st be rk my gu lo hi hd ca ut wk)] w fun e w'=>e= .returned (.bool (Zf (st,be,rk,my,gu,lo,hi,hd,ca,ut,wk)))/\Below w.heap.size w w':=by
 rw [DF]
 obtain ⟨qc,hqc⟩:∃ q,inB ca 0 (Zx rk-1)=q:=⟨_,rfl⟩
 have Hc:=Z9 hqc
 rw [hqc]
 clear hqc
 cases h_st:inB st 1 3
 rotate_left
 cases h_be:inB be 0 7
 rotate_left
 cases h_my:inB my 1 255
 rotate_left
 cases h_gu:inB gu (-1) 5
 rotate_left
 cases h_pr:YG lo hi
 rotate_left
 cases h_hd:inB hd (-1000000000000) 1000000000000
 rotate_left
 cases qc
 rotate_left
 cases h_ut:inB ut 0 1024
 rotate_left
 cases h_wk:inB wk 0 100000000000
 all_goals
  go_enter Tryz.func296,Tryz.ntmps296
  go_wp2_with (first | (go_at_call 117;refine (ZD _ _ _ _).mono ?_;rintro e w' ⟨rfl,rfl⟩) | (go_at_call 221;refine (V0 _ _).mono ?_;rintro e w' ⟨rfl,rfl⟩) | (go_at_call 269;refine (UG _ _ _).mono ?_;rintro e w' ⟨rfl,rfl⟩) | (go_at_call 310;refine (Ry _ _).mono ?_;rintro e w' ⟨rfl,rfl⟩) | (go_at_call 314;refine (Mm (uh Hc) _).mono ?_;rintro e w' ⟨rfl,rfl⟩) | (go_at_call 265;refine (Oi _ _).mono ?_;rintro e w' ⟨rfl,rfl⟩))
  try
   refine ck (EG _ _) fun w1 hb=> ?_
   have c2:w1.cell? ⟨w.heap.size,2,none⟩=some (.int .i64 rk):=(hb.cell (p:=⟨w.heap.size,2,none⟩) (by simp)).trans (Zu _ rfl)
   have c4:w1.cell? ⟨w.heap.size,4,none⟩=some (.int .i64 gu):=(hb.cell (p:=⟨w.heap.size,4,none⟩) (by simp)).trans (Zu _ rfl)
   have c5:w1.cell? ⟨w.heap.size,5,none⟩=some (.int .i64 lo):=(hb.cell (p:=⟨w.heap.size,5,none⟩) (by simp)).trans (Zu _ rfl)
   have c6:w1.cell? ⟨w.heap.size,6,none⟩=some (.int .i64 hi):=(hb.cell (p:=⟨w.heap.size,6,none⟩) (by simp)).trans (Zu _ rfl)
   have c7:w1.cell? ⟨w.heap.size,7,none⟩=some (.int .i64 hd):=(hb.cell (p:=⟨w.heap.size,7,none⟩) (by simp)).trans (Zu _ rfl)
   have c8:w1.cell? ⟨w.heap.size,8,none⟩=some (.int .i64 ca):=(hb.cell (p:=⟨w.heap.size,8,none⟩) (by simp)).trans (Zu _ rfl)
   have c9:w1.cell? ⟨w.heap.size,9,none⟩=some (.int .i64 ut):=(hb.cell (p:=⟨w.heap.size,9,none⟩) (by simp)).trans (Zu _ rfl)
   have c10:w1.cell? ⟨w.heap.size,10,none⟩=some (.int .i64 wk):=(hb.cell (p:=⟨w.heap.size,10,none⟩) (by simp)).trans (Zu _ rfl)
   have Hb:=Z9 (((Below.refl w.heap.size w).alloc (Nat.le_refl _) _).trans (hb.mono (by simp)))
   clear hb
   go_wp2_with (first | (go_at_call 117;refine (ZD _ _ _ _).mono ?_;rintro e w' ⟨rfl,rfl⟩) | (go_at_call 221;refine (V0 _ _).mono ?_;rintro e w' ⟨rfl,rfl⟩) | (go_at_call 269;refine (UG _ _ _).mono ?_;rintro e w' ⟨rfl,rfl⟩) | (go_at_call 310;refine (Ry _ _).mono ?_;rintro e w' ⟨rfl,rfl⟩) | (go_at_call 314;refine (Mm (uh Hc) _).mono ?_;rintro e w' ⟨rfl,rfl⟩) | (go_at_call 265;refine (Oi _ _).mono ?_;rintro e w' ⟨rfl,rfl⟩))
  go_ret
  first | exact ⟨rfl,uh Hb⟩ | exact ⟨rfl,(ba _ _)⟩
end Go.Proofs.YtffcgajndmhpkaaGreatDoor
