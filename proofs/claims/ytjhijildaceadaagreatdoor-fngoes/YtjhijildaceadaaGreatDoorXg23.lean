/- Part 23 of what the proof rests on. No condition but those that a theorem names. -/
import Derived.Test.YtjhijildaceadaaGreatDoorXg16
import Derived.Test.YtjhijildaceadaaGreatDoorXg18
set_option maxHeartbeats 8000000
set_option maxRecDepth 100000
namespace Go.Proofs.YtjhijildaceadaaGreatDoor
open Go.ChangeShapes Go.WideShapes Go.ChangeAt Go.RowKit Go.Sort Go.Shelf
set_option linter.unusedVariables false
set_option linter.unusedSimpArgs false
set_option maxRecDepth 100000
variable {w w' w0 w1 w2 w3 w₀ wr W W' X A B C : World} {v v0 v1 v2 v3 v4 u u0 u1 u2 u3 u4 : Value} {m : Z4}
theorem LD {a0 a1 a2 a3 a4:Option Addr} {n0 n1 n2 n3 n4 p0 p1 p2 p3 p4:Nat} {now:Int} : Calls Tryz.prog 94 #[.agg #[.slice a0 n0 p0,.slice a1 n1 p1,.slice a2 n2 p2,.slice a3 n3 p3,.slice a4 n4 p4,.int .i64 now],.nilIface] W fun e w'=>e= .returned (.tuple #[.agg #[.slice a0 n0 p0,.slice a1 n1 p1,.slice a2 n2 p2,.slice a3 n3 p3,.slice a4 n4 p4,.int .i64 now],.int .i64 0])/\Below W.heap.size W w':=by
 have kb:Hid (Blk (((W.alloc (.cells #[.slice a0 n0 p0,.slice a1 n1 p1,.slice a2 n2 p2,.slice a3 n3 p3,.slice a4 n4 p4,.int .i64 now] 32)).alloc (.cells E6 32)).alloc (.cells #[.pointer none] 159)) W.heap.size 32 #[.slice a0 n0 p0,.slice a1 n1 p1,.slice a2 n2 p2,.slice a3 n3 p3,.slice a4 n4 p4,.int .i64 now]):=Z9 (((Blk.new W _ _).alloc _).alloc _)
 have kr:Hid (Blk (((W.alloc (.cells #[.slice a0 n0 p0,.slice a1 n1 p1,.slice a2 n2 p2,.slice a3 n3 p3,.slice a4 n4 p4,.int .i64 now] 32)).alloc (.cells E6 32)).alloc (.cells #[.pointer none] 159)) (W.heap.size+1) 32 E6):=Z9 (by
  have k:=Blk.new (W.alloc (.cells #[.slice a0 n0 p0,.slice a1 n1 p1,.slice a2 n2 p2,.slice a3 n3 p3,.slice a4 n4 p4,.int .i64 now] 32)) 32 E6
  rw [World.size_alloc] at k
  exact k.alloc _)
 have kv:Hid (Blk (((W.alloc (.cells #[.slice a0 n0 p0,.slice a1 n1 p1,.slice a2 n2 p2,.slice a3 n3 p3,.slice a4 n4 p4,.int .i64 now] 32)).alloc (.cells E6 32)).alloc (.cells #[.pointer none] 159)) (W.heap.size+1+1) 159 #[.pointer none]):=Z9 (by
  have k:=Blk.new ((W.alloc (.cells #[.slice a0 n0 p0,.slice a1 n1 p1,.slice a2 n2 p2,.slice a3 n3 p3,.slice a4 n4 p4,.int .i64 now] 32)).alloc (.cells E6 32)) 159 #[.pointer none]
  rw [World.size_alloc,World.size_alloc] at k
  exact k)
 have BB:Hid (Below W.heap.size W (((W.alloc (.cells #[.slice a0 n0 p0,.slice a1 n1 p1,.slice a2 n2 p2,.slice a3 n3 p3,.slice a4 n4 p4,.int .i64 now] 32)).alloc (.cells E6 32)).alloc (.cells #[.pointer none] 159))):=Z9 ((((Below.refl _ _).alloc (Nat.le_refl _) _).alloc (by simp) _).alloc (by simp;omega) _)
 have hsz:(((W.alloc (.cells #[.slice a0 n0 p0,.slice a1 n1 p1,.slice a2 n2 p2,.slice a3 n3 p3,.slice a4 n4 p4,.int .i64 now] 32)).alloc (.cells E6 32)).alloc (.cells #[.pointer none] 159)).heap.size=W.heap.size+1+1+1:=by simp
 go_enter Tryz.func94,Tryz.ntmps94
 go_wp2_with fail
 generalize (((W.alloc (.cells #[.slice a0 n0 p0,.slice a1 n1 p1,.slice a2 n2 p2,.slice a3 n3 p3,.slice a4 n4 p4,.int .i64 now] 32)).alloc (.cells E6 32)).alloc (.cells #[.pointer none] 159))=W1 at *
 refine (CB _ _).mono ?_
 rintro e w1 ⟨rfl,h9⟩
 subst w1
 obtain ⟨t0,t1,t2,t3,t4,t5⟩:=(uh kb).c6
 go_wp2_with fail
 refine ZS (S:=fun w'=>w'.cell? ⟨W.heap.size,0,none⟩=some (.slice a0 n0 p0)/\w'.cell? ⟨W.heap.size,1,none⟩=some (.slice a1 n1 p1)/\w'.cell? ⟨W.heap.size,2,none⟩=some (.slice a2 n2 p2)/\w'.cell? ⟨W.heap.size,3,none⟩=some (.slice a3 n3 p3)/\w'.cell? ⟨W.heap.size,4,none⟩=some (.slice a4 n4 p4)/\w'.cell? ⟨W.heap.size,5,none⟩=some (.int .i64 now)) (by kernel_rfl) (List.cons_ne_nil _ _) (by kernel_rfl) ⟨t0,t1,t2,t3,t4,t5⟩ (fun hHeld=> ?_)
 simp only [List.dropLast_cons_cons,List.dropLast_singleton,List.length_cons,List.length_nil,Nat.zero_add,Nat.reduceAdd]
 have hbd:Below W1.heap.size W1 W1.drew:=(Below.refl _ _).drew
 replace kr:=bl kr hbd
 replace BB:=bt BB hbd
 replace kb:=bl kb hbd
 clear t0 t1 t2 t3 t4 t5
 clear hbd
 generalize W1.drew=W5 at *
 obtain ⟨t0,t1,t2,t3,t4,t5⟩:=(uh kb).c6
 (refine tk 0 rfl (by assumption) ?_;(try simp only [Act.put,sA,sZ,sS]))
 (refine tk 1 rfl (by assumption) ?_;(try simp only [Act.put,sA,sZ,sS]))
 refine wpAnyH_ready (rs:=[2]) (by kernel_rfl) (by simp) ?_
 refine AllReadyH.cons rfl (fun K0 hK=> ?_) AllReadyH.nil
 go_simp
 refine (Iu _).mono ?_
 rintro e9 w9 ⟨rfl,h9⟩
 subst w9
 refine hK.out _ _ ⟨t0,t1,t2,t3,t4,t5⟩ (fun hHeld=> ?_)
 clear hK K0
 (try simp only [Act.put,sA,sZ,sS])
 obtain ⟨o0,o1,o2,o3,o4,o5⟩:=(uh kr).c6
 obtain ⟨f0,f1,f2,f3,f4,f5⟩:=(uh kr).f6
 have kbN:Blk ((((((W5.setCell ⟨W.heap.size+1,0,none⟩ (.slice a0 n0 p0)).setCell ⟨W.heap.size+1,1,none⟩ (.slice a1 n1 p1)).setCell ⟨W.heap.size+1,2,none⟩ (.slice a2 n2 p2)).setCell ⟨W.heap.size+1,3,none⟩ (.slice a3 n3 p3)).setCell ⟨W.heap.size+1,4,none⟩ (.slice a4 n4 p4)).setCell ⟨W.heap.size+1,5,none⟩ (.int .i64 now)) W.heap.size 32 #[.slice a0 n0 p0,.slice a1 n1 p1,.slice a2 n2 p2,.slice a3 n3 p3,.slice a4 n4 p4,.int .i64 now]:=(((((((uh kb).other (a:=⟨W.heap.size+1,0,none⟩) (by show W.heap.size ≠ W.heap.size+1;omega) (.slice a0 n0 p0)).other (a:=⟨W.heap.size+1,1,none⟩) (by show W.heap.size ≠ W.heap.size+1;omega) (.slice a1 n1 p1)).other (a:=⟨W.heap.size+1,2,none⟩) (by show W.heap.size ≠ W.heap.size+1;omega) (.slice a2 n2 p2)).other (a:=⟨W.heap.size+1,3,none⟩) (by show W.heap.size ≠ W.heap.size+1;omega) (.slice a3 n3 p3)).other (a:=⟨W.heap.size+1,4,none⟩) (by show W.heap.size ≠ W.heap.size+1;omega) (.slice a4 n4 p4)).other (a:=⟨W.heap.size+1,5,none⟩) (by show W.heap.size ≠ W.heap.size+1;omega) (.int .i64 now))
 refine wpAnyH_ready (rs:=[3]) (by kernel_rfl) (by simp) ?_
 refine AllReadyH.cons rfl (fun K0 hK=> ?_) AllReadyH.nil
 go_simp
 refine hK.out _ _ ⟨kbN.cell (i:=0) rfl,kbN.cell (i:=1) rfl,kbN.cell (i:=2) rfl,kbN.cell (i:=3) rfl,kbN.cell (i:=4) rfl,kbN.cell (i:=5) rfl⟩ (fun hHeld=> ?_)
 clear hK K0
 (try simp only [Act.put,sA,sZ,sS])
 refine wpAnyH_done (by kernel_rfl) ?_ _
 refine ZL rfl rfl ?_
 go_simp
 clear hHeld
 go_wp2_with fail
 refine bodyPost_ret (v:= .tuple #[.agg #[.slice a0 n0 p0,.slice a1 n1 p1,.slice a2 n2 p2,.slice a3 n3 p3,.slice a4 n4 p4,.int .i64 now],.int .i64 0]) (by simp [results,Tryz.results94,go_sem, *]) rfl ⟨rfl,?_⟩
 iterate 6 (refine Below.setCell ?_ (by show _<=W.heap.size+1;omega) _)
 exact uh BB
theorem NF {a0 a1 a2 a3 a4:Option Addr} {n0 n1 n2 n3 n4 p0 p1 p2 p3 p4:Nat} {now:Int} {q:Int->Addr} (he:Errs W q):Calls Tryz.prog 94 #[.agg #[.slice a0 n0 p0,.slice a1 n1 p1,.slice a2 n2 p2,.slice a3 n3 p3,.slice a4 n4 p4,.int .i64 now],XW (q 3)] W fun e w'=>e= .returned (.tuple #[.agg #[.slice a0 n0 p0,.slice a1 n1 p1,.slice a2 n2 p2,.slice a3 n3 p3,.slice a4 n4 p4,.int .i64 now],.int .i64 3])/\Below W.heap.size W w':=by
 have HE:=Z9 he
 clear he
 have kb:Hid (Blk (((W.alloc (.cells #[.slice a0 n0 p0,.slice a1 n1 p1,.slice a2 n2 p2,.slice a3 n3 p3,.slice a4 n4 p4,.int .i64 now] 32)).alloc (.cells E6 32)).alloc (.cells #[.pointer none] 159)) W.heap.size 32 #[.slice a0 n0 p0,.slice a1 n1 p1,.slice a2 n2 p2,.slice a3 n3 p3,.slice a4 n4 p4,.int .i64 now]):=Z9 (((Blk.new W _ _).alloc _).alloc _)
 have kr:Hid (Blk (((W.alloc (.cells #[.slice a0 n0 p0,.slice a1 n1 p1,.slice a2 n2 p2,.slice a3 n3 p3,.slice a4 n4 p4,.int .i64 now] 32)).alloc (.cells E6 32)).alloc (.cells #[.pointer none] 159)) (W.heap.size+1) 32 E6):=Z9 (by
  have k:=Blk.new (W.alloc (.cells #[.slice a0 n0 p0,.slice a1 n1 p1,.slice a2 n2 p2,.slice a3 n3 p3,.slice a4 n4 p4,.int .i64 now] 32)) 32 E6
  rw [World.size_alloc] at k
  exact k.alloc _)
 have kv:Hid (Blk (((W.alloc (.cells #[.slice a0 n0 p0,.slice a1 n1 p1,.slice a2 n2 p2,.slice a3 n3 p3,.slice a4 n4 p4,.int .i64 now] 32)).alloc (.cells E6 32)).alloc (.cells #[.pointer none] 159)) (W.heap.size+1+1) 159 #[.pointer none]):=Z9 (by
  have k:=Blk.new ((W.alloc (.cells #[.slice a0 n0 p0,.slice a1 n1 p1,.slice a2 n2 p2,.slice a3 n3 p3,.slice a4 n4 p4,.int .i64 now] 32)).alloc (.cells E6 32)) 159 #[.pointer none]
  rw [World.size_alloc,World.size_alloc] at k
  exact k)
 have BB:Hid (Below W.heap.size W (((W.alloc (.cells #[.slice a0 n0 p0,.slice a1 n1 p1,.slice a2 n2 p2,.slice a3 n3 p3,.slice a4 n4 p4,.int .i64 now] 32)).alloc (.cells E6 32)).alloc (.cells #[.pointer none] 159))):=Z9 ((((Below.refl _ _).alloc (Nat.le_refl _) _).alloc (by simp) _).alloc (by simp;omega) _)
 have hsz:(((W.alloc (.cells #[.slice a0 n0 p0,.slice a1 n1 p1,.slice a2 n2 p2,.slice a3 n3 p3,.slice a4 n4 p4,.int .i64 now] 32)).alloc (.cells E6 32)).alloc (.cells #[.pointer none] 159)).heap.size=W.heap.size+1+1+1:=by simp
 have HX:=Z9 ((uh HE).below (uh BB))
 go_enter Tryz.func94,Tryz.ntmps94
 go_wp2_with fail
 generalize (((W.alloc (.cells #[.slice a0 n0 p0,.slice a1 n1 p1,.slice a2 n2 p2,.slice a3 n3 p3,.slice a4 n4 p4,.int .i64 now] 32)).alloc (.cells E6 32)).alloc (.cells #[.pointer none] 159))=W1 at *
 refine (Cq (q 3) _ _ (uh HX).ct).mono ?_
 rintro e w1 ⟨rfl,hb⟩
 replace kb:=bl kb hb
 replace kr:=bl kr hb
 replace BB:=bt BB hb
 replace HX:=Z9 ((uh HX).below hb)
 clear hb
 obtain ⟨t0,t1,t2,t3,t4,t5⟩:=(uh kb).c6
 go_wp2_with fail
 refine ZS (S:=fun w'=>w'.cell? ⟨W.heap.size,0,none⟩=some (.slice a0 n0 p0)/\w'.cell? ⟨W.heap.size,1,none⟩=some (.slice a1 n1 p1)/\w'.cell? ⟨W.heap.size,2,none⟩=some (.slice a2 n2 p2)/\w'.cell? ⟨W.heap.size,3,none⟩=some (.slice a3 n3 p3)/\w'.cell? ⟨W.heap.size,4,none⟩=some (.slice a4 n4 p4)/\w'.cell? ⟨W.heap.size,5,none⟩=some (.int .i64 now)) (by kernel_rfl) (List.cons_ne_nil _ _) (by kernel_rfl) ⟨t0,t1,t2,t3,t4,t5⟩ (fun hHeld=> ?_)
 simp only [List.dropLast_cons_cons,List.dropLast_singleton,List.length_cons,List.length_nil,Nat.zero_add,Nat.reduceAdd]
 have hbd:Below w1.heap.size w1 w1.drew:=(Below.refl _ _).drew
 replace kr:=bl kr hbd
 replace BB:=bt BB hbd
 replace kb:=bl kb hbd
 clear t0 t1 t2 t3 t4 t5
 replace HX:=Z9 ((uh HX).below hbd)
 clear hbd
 generalize w1.drew=W5 at *
 obtain ⟨t0,t1,t2,t3,t4,t5⟩:=(uh kb).c6
 (refine tk 0 rfl (by assumption) ?_;(try simp only [Act.put,sA,sZ,sS]))
 (refine tk 1 rfl (by assumption) ?_;(try simp only [Act.put,sA,sZ,sS]))
 refine wpAnyH_ready (rs:=[2]) (by kernel_rfl) (by simp) ?_
 refine AllReadyH.cons rfl (fun K0 hK=> ?_) AllReadyH.nil
 go_simp
 refine (J3 (uh HX)).mono ?_
 rintro e9 w9 ⟨rfl,h9⟩
 subst w9
 refine hK.out _ _ ⟨t0,t1,t2,t3,t4,t5⟩ (fun hHeld=> ?_)
 clear hK K0
 (try simp only [Act.put,sA,sZ,sS])
 obtain ⟨o0,o1,o2,o3,o4,o5⟩:=(uh kr).c6
 obtain ⟨f0,f1,f2,f3,f4,f5⟩:=(uh kr).f6
 have kbN:Blk ((((((W5.setCell ⟨W.heap.size+1,0,none⟩ (.slice a0 n0 p0)).setCell ⟨W.heap.size+1,1,none⟩ (.slice a1 n1 p1)).setCell ⟨W.heap.size+1,2,none⟩ (.slice a2 n2 p2)).setCell ⟨W.heap.size+1,3,none⟩ (.slice a3 n3 p3)).setCell ⟨W.heap.size+1,4,none⟩ (.slice a4 n4 p4)).setCell ⟨W.heap.size+1,5,none⟩ (.int .i64 now)) W.heap.size 32 #[.slice a0 n0 p0,.slice a1 n1 p1,.slice a2 n2 p2,.slice a3 n3 p3,.slice a4 n4 p4,.int .i64 now]:=(((((((uh kb).other (a:=⟨W.heap.size+1,0,none⟩) (by show W.heap.size ≠ W.heap.size+1;omega) (.slice a0 n0 p0)).other (a:=⟨W.heap.size+1,1,none⟩) (by show W.heap.size ≠ W.heap.size+1;omega) (.slice a1 n1 p1)).other (a:=⟨W.heap.size+1,2,none⟩) (by show W.heap.size ≠ W.heap.size+1;omega) (.slice a2 n2 p2)).other (a:=⟨W.heap.size+1,3,none⟩) (by show W.heap.size ≠ W.heap.size+1;omega) (.slice a3 n3 p3)).other (a:=⟨W.heap.size+1,4,none⟩) (by show W.heap.size ≠ W.heap.size+1;omega) (.slice a4 n4 p4)).other (a:=⟨W.heap.size+1,5,none⟩) (by show W.heap.size ≠ W.heap.size+1;omega) (.int .i64 now))
 refine wpAnyH_ready (rs:=[3]) (by kernel_rfl) (by simp) ?_
 refine AllReadyH.cons rfl (fun K0 hK=> ?_) AllReadyH.nil
 go_simp
 refine hK.out _ _ ⟨kbN.cell (i:=0) rfl,kbN.cell (i:=1) rfl,kbN.cell (i:=2) rfl,kbN.cell (i:=3) rfl,kbN.cell (i:=4) rfl,kbN.cell (i:=5) rfl⟩ (fun hHeld=> ?_)
 clear hK K0
 (try simp only [Act.put,sA,sZ,sS])
 refine wpAnyH_done (by kernel_rfl) ?_ _
 refine ZL rfl rfl ?_
 go_simp
 clear hHeld
 go_wp2_with fail
 refine bodyPost_ret (v:= .tuple #[.agg #[.slice a0 n0 p0,.slice a1 n1 p1,.slice a2 n2 p2,.slice a3 n3 p3,.slice a4 n4 p4,.int .i64 now],.int .i64 3]) (by simp [results,Tryz.results94,go_sem, *]) rfl ⟨rfl,?_⟩
 iterate 6 (refine Below.setCell ?_ (by show _<=W.heap.size+1;omega) _)
 exact uh BB
theorem NG {a0 a1 a2 a3 a4:Option Addr} {n0 n1 n2 n3 n4 p0 p1 p2 p3 p4:Nat} {now:Int} {b0 b1 b2 b3 b4:Option Addr} {l0 l1 l2 l3 l4 r0 r1 r2 r3 r4:Nat} {nw:Int} {q:Int->Addr} (he:Errs W q) {p:Nat} {c:Int} (hcc:c=1\/c=2\/c=3\/c=4\/c=5) (hp:Blk W p 163 #[.slice b0 l0 r0,.slice b1 l1 r1,.slice b2 l2 r2,.slice b3 l3 r3,.slice b4 l4 r4,.int .i64 nw,XW (q c)]):Calls Tryz.prog 94 #[.agg #[.slice a0 n0 p0,.slice a1 n1 p1,.slice a2 n2 p2,.slice a3 n3 p3,.slice a4 n4 p4,.int .i64 now],R1 p] W fun e w'=>e= .returned (.tuple #[.agg #[.slice b0 l0 r0,.slice b1 l1 r1,.slice b2 l2 r2,.slice b3 l3 r3,.slice b4 l4 r4,.int .i64 nw],.int .i64 c])/\Below W.heap.size W w':=by
 have HE:=Z9 he
 have Hp:=Z9 hp
 clear he hp
 have kb:Hid (Blk (((W.alloc (.cells #[.slice a0 n0 p0,.slice a1 n1 p1,.slice a2 n2 p2,.slice a3 n3 p3,.slice a4 n4 p4,.int .i64 now] 32)).alloc (.cells E6 32)).alloc (.cells #[.pointer none] 159)) W.heap.size 32 #[.slice a0 n0 p0,.slice a1 n1 p1,.slice a2 n2 p2,.slice a3 n3 p3,.slice a4 n4 p4,.int .i64 now]):=Z9 (((Blk.new W _ _).alloc _).alloc _)
 have kr:Hid (Blk (((W.alloc (.cells #[.slice a0 n0 p0,.slice a1 n1 p1,.slice a2 n2 p2,.slice a3 n3 p3,.slice a4 n4 p4,.int .i64 now] 32)).alloc (.cells E6 32)).alloc (.cells #[.pointer none] 159)) (W.heap.size+1) 32 E6):=Z9 (by
  have k:=Blk.new (W.alloc (.cells #[.slice a0 n0 p0,.slice a1 n1 p1,.slice a2 n2 p2,.slice a3 n3 p3,.slice a4 n4 p4,.int .i64 now] 32)) 32 E6
  rw [World.size_alloc] at k
  exact k.alloc _)
 have kv:Hid (Blk (((W.alloc (.cells #[.slice a0 n0 p0,.slice a1 n1 p1,.slice a2 n2 p2,.slice a3 n3 p3,.slice a4 n4 p4,.int .i64 now] 32)).alloc (.cells E6 32)).alloc (.cells #[.pointer none] 159)) (W.heap.size+1+1) 159 #[.pointer none]):=Z9 (by
  have k:=Blk.new ((W.alloc (.cells #[.slice a0 n0 p0,.slice a1 n1 p1,.slice a2 n2 p2,.slice a3 n3 p3,.slice a4 n4 p4,.int .i64 now] 32)).alloc (.cells E6 32)) 159 #[.pointer none]
  rw [World.size_alloc,World.size_alloc] at k
  exact k)
 have BB:Hid (Below W.heap.size W (((W.alloc (.cells #[.slice a0 n0 p0,.slice a1 n1 p1,.slice a2 n2 p2,.slice a3 n3 p3,.slice a4 n4 p4,.int .i64 now] 32)).alloc (.cells E6 32)).alloc (.cells #[.pointer none] 159))):=Z9 ((((Below.refl _ _).alloc (Nat.le_refl _) _).alloc (by simp) _).alloc (by simp;omega) _)
 have hsz:(((W.alloc (.cells #[.slice a0 n0 p0,.slice a1 n1 p1,.slice a2 n2 p2,.slice a3 n3 p3,.slice a4 n4 p4,.int .i64 now] 32)).alloc (.cells E6 32)).alloc (.cells #[.pointer none] 159)).heap.size=W.heap.size+1+1+1:=by simp
 have HX:=Z9 ((uh HE).below (uh BB))
 have kp:=Z9 ((uh Hp).below (uh BB) (uh Hp).lt)
 go_enter Tryz.func94,Tryz.ntmps94
 go_wp2_with fail
 generalize (((W.alloc (.cells #[.slice a0 n0 p0,.slice a1 n1 p1,.slice a2 n2 p2,.slice a3 n3 p3,.slice a4 n4 p4,.int .i64 now] 32)).alloc (.cells E6 32)).alloc (.cells #[.pointer none] 159))=W1 at *
 refine (CC _ p _ (uh HX).ct ((uh kv).cell (i:=0) rfl) ((uh kv).free 0)).mono ?_
 rintro e w1 ⟨rfl,hc,hall⟩
 have hb:=hall (W.heap.size+1+1) (Nat.le_refl _) (by omega)
 have hpl:=(uh Hp).lt
 replace kb:=Z9 ((uh kb).below hb (by omega))
 replace kr:=Z9 ((uh kr).below hb (by omega))
 replace kp:=Z9 ((uh kp).below hb (by omega))
 have hE0:=(uh HE).below ((uh BB).trans (hb.mono (by omega)))
 replace BB:=Z9 ((uh BB).trans (hb.mono (by omega)))
 replace HX:=Z9 hE0
 clear hb hall hE0 kv hsz hpl
 obtain ⟨t0,t1,t2,t3,t4,t5⟩:w1.cell? ⟨p,0,none⟩=some (.slice b0 l0 r0)/\w1.cell? ⟨p,1,none⟩=some (.slice b1 l1 r1)/\w1.cell? ⟨p,2,none⟩=some (.slice b2 l2 r2)/\w1.cell? ⟨p,3,none⟩=some (.slice b3 l3 r3)/\w1.cell? ⟨p,4,none⟩=some (.slice b4 l4 r4)/\w1.cell? ⟨p,5,none⟩=some (.int .i64 nw):=⟨(uh kp).cell (i:=0) rfl,(uh kp).cell (i:=1) rfl,(uh kp).cell (i:=2) rfl,(uh kp).cell (i:=3) rfl,(uh kp).cell (i:=4) rfl,(uh kp).cell (i:=5) rfl⟩
 go_wp2_with fail
 refine ZS (S:=fun w'=>w'.cell? ⟨W.heap.size+1+1,0,none⟩=some (.pointer (some ⟨p,0,none⟩))/\w'.cell? ⟨p,0,none⟩=some (.slice b0 l0 r0)/\w'.cell? ⟨p,1,none⟩=some (.slice b1 l1 r1)/\w'.cell? ⟨p,2,none⟩=some (.slice b2 l2 r2)/\w'.cell? ⟨p,3,none⟩=some (.slice b3 l3 r3)/\w'.cell? ⟨p,4,none⟩=some (.slice b4 l4 r4)/\w'.cell? ⟨p,5,none⟩=some (.int .i64 nw)) (by kernel_rfl) (List.cons_ne_nil _ _) (by kernel_rfl) ⟨hc,t0,t1,t2,t3,t4,t5⟩ (fun hHeld=> ?_)
 simp only [List.dropLast_cons_cons,List.dropLast_singleton,List.length_cons,List.length_nil,Nat.zero_add,Nat.reduceAdd]
 have hbd:Below w1.heap.size w1 w1.drew:=(Below.refl _ _).drew
 replace kr:=bl kr hbd
 replace BB:=bt BB hbd
 replace kp:=bl kp hbd
 replace hc:=(hbd.cell (World.block_lt_of_cell? _ _ hc)).trans hc
 replace HX:=Z9 ((uh HX).below hbd)
 clear t0 t1 t2 t3 t4 t5
 clear hbd
 generalize w1.drew=W5 at *
 obtain ⟨t0,t1,t2,t3,t4,t5⟩:W5.cell? ⟨p,0,none⟩=some (.slice b0 l0 r0)/\W5.cell? ⟨p,1,none⟩=some (.slice b1 l1 r1)/\W5.cell? ⟨p,2,none⟩=some (.slice b2 l2 r2)/\W5.cell? ⟨p,3,none⟩=some (.slice b3 l3 r3)/\W5.cell? ⟨p,4,none⟩=some (.slice b4 l4 r4)/\W5.cell? ⟨p,5,none⟩=some (.int .i64 nw):=⟨(uh kp).cell (i:=0) rfl,(uh kp).cell (i:=1) rfl,(uh kp).cell (i:=2) rfl,(uh kp).cell (i:=3) rfl,(uh kp).cell (i:=4) rfl,(uh kp).cell (i:=5) rfl⟩
 (refine tk 0 rfl (by assumption) ?_;(try simp only [Act.put,sA,sZ,sS]))
 (refine tk 1 rfl (by assumption) ?_;(try simp only [Act.put,sA,sZ,sS]))
 (refine tk 2 rfl (by assumption) ?_;(try simp only [Act.put,sA,sZ,sS]))
 (refine tk 3 rfl (by assumption) ?_;(try simp only [Act.put,sA,sZ,sS]))
 (refine tk 4 rfl (by assumption) ?_;(try simp only [Act.put,sA,sZ,sS]))
 refine wpAnyH_ready (rs:=[5]) (by kernel_rfl) (by simp) ?_
 refine AllReadyH.cons rfl (fun K0 hK=> ?_) AllReadyH.nil
 go_simp
 refine (J4 hcc p (uh HX) ((uh kp).cell (i:=6) rfl)).mono ?_
 rintro e9 w9 ⟨rfl,h9⟩
 subst w9
 refine hK.out _ _ ⟨hc,t0,t1,t2,t3,t4,t5⟩ (fun hHeld=> ?_)
 clear hK K0
 (try simp only [Act.put,sA,sZ,sS])
 obtain ⟨o0,o1,o2,o3,o4,o5⟩:=(uh kr).c6
 obtain ⟨f0,f1,f2,f3,f4,f5⟩:=(uh kr).f6
 have hpl:=(uh Hp).lt
 have hne:p ≠ W.heap.size+1:=by omega
 have hcN:((((((W5.setCell ⟨W.heap.size+1,0,none⟩ (.slice b0 l0 r0)).setCell ⟨W.heap.size+1,1,none⟩ (.slice b1 l1 r1)).setCell ⟨W.heap.size+1,2,none⟩ (.slice b2 l2 r2)).setCell ⟨W.heap.size+1,3,none⟩ (.slice b3 l3 r3)).setCell ⟨W.heap.size+1,4,none⟩ (.slice b4 l4 r4)).setCell ⟨W.heap.size+1,5,none⟩ (.int .i64 nw)).cell? ⟨W.heap.size+1+1,0,none⟩=some (.pointer (some ⟨p,0,none⟩)):=by
  rw [World.cell?_setCell_far _ _ _ _ (by show W.heap.size+1 ≠ W.heap.size+1+1;omega),World.cell?_setCell_far _ _ _ _ (by show W.heap.size+1 ≠ W.heap.size+1+1;omega),World.cell?_setCell_far _ _ _ _ (by show W.heap.size+1 ≠ W.heap.size+1+1;omega),World.cell?_setCell_far _ _ _ _ (by show W.heap.size+1 ≠ W.heap.size+1+1;omega),World.cell?_setCell_far _ _ _ _ (by show W.heap.size+1 ≠ W.heap.size+1+1;omega),World.cell?_setCell_far _ _ _ _ (by show W.heap.size+1 ≠ W.heap.size+1+1;omega)]
  exact hc
 have kpN:Blk ((((((W5.setCell ⟨W.heap.size+1,0,none⟩ (.slice b0 l0 r0)).setCell ⟨W.heap.size+1,1,none⟩ (.slice b1 l1 r1)).setCell ⟨W.heap.size+1,2,none⟩ (.slice b2 l2 r2)).setCell ⟨W.heap.size+1,3,none⟩ (.slice b3 l3 r3)).setCell ⟨W.heap.size+1,4,none⟩ (.slice b4 l4 r4)).setCell ⟨W.heap.size+1,5,none⟩ (.int .i64 nw)) p 163 #[.slice b0 l0 r0,.slice b1 l1 r1,.slice b2 l2 r2,.slice b3 l3 r3,.slice b4 l4 r4,.int .i64 nw,XW (q c)]:=(((((((uh kp).other (a:=⟨W.heap.size+1,0,none⟩) hne (.slice b0 l0 r0)).other (a:=⟨W.heap.size+1,1,none⟩) hne (.slice b1 l1 r1)).other (a:=⟨W.heap.size+1,2,none⟩) hne (.slice b2 l2 r2)).other (a:=⟨W.heap.size+1,3,none⟩) hne (.slice b3 l3 r3)).other (a:=⟨W.heap.size+1,4,none⟩) hne (.slice b4 l4 r4)).other (a:=⟨W.heap.size+1,5,none⟩) hne (.int .i64 nw))
 refine wpAnyH_ready (rs:=[6]) (by kernel_rfl) (by simp) ?_
 refine AllReadyH.cons rfl (fun K0 hK=> ?_) AllReadyH.nil
 go_simp
 refine hK.out _ _ ⟨hcN,kpN.cell (i:=0) rfl,kpN.cell (i:=1) rfl,kpN.cell (i:=2) rfl,kpN.cell (i:=3) rfl,kpN.cell (i:=4) rfl,kpN.cell (i:=5) rfl⟩ (fun hHeld=> ?_)
 clear hK K0
 (try simp only [Act.put,sA,sZ,sS])
 refine wpAnyH_done (by kernel_rfl) ?_ _
 refine ZL rfl rfl ?_
 go_simp
 clear hHeld
 go_wp2_with fail
 refine bodyPost_ret (v:= .tuple #[.agg #[.slice b0 l0 r0,.slice b1 l1 r1,.slice b2 l2 r2,.slice b3 l3 r3,.slice b4 l4 r4,.int .i64 nw],.int .i64 c]) (by simp [results,Tryz.results94,go_sem, *]) rfl ⟨rfl,?_⟩
 iterate 6 (refine Below.setCell ?_ (by show _<=W.heap.size+1;omega) _)
 exact uh BB
def Tr (w:World) (q:Int->Addr) (m X:Z4) (c:Int) (e:Ending) (w':World):Prop:=
 Below w.heap.size w w'/\((ZP m=false/\e= .returned (.tuple #[.agg E6,XW (q 3)]))\/(ZP m=true/\c=0/\ ∃ a0 p0 a1 p1 a2 p2 a3 p3 a4 p4 rs,e= .returned (.tuple #[.agg #[.slice a0 (ZE X).rooms.length p0,.slice a1 (ZE X).guilds.length p1,.slice a2 (ZE X).smiths.length p2,.slice a3 (ZE X).desks.length p3,.slice a4 (ZE X).paces.length p4,.int .i64 (ZE X).now],.nilIface])/\FullSmy w.heap.size w' (.slice a0 (ZE X).rooms.length p0) (.slice a1 (ZE X).guilds.length p1) (.slice a2 (ZE X).smiths.length p2) (.slice a3 (ZE X).desks.length p3) (.slice a4 (ZE X).paces.length p4) (ZE X) rs)\/(ZP m=true/\(c=1\/c=2\/c=3\/c=4\/c=5)/\ ∃ p a0 p0 a1 p1 a2 p2 a3 p3 a4 p4 rs,e= .returned (.tuple #[.agg E6,R1 p])/\Blk w' p 163 #[.slice a0 m.rooms.length p0,.slice a1 m.guilds.length p1,.slice a2 m.smiths.length p2,.slice a3 m.desks.length p3,.slice a4 m.paces.length p4,.int .i64 m.now,XW (q c)]/\FullSmy w.heap.size w' (.slice a0 m.rooms.length p0) (.slice a1 m.guilds.length p1) (.slice a2 m.smiths.length p2) (.slice a3 m.desks.length p3) (.slice a4 m.paces.length p4) m rs))
theorem WU {n:Nat}  {qs:List (Z2 × Value)} (h:FullSmy n w v0 v1 v2 v3 v4 m qs):∃ a0 p0 a1 p1 a2 p2 a3 p3 a4 p4,v0= .slice a0 m.rooms.length p0/\v1= .slice a1 m.guilds.length p1/\v2= .slice a2 m.smiths.length p2/\v3= .slice a3 m.desks.length p3/\v4= .slice a4 m.paces.length p4:=by
 obtain ⟨a0,p0,a1,p1,a2,p2,a3,p3,a4,p4,e0,e1,e2,e3,e4,_⟩:=h.smy.five
 exact ⟨a0,p0,a1,p1,a2,p2,a3,p3,a4,p4,e0,e1,e2,e3,e4⟩
end Go.Proofs.YtjhijildaceadaaGreatDoor
