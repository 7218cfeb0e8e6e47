/- Part 36 of what the proof rests on. No condition but those that a theorem names. -/
import Derived.Test.YthbbahagpmdooaaGreatDoorXw35
set_option maxHeartbeats 8000000
set_option maxRecDepth 100000
namespace Go.Proofs.YthbbahagpmdooaaGreatDoor
open Go.ChangeShapes Go.WideShapes Go.ChangeAt Go.RowKit Go.Sort Go.Shelf
set_option linter.unusedVariables false
set_option linter.unusedSimpArgs false
set_option maxRecDepth 100000
theorem told_nil {a0 a1 a2 a3 a4 : Option Addr} {n0 n1 n2 n3 n4 p0 p1 p2 p3 p4 : Nat} {now : Int} {W : World} : Calls Tryz.prog 39 #[.agg #[.slice a0 n0 p0, .slice a1 n1 p1, .slice a2 n2 p2, .slice a3 n3 p3, .slice a4 n4 p4, .int .i64 now], .nilIface] W fun e w' => e = .returned (.tuple #[.agg #[.slice a0 n0 p0, .slice a1 n1 p1, .slice a2 n2 p2, .slice a3 n3 p3, .slice a4 n4 p4, .int .i64 now], .int .i64 0]) ∧ Below W.heap.size W w' := by
 have kb : Hid (Blk (((W.alloc (.cells #[.slice a0 n0 p0, .slice a1 n1 p1, .slice a2 n2 p2, .slice a3 n3 p3, .slice a4 n4 p4, .int .i64 now] 32)).alloc (.cells #[.slice none 0 0, .slice none 0 0, .slice none 0 0, .slice none 0 0, .slice none 0 0, .int .i64 0] 32)).alloc (.cells #[.pointer none] 112)) W.heap.size 32 #[.slice a0 n0 p0, .slice a1 n1 p1, .slice a2 n2 p2, .slice a3 n3 p3, .slice a4 n4 p4, .int .i64 now]) := hide (((Blk.new W _ _).alloc _).alloc _)
 have kr : Hid (Blk (((W.alloc (.cells #[.slice a0 n0 p0, .slice a1 n1 p1, .slice a2 n2 p2, .slice a3 n3 p3, .slice a4 n4 p4, .int .i64 now] 32)).alloc (.cells #[.slice none 0 0, .slice none 0 0, .slice none 0 0, .slice none 0 0, .slice none 0 0, .int .i64 0] 32)).alloc (.cells #[.pointer none] 112)) (W.heap.size + 1) 32 #[.slice none 0 0, .slice none 0 0, .slice none 0 0, .slice none 0 0, .slice none 0 0, .int .i64 0]) := hide (by
  have k := Blk.new (W.alloc (.cells #[.slice a0 n0 p0, .slice a1 n1 p1, .slice a2 n2 p2, .slice a3 n3 p3, .slice a4 n4 p4, .int .i64 now] 32)) 32 #[.slice none 0 0, .slice none 0 0, .slice none 0 0, .slice none 0 0, .slice none 0 0, .int .i64 0]
  rw [World.size_alloc] at k
  exact k.alloc _)
 have kv : Hid (Blk (((W.alloc (.cells #[.slice a0 n0 p0, .slice a1 n1 p1, .slice a2 n2 p2, .slice a3 n3 p3, .slice a4 n4 p4, .int .i64 now] 32)).alloc (.cells #[.slice none 0 0, .slice none 0 0, .slice none 0 0, .slice none 0 0, .slice none 0 0, .int .i64 0] 32)).alloc (.cells #[.pointer none] 112)) (W.heap.size + 1 + 1) 112 #[.pointer none]) := hide (by
  have k := Blk.new ((W.alloc (.cells #[.slice a0 n0 p0, .slice a1 n1 p1, .slice a2 n2 p2, .slice a3 n3 p3, .slice a4 n4 p4, .int .i64 now] 32)).alloc (.cells #[.slice none 0 0, .slice none 0 0, .slice none 0 0, .slice none 0 0, .slice none 0 0, .int .i64 0] 32)) 112 #[.pointer none]
  rw [World.size_alloc, World.size_alloc] at k
  exact k)
 have BB : Hid (Below W.heap.size W (((W.alloc (.cells #[.slice a0 n0 p0, .slice a1 n1 p1, .slice a2 n2 p2, .slice a3 n3 p3, .slice a4 n4 p4, .int .i64 now] 32)).alloc (.cells #[.slice none 0 0, .slice none 0 0, .slice none 0 0, .slice none 0 0, .slice none 0 0, .int .i64 0] 32)).alloc (.cells #[.pointer none] 112))) := hide ((((Below.refl _ _).alloc (Nat.le_refl _) _).alloc (by simp) _).alloc (by simp; omega) _)
 have hsz : (((W.alloc (.cells #[.slice a0 n0 p0, .slice a1 n1 p1, .slice a2 n2 p2, .slice a3 n3 p3, .slice a4 n4 p4, .int .i64 now] 32)).alloc (.cells #[.slice none 0 0, .slice none 0 0, .slice none 0 0, .slice none 0 0, .slice none 0 0, .int .i64 0] 32)).alloc (.cells #[.pointer none] 112)).heap.size = W.heap.size + 1 + 1 + 1 := by simp
 go_enter Tryz.func39, Tryz.ntmps39
 go_wp2_with fail
 generalize (((W.alloc (.cells #[.slice a0 n0 p0, .slice a1 n1 p1, .slice a2 n2 p2, .slice a3 n3 p3, .slice a4 n4 p4, .int .i64 now] 32)).alloc (.cells #[.slice none 0 0, .slice none 0 0, .slice none 0 0, .slice none 0 0, .slice none 0 0, .int .i64 0] 32)).alloc (.cells #[.pointer none] 112)) = W1 at *
 refine (as_nil _ _).mono ?_
 rintro e w1 ⟨rfl, h9⟩
 subst w1
 obtain ⟨t0, t1, t2, t3, t4, t5⟩ := (uh kb).c6
 go_wp2_with fail
 refine wp_region_last (S := fun w' => w'.cell? ⟨W.heap.size, 0, none⟩ = some (.slice a0 n0 p0) ∧ w'.cell? ⟨W.heap.size, 1, none⟩ = some (.slice a1 n1 p1) ∧ w'.cell? ⟨W.heap.size, 2, none⟩ = some (.slice a2 n2 p2) ∧ w'.cell? ⟨W.heap.size, 3, none⟩ = some (.slice a3 n3 p3) ∧ w'.cell? ⟨W.heap.size, 4, none⟩ = some (.slice a4 n4 p4) ∧ w'.cell? ⟨W.heap.size, 5, none⟩ = some (.int .i64 now)) (by kernel_rfl) (List.cons_ne_nil _ _) (by kernel_rfl) ⟨t0, t1, t2, t3, t4, t5⟩ (fun hHeld => ?_)
 simp only [List.dropLast_cons_cons, List.dropLast_singleton, List.length_cons, List.length_nil, Nat.zero_add, Nat.reduceAdd]
 have hbd : Below W1.heap.size W1 W1.drew := (Below.refl _ _).drew
 replace kr := bl kr hbd
 replace BB := bt BB hbd
 replace kb := bl kb hbd
 clear t0 t1 t2 t3 t4 t5
 clear hbd
 generalize W1.drew = W5 at *
 obtain ⟨t0, t1, t2, t3, t4, t5⟩ := (uh kb).c6
 (refine tk 0 rfl (by assumption) ?_; (try simp only [Act.put, sA, sZ, sS]))
 (refine tk 1 rfl (by assumption) ?_; (try simp only [Act.put, sA, sZ, sS]))
 refine wpAnyH_ready (rs := [2]) (by kernel_rfl) (by simp) ?_
 refine AllReadyH.cons rfl (fun K0 hK => ?_) AllReadyH.nil
 go_simp
 refine (codeOf_nil _).mono ?_
 rintro e9 w9 ⟨rfl, h9⟩
 subst w9
 refine hK.out _ _ ⟨t0, t1, t2, t3, t4, t5⟩ (fun hHeld => ?_)
 clear hK K0
 (try simp only [Act.put, sA, sZ, sS])
 obtain ⟨o0, o1, o2, o3, o4, o5⟩ := (uh kr).c6
 obtain ⟨f0, f1, f2, f3, f4, f5⟩ := (uh kr).f6
 have kbN : Blk ((((((W5.setCell ⟨W.heap.size + 1, 0, none⟩ (.slice a0 n0 p0)).setCell ⟨W.heap.size + 1, 1, none⟩ (.slice a1 n1 p1)).setCell ⟨W.heap.size + 1, 2, none⟩ (.slice a2 n2 p2)).setCell ⟨W.heap.size + 1, 3, none⟩ (.slice a3 n3 p3)).setCell ⟨W.heap.size + 1, 4, none⟩ (.slice a4 n4 p4)).setCell ⟨W.heap.size + 1, 5, none⟩ (.int .i64 now)) W.heap.size 32 #[.slice a0 n0 p0, .slice a1 n1 p1, .slice a2 n2 p2, .slice a3 n3 p3, .slice a4 n4 p4, .int .i64 now] := (((((((uh kb).other (a := ⟨W.heap.size + 1, 0, none⟩) (by show W.heap.size ≠ W.heap.size + 1; omega) (.slice a0 n0 p0)).other (a := ⟨W.heap.size + 1, 1, none⟩) (by show W.heap.size ≠ W.heap.size + 1; omega) (.slice a1 n1 p1)).other (a := ⟨W.heap.size + 1, 2, none⟩) (by show W.heap.size ≠ W.heap.size + 1; omega) (.slice a2 n2 p2)).other (a := ⟨W.heap.size + 1, 3, none⟩) (by show W.heap.size ≠ W.heap.size + 1; omega) (.slice a3 n3 p3)).other (a := ⟨W.heap.size + 1, 4, none⟩) (by show W.heap.size ≠ W.heap.size + 1; omega) (.slice a4 n4 p4)).other (a := ⟨W.heap.size + 1, 5, none⟩) (by show W.heap.size ≠ W.heap.size + 1; omega) (.int .i64 now))
 refine wpAnyH_ready (rs := [3]) (by kernel_rfl) (by simp) ?_
 refine AllReadyH.cons rfl (fun K0 hK => ?_) AllReadyH.nil
 go_simp
 refine hK.out _ _ ⟨kbN.cell (i := 0) rfl, kbN.cell (i := 1) rfl, kbN.cell (i := 2) rfl, kbN.cell (i := 3) rfl, kbN.cell (i := 4) rfl, kbN.cell (i := 5) rfl⟩ (fun hHeld => ?_)
 clear hK K0
 (try simp only [Act.put, sA, sZ, sS])
 refine wpAnyH_done (by kernel_rfl) ?_ _
 refine tailQ_run rfl rfl ?_
 go_simp
 clear hHeld
 go_wp2_with fail
 refine bodyPost_ret (v := .tuple #[.agg #[.slice a0 n0 p0, .slice a1 n1 p1, .slice a2 n2 p2, .slice a3 n3 p3, .slice a4 n4 p4, .int .i64 now], .int .i64 0]) (by simp [results, Tryz.results39, go_sem, *]) rfl ⟨rfl, ?_⟩
 iterate 6 (refine Below.setCell ?_ (by show _ ≤ W.heap.size + 1; omega) _)
 exact uh BB
theorem told_bare {a0 a1 a2 a3 a4 : Option Addr} {n0 n1 n2 n3 n4 p0 p1 p2 p3 p4 : Nat} {now : Int} {W : World} {q : Int → Addr} (he : Errs W q) : Calls Tryz.prog 39 #[.agg #[.slice a0 n0 p0, .slice a1 n1 p1, .slice a2 n2 p2, .slice a3 n3 p3, .slice a4 n4 p4, .int .i64 now], sent (q 3)] W fun e w' => e = .returned (.tuple #[.agg #[.slice a0 n0 p0, .slice a1 n1 p1, .slice a2 n2 p2, .slice a3 n3 p3, .slice a4 n4 p4, .int .i64 now], .int .i64 3]) ∧ Below W.heap.size W w' := by
 have HE := hide he
 clear he
 have kb : Hid (Blk (((W.alloc (.cells #[.slice a0 n0 p0, .slice a1 n1 p1, .slice a2 n2 p2, .slice a3 n3 p3, .slice a4 n4 p4, .int .i64 now] 32)).alloc (.cells #[.slice none 0 0, .slice none 0 0, .slice none 0 0, .slice none 0 0, .slice none 0 0, .int .i64 0] 32)).alloc (.cells #[.pointer none] 112)) W.heap.size 32 #[.slice a0 n0 p0, .slice a1 n1 p1, .slice a2 n2 p2, .slice a3 n3 p3, .slice a4 n4 p4, .int .i64 now]) := hide (((Blk.new W _ _).alloc _).alloc _)
 have kr : Hid (Blk (((W.alloc (.cells #[.slice a0 n0 p0, .slice a1 n1 p1, .slice a2 n2 p2, .slice a3 n3 p3, .slice a4 n4 p4, .int .i64 now] 32)).alloc (.cells #[.slice none 0 0, .slice none 0 0, .slice none 0 0, .slice none 0 0, .slice none 0 0, .int .i64 0] 32)).alloc (.cells #[.pointer none] 112)) (W.heap.size + 1) 32 #[.slice none 0 0, .slice none 0 0, .slice none 0 0, .slice none 0 0, .slice none 0 0, .int .i64 0]) := hide (by
  have k := Blk.new (W.alloc (.cells #[.slice a0 n0 p0, .slice a1 n1 p1, .slice a2 n2 p2, .slice a3 n3 p3, .slice a4 n4 p4, .int .i64 now] 32)) 32 #[.slice none 0 0, .slice none 0 0, .slice none 0 0, .slice none 0 0, .slice none 0 0, .int .i64 0]
  rw [World.size_alloc] at k
  exact k.alloc _)
 have kv : Hid (Blk (((W.alloc (.cells #[.slice a0 n0 p0, .slice a1 n1 p1, .slice a2 n2 p2, .slice a3 n3 p3, .slice a4 n4 p4, .int .i64 now] 32)).alloc (.cells #[.slice none 0 0, .slice none 0 0, .slice none 0 0, .slice none 0 0, .slice none 0 0, .int .i64 0] 32)).alloc (.cells #[.pointer none] 112)) (W.heap.size + 1 + 1) 112 #[.pointer none]) := hide (by
  have k := Blk.new ((W.alloc (.cells #[.slice a0 n0 p0, .slice a1 n1 p1, .slice a2 n2 p2, .slice a3 n3 p3, .slice a4 n4 p4, .int .i64 now] 32)).alloc (.cells #[.slice none 0 0, .slice none 0 0, .slice none 0 0, .slice none 0 0, .slice none 0 0, .int .i64 0] 32)) 112 #[.pointer none]
  rw [World.size_alloc, World.size_alloc] at k
  exact k)
 have BB : Hid (Below W.heap.size W (((W.alloc (.cells #[.slice a0 n0 p0, .slice a1 n1 p1, .slice a2 n2 p2, .slice a3 n3 p3, .slice a4 n4 p4, .int .i64 now] 32)).alloc (.cells #[.slice none 0 0, .slice none 0 0, .slice none 0 0, .slice none 0 0, .slice none 0 0, .int .i64 0] 32)).alloc (.cells #[.pointer none] 112))) := hide ((((Below.refl _ _).alloc (Nat.le_refl _) _).alloc (by simp) _).alloc (by simp; omega) _)
 have hsz : (((W.alloc (.cells #[.slice a0 n0 p0, .slice a1 n1 p1, .slice a2 n2 p2, .slice a3 n3 p3, .slice a4 n4 p4, .int .i64 now] 32)).alloc (.cells #[.slice none 0 0, .slice none 0 0, .slice none 0 0, .slice none 0 0, .slice none 0 0, .int .i64 0] 32)).alloc (.cells #[.pointer none] 112)).heap.size = W.heap.size + 1 + 1 + 1 := by simp
 have HX := hide ((uh HE).below (uh BB))
 go_enter Tryz.func39, Tryz.ntmps39
 go_wp2_with fail
 generalize (((W.alloc (.cells #[.slice a0 n0 p0, .slice a1 n1 p1, .slice a2 n2 p2, .slice a3 n3 p3, .slice a4 n4 p4, .int .i64 now] 32)).alloc (.cells #[.slice none 0 0, .slice none 0 0, .slice none 0 0, .slice none 0 0, .slice none 0 0, .int .i64 0] 32)).alloc (.cells #[.pointer none] 112)) = W1 at *
 refine (as_no (q 3) _ _ (uh HX).ct).mono ?_
 rintro e w1 ⟨rfl, hb⟩
 replace kb := bl kb hb
 replace kr := bl kr hb
 replace BB := bt BB hb
 replace HX := hide ((uh HX).below hb)
 clear hb
 obtain ⟨t0, t1, t2, t3, t4, t5⟩ := (uh kb).c6
 go_wp2_with fail
 refine wp_region_last (S := fun w' => w'.cell? ⟨W.heap.size, 0, none⟩ = some (.slice a0 n0 p0) ∧ w'.cell? ⟨W.heap.size, 1, none⟩ = some (.slice a1 n1 p1) ∧ w'.cell? ⟨W.heap.size, 2, none⟩ = some (.slice a2 n2 p2) ∧ w'.cell? ⟨W.heap.size, 3, none⟩ = some (.slice a3 n3 p3) ∧ w'.cell? ⟨W.heap.size, 4, none⟩ = some (.slice a4 n4 p4) ∧ w'.cell? ⟨W.heap.size, 5, none⟩ = some (.int .i64 now)) (by kernel_rfl) (List.cons_ne_nil _ _) (by kernel_rfl) ⟨t0, t1, t2, t3, t4, t5⟩ (fun hHeld => ?_)
 simp only [List.dropLast_cons_cons, List.dropLast_singleton, List.length_cons, List.length_nil, Nat.zero_add, Nat.reduceAdd]
 have hbd : Below w1.heap.size w1 w1.drew := (Below.refl _ _).drew
 replace kr := bl kr hbd
 replace BB := bt BB hbd
 replace kb := bl kb hbd
 clear t0 t1 t2 t3 t4 t5
 replace HX := hide ((uh HX).below hbd)
 clear hbd
 generalize w1.drew = W5 at *
 obtain ⟨t0, t1, t2, t3, t4, t5⟩ := (uh kb).c6
 (refine tk 0 rfl (by assumption) ?_; (try simp only [Act.put, sA, sZ, sS]))
 (refine tk 1 rfl (by assumption) ?_; (try simp only [Act.put, sA, sZ, sS]))
 refine wpAnyH_ready (rs := [2]) (by kernel_rfl) (by simp) ?_
 refine AllReadyH.cons rfl (fun K0 hK => ?_) AllReadyH.nil
 go_simp
 refine (codeOf_bare (uh HX)).mono ?_
 rintro e9 w9 ⟨rfl, h9⟩
 subst w9
 refine hK.out _ _ ⟨t0, t1, t2, t3, t4, t5⟩ (fun hHeld => ?_)
 clear hK K0
 (try simp only [Act.put, sA, sZ, sS])
 obtain ⟨o0, o1, o2, o3, o4, o5⟩ := (uh kr).c6
 obtain ⟨f0, f1, f2, f3, f4, f5⟩ := (uh kr).f6
 have kbN : Blk ((((((W5.setCell ⟨W.heap.size + 1, 0, none⟩ (.slice a0 n0 p0)).setCell ⟨W.heap.size + 1, 1, none⟩ (.slice a1 n1 p1)).setCell ⟨W.heap.size + 1, 2, none⟩ (.slice a2 n2 p2)).setCell ⟨W.heap.size + 1, 3, none⟩ (.slice a3 n3 p3)).setCell ⟨W.heap.size + 1, 4, none⟩ (.slice a4 n4 p4)).setCell ⟨W.heap.size + 1, 5, none⟩ (.int .i64 now)) W.heap.size 32 #[.slice a0 n0 p0, .slice a1 n1 p1, .slice a2 n2 p2, .slice a3 n3 p3, .slice a4 n4 p4, .int .i64 now] := (((((((uh kb).other (a := ⟨W.heap.size + 1, 0, none⟩) (by show W.heap.size ≠ W.heap.size + 1; omega) (.slice a0 n0 p0)).other (a := ⟨W.heap.size + 1, 1, none⟩) (by show W.heap.size ≠ W.heap.size + 1; omega) (.slice a1 n1 p1)).other (a := ⟨W.heap.size + 1, 2, none⟩) (by show W.heap.size ≠ W.heap.size + 1; omega) (.slice a2 n2 p2)).other (a := ⟨W.heap.size + 1, 3, none⟩) (by show W.heap.size ≠ W.heap.size + 1; omega) (.slice a3 n3 p3)).other (a := ⟨W.heap.size + 1, 4, none⟩) (by show W.heap.size ≠ W.heap.size + 1; omega) (.slice a4 n4 p4)).other (a := ⟨W.heap.size + 1, 5, none⟩) (by show W.heap.size ≠ W.heap.size + 1; omega) (.int .i64 now))
 refine wpAnyH_ready (rs := [3]) (by kernel_rfl) (by simp) ?_
 refine AllReadyH.cons rfl (fun K0 hK => ?_) AllReadyH.nil
 go_simp
 refine hK.out _ _ ⟨kbN.cell (i := 0) rfl, kbN.cell (i := 1) rfl, kbN.cell (i := 2) rfl, kbN.cell (i := 3) rfl, kbN.cell (i := 4) rfl, kbN.cell (i := 5) rfl⟩ (fun hHeld => ?_)
 clear hK K0
 (try simp only [Act.put, sA, sZ, sS])
 refine wpAnyH_done (by kernel_rfl) ?_ _
 refine tailQ_run rfl rfl ?_
 go_simp
 clear hHeld
 go_wp2_with fail
 refine bodyPost_ret (v := .tuple #[.agg #[.slice a0 n0 p0, .slice a1 n1 p1, .slice a2 n2 p2, .slice a3 n3 p3, .slice a4 n4 p4, .int .i64 now], .int .i64 3]) (by simp [results, Tryz.results39, go_sem, *]) rfl ⟨rfl, ?_⟩
 iterate 6 (refine Below.setCell ?_ (by show _ ≤ W.heap.size + 1; omega) _)
 exact uh BB
theorem told_wrap {a0 a1 a2 a3 a4 : Option Addr} {n0 n1 n2 n3 n4 p0 p1 p2 p3 p4 : Nat} {now : Int} {b0 b1 b2 b3 b4 : Option Addr} {l0 l1 l2 l3 l4 r0 r1 r2 r3 r4 : Nat} {nw : Int} {W : World} {q : Int → Addr} (he : Errs W q) {p : Nat} {c : Int} (hcc : c = 1 ∨ c = 2 ∨ c = 3 ∨ c = 4) (hp : Blk W p 116 #[.slice b0 l0 r0, .slice b1 l1 r1, .slice b2 l2 r2, .slice b3 l3 r3, .slice b4 l4 r4, .int .i64 nw, sent (q c)]) : Calls Tryz.prog 39 #[.agg #[.slice a0 n0 p0, .slice a1 n1 p1, .slice a2 n2 p2, .slice a3 n3 p3, .slice a4 n4 p4, .int .i64 now], refu p] W fun e w' => e = .returned (.tuple #[.agg #[.slice b0 l0 r0, .slice b1 l1 r1, .slice b2 l2 r2, .slice b3 l3 r3, .slice b4 l4 r4, .int .i64 nw], .int .i64 c]) ∧ Below W.heap.size W w' := by
 have HE := hide he
 have Hp := hide hp
 clear he hp
 have kb : Hid (Blk (((W.alloc (.cells #[.slice a0 n0 p0, .slice a1 n1 p1, .slice a2 n2 p2, .slice a3 n3 p3, .slice a4 n4 p4, .int .i64 now] 32)).alloc (.cells #[.slice none 0 0, .slice none 0 0, .slice none 0 0, .slice none 0 0, .slice none 0 0, .int .i64 0] 32)).alloc (.cells #[.pointer none] 112)) W.heap.size 32 #[.slice a0 n0 p0, .slice a1 n1 p1, .slice a2 n2 p2, .slice a3 n3 p3, .slice a4 n4 p4, .int .i64 now]) := hide (((Blk.new W _ _).alloc _).alloc _)
 have kr : Hid (Blk (((W.alloc (.cells #[.slice a0 n0 p0, .slice a1 n1 p1, .slice a2 n2 p2, .slice a3 n3 p3, .slice a4 n4 p4, .int .i64 now] 32)).alloc (.cells #[.slice none 0 0, .slice none 0 0, .slice none 0 0, .slice none 0 0, .slice none 0 0, .int .i64 0] 32)).alloc (.cells #[.pointer none] 112)) (W.heap.size + 1) 32 #[.slice none 0 0, .slice none 0 0, .slice none 0 0, .slice none 0 0, .slice none 0 0, .int .i64 0]) := hide (by
  have k := Blk.new (W.alloc (.cells #[.slice a0 n0 p0, .slice a1 n1 p1, .slice a2 n2 p2, .slice a3 n3 p3, .slice a4 n4 p4, .int .i64 now] 32)) 32 #[.slice none 0 0, .slice none 0 0, .slice none 0 0, .slice none 0 0, .slice none 0 0, .int .i64 0]
  rw [World.size_alloc] at k
  exact k.alloc _)
 have kv : Hid (Blk (((W.alloc (.cells #[.slice a0 n0 p0, .slice a1 n1 p1, .slice a2 n2 p2, .slice a3 n3 p3, .slice a4 n4 p4, .int .i64 now] 32)).alloc (.cells #[.slice none 0 0, .slice none 0 0, .slice none 0 0, .slice none 0 0, .slice none 0 0, .int .i64 0] 32)).alloc (.cells #[.pointer none] 112)) (W.heap.size + 1 + 1) 112 #[.pointer none]) := hide (by
  have k := Blk.new ((W.alloc (.cells #[.slice a0 n0 p0, .slice a1 n1 p1, .slice a2 n2 p2, .slice a3 n3 p3, .slice a4 n4 p4, .int .i64 now] 32)).alloc (.cells #[.slice none 0 0, .slice none 0 0, .slice none 0 0, .slice none 0 0, .slice none 0 0, .int .i64 0] 32)) 112 #[.pointer none]
  rw [World.size_alloc, World.size_alloc] at k
  exact k)
 have BB : Hid (Below W.heap.size W (((W.alloc (.cells #[.slice a0 n0 p0, .slice a1 n1 p1, .slice a2 n2 p2, .slice a3 n3 p3, .slice a4 n4 p4, .int .i64 now] 32)).alloc (.cells #[.slice none 0 0, .slice none 0 0, .slice none 0 0, .slice none 0 0, .slice none 0 0, .int .i64 0] 32)).alloc (.cells #[.pointer none] 112))) := hide ((((Below.refl _ _).alloc (Nat.le_refl _) _).alloc (by simp) _).alloc (by simp; omega) _)
 have hsz : (((W.alloc (.cells #[.slice a0 n0 p0, .slice a1 n1 p1, .slice a2 n2 p2, .slice a3 n3 p3, .slice a4 n4 p4, .int .i64 now] 32)).alloc (.cells #[.slice none 0 0, .slice none 0 0, .slice none 0 0, .slice none 0 0, .slice none 0 0, .int .i64 0] 32)).alloc (.cells #[.pointer none] 112)).heap.size = W.heap.size + 1 + 1 + 1 := by simp
 have HX := hide ((uh HE).below (uh BB))
 have kp := hide ((uh Hp).below (uh BB) (uh Hp).lt)
 go_enter Tryz.func39, Tryz.ntmps39
 go_wp2_with fail
 generalize (((W.alloc (.cells #[.slice a0 n0 p0, .slice a1 n1 p1, .slice a2 n2 p2, .slice a3 n3 p3, .slice a4 n4 p4, .int .i64 now] 32)).alloc (.cells #[.slice none 0 0, .slice none 0 0, .slice none 0 0, .slice none 0 0, .slice none 0 0, .int .i64 0] 32)).alloc (.cells #[.pointer none] 112)) = W1 at *
 refine (as_yes _ p _ (uh HX).ct ((uh kv).cell (i := 0) rfl) ((uh kv).free 0)).mono ?_
 rintro e w1 ⟨rfl, hc, hall⟩
 have hb := hall (W.heap.size + 1 + 1) (Nat.le_refl _) (by omega)
 have hpl := (uh Hp).lt
 replace kb := hide ((uh kb).below hb (by omega))
 replace kr := hide ((uh kr).below hb (by omega))
 replace kp := hide ((uh kp).below hb (by omega))
 have hE0 := (uh HE).below ((uh BB).trans (hb.mono (by omega)))
 replace BB := hide ((uh BB).trans (hb.mono (by omega)))
 replace HX := hide hE0
 clear hb hall hE0 kv hsz hpl
 obtain ⟨t0, t1, t2, t3, t4, t5⟩ : w1.cell? ⟨p, 0, none⟩ = some (.slice b0 l0 r0) ∧ w1.cell? ⟨p, 1, none⟩ = some (.slice b1 l1 r1) ∧ w1.cell? ⟨p, 2, none⟩ = some (.slice b2 l2 r2) ∧ w1.cell? ⟨p, 3, none⟩ = some (.slice b3 l3 r3) ∧ w1.cell? ⟨p, 4, none⟩ = some (.slice b4 l4 r4) ∧ w1.cell? ⟨p, 5, none⟩ = some (.int .i64 nw) := ⟨(uh kp).cell (i := 0) rfl, (uh kp).cell (i := 1) rfl, (uh kp).cell (i := 2) rfl, (uh kp).cell (i := 3) rfl, (uh kp).cell (i := 4) rfl, (uh kp).cell (i := 5) rfl⟩
 go_wp2_with fail
 refine wp_region_last (S := fun w' => w'.cell? ⟨W.heap.size + 1 + 1, 0, none⟩ = some (.pointer (some ⟨p, 0, none⟩)) ∧ w'.cell? ⟨p, 0, none⟩ = some (.slice b0 l0 r0) ∧ w'.cell? ⟨p, 1, none⟩ = some (.slice b1 l1 r1) ∧ w'.cell? ⟨p, 2, none⟩ = some (.slice b2 l2 r2) ∧ w'.cell? ⟨p, 3, none⟩ = some (.slice b3 l3 r3) ∧ w'.cell? ⟨p, 4, none⟩ = some (.slice b4 l4 r4) ∧ w'.cell? ⟨p, 5, none⟩ = some (.int .i64 nw)) (by kernel_rfl) (List.cons_ne_nil _ _) (by kernel_rfl) ⟨hc, t0, t1, t2, t3, t4, t5⟩ (fun hHeld => ?_)
 simp only [List.dropLast_cons_cons, List.dropLast_singleton, List.length_cons, List.length_nil, Nat.zero_add, Nat.reduceAdd]
 have hbd : Below w1.heap.size w1 w1.drew := (Below.refl _ _).drew
 replace kr := bl kr hbd
 replace BB := bt BB hbd
 replace kp := bl kp hbd
 replace hc := (hbd.cell (World.block_lt_of_cell? _ _ hc)).trans hc
 replace HX := hide ((uh HX).below hbd)
 clear t0 t1 t2 t3 t4 t5
 clear hbd
 generalize w1.drew = W5 at *
 obtain ⟨t0, t1, t2, t3, t4, t5⟩ : W5.cell? ⟨p, 0, none⟩ = some (.slice b0 l0 r0) ∧ W5.cell? ⟨p, 1, none⟩ = some (.slice b1 l1 r1) ∧ W5.cell? ⟨p, 2, none⟩ = some (.slice b2 l2 r2) ∧ W5.cell? ⟨p, 3, none⟩ = some (.slice b3 l3 r3) ∧ W5.cell? ⟨p, 4, none⟩ = some (.slice b4 l4 r4) ∧ W5.cell? ⟨p, 5, none⟩ = some (.int .i64 nw) := ⟨(uh kp).cell (i := 0) rfl, (uh kp).cell (i := 1) rfl, (uh kp).cell (i := 2) rfl, (uh kp).cell (i := 3) rfl, (uh kp).cell (i := 4) rfl, (uh kp).cell (i := 5) rfl⟩
 (refine tk 0 rfl (by assumption) ?_; (try simp only [Act.put, sA, sZ, sS]))
 (refine tk 1 rfl (by assumption) ?_; (try simp only [Act.put, sA, sZ, sS]))
 (refine tk 2 rfl (by assumption) ?_; (try simp only [Act.put, sA, sZ, sS]))
 (refine tk 3 rfl (by assumption) ?_; (try simp only [Act.put, sA, sZ, sS]))
 (refine tk 4 rfl (by assumption) ?_; (try simp only [Act.put, sA, sZ, sS]))
 refine wpAnyH_ready (rs := [5]) (by kernel_rfl) (by simp) ?_
 refine AllReadyH.cons rfl (fun K0 hK => ?_) AllReadyH.nil
 go_simp
 refine (codeOf_wrap hcc p (uh HX) ((uh kp).cell (i := 6) rfl)).mono ?_
 rintro e9 w9 ⟨rfl, h9⟩
 subst w9
 refine hK.out _ _ ⟨hc, t0, t1, t2, t3, t4, t5⟩ (fun hHeld => ?_)
 clear hK K0
 (try simp only [Act.put, sA, sZ, sS])
 obtain ⟨o0, o1, o2, o3, o4, o5⟩ := (uh kr).c6
 obtain ⟨f0, f1, f2, f3, f4, f5⟩ := (uh kr).f6
 have hpl := (uh Hp).lt
 have hne : p ≠ W.heap.size + 1 := by omega
 have hcN : ((((((W5.setCell ⟨W.heap.size + 1, 0, none⟩ (.slice b0 l0 r0)).setCell ⟨W.heap.size + 1, 1, none⟩ (.slice b1 l1 r1)).setCell ⟨W.heap.size + 1, 2, none⟩ (.slice b2 l2 r2)).setCell ⟨W.heap.size + 1, 3, none⟩ (.slice b3 l3 r3)).setCell ⟨W.heap.size + 1, 4, none⟩ (.slice b4 l4 r4)).setCell ⟨W.heap.size + 1, 5, none⟩ (.int .i64 nw)).cell? ⟨W.heap.size + 1 + 1, 0, none⟩ = some (.pointer (some ⟨p, 0, none⟩)) := by
  rw [World.cell?_setCell_far _ _ _ _ (by show W.heap.size + 1 ≠ W.heap.size + 1 + 1; omega), World.cell?_setCell_far _ _ _ _ (by show W.heap.size + 1 ≠ W.heap.size + 1 + 1; omega), World.cell?_setCell_far _ _ _ _ (by show W.heap.size + 1 ≠ W.heap.size + 1 + 1; omega), World.cell?_setCell_far _ _ _ _ (by show W.heap.size + 1 ≠ W.heap.size + 1 + 1; omega), World.cell?_setCell_far _ _ _ _ (by show W.heap.size + 1 ≠ W.heap.size + 1 + 1; omega), World.cell?_setCell_far _ _ _ _ (by show W.heap.size + 1 ≠ W.heap.size + 1 + 1; omega)]
  exact hc
 have kpN : Blk ((((((W5.setCell ⟨W.heap.size + 1, 0, none⟩ (.slice b0 l0 r0)).setCell ⟨W.heap.size + 1, 1, none⟩ (.slice b1 l1 r1)).setCell ⟨W.heap.size + 1, 2, none⟩ (.slice b2 l2 r2)).setCell ⟨W.heap.size + 1, 3, none⟩ (.slice b3 l3 r3)).setCell ⟨W.heap.size + 1, 4, none⟩ (.slice b4 l4 r4)).setCell ⟨W.heap.size + 1, 5, none⟩ (.int .i64 nw)) p 116 #[.slice b0 l0 r0, .slice b1 l1 r1, .slice b2 l2 r2, .slice b3 l3 r3, .slice b4 l4 r4, .int .i64 nw, sent (q c)] := (((((((uh kp).other (a := ⟨W.heap.size + 1, 0, none⟩) hne (.slice b0 l0 r0)).other (a := ⟨W.heap.size + 1, 1, none⟩) hne (.slice b1 l1 r1)).other (a := ⟨W.heap.size + 1, 2, none⟩) hne (.slice b2 l2 r2)).other (a := ⟨W.heap.size + 1, 3, none⟩) hne (.slice b3 l3 r3)).other (a := ⟨W.heap.size + 1, 4, none⟩) hne (.slice b4 l4 r4)).other (a := ⟨W.heap.size + 1, 5, none⟩) hne (.int .i64 nw))
 refine wpAnyH_ready (rs := [6]) (by kernel_rfl) (by simp) ?_
 refine AllReadyH.cons rfl (fun K0 hK => ?_) AllReadyH.nil
 go_simp
 refine hK.out _ _ ⟨hcN, kpN.cell (i := 0) rfl, kpN.cell (i := 1) rfl, kpN.cell (i := 2) rfl, kpN.cell (i := 3) rfl, kpN.cell (i := 4) rfl, kpN.cell (i := 5) rfl⟩ (fun hHeld => ?_)
 clear hK K0
 (try simp only [Act.put, sA, sZ, sS])
 refine wpAnyH_done (by kernel_rfl) ?_ _
 refine tailQ_run rfl rfl ?_
 go_simp
 clear hHeld
 go_wp2_with fail
 refine bodyPost_ret (v := .tuple #[.agg #[.slice b0 l0 r0, .slice b1 l1 r1, .slice b2 l2 r2, .slice b3 l3 r3, .slice b4 l4 r4, .int .i64 nw], .int .i64 c]) (by simp [results, Tryz.results39, go_sem, *]) rfl ⟨rfl, ?_⟩
 iterate 6 (refine Below.setCell ?_ (by show _ ≤ W.heap.size + 1; omega) _)
 exact uh BB
def Tr (w : World) (q : Int → Addr) (m X : SmyV) (c : Int) (e : Ending) (w' : World) : Prop :=
 Below w.heap.size w w' ∧ ((smyB m = false ∧ e = .returned (.tuple #[.agg #[.slice none 0 0, .slice none 0 0, .slice none 0 0, .slice none 0 0, .slice none 0 0, .int .i64 0], sent (q 3)])) ∨ (smyB m = true ∧ c = 0 ∧ ∃ a0 p0 a1 p1 a2 p2 a3 p3 a4 p4 rs, e = .returned (.tuple #[.agg #[.slice a0 (turnedV X).rooms.length p0, .slice a1 (turnedV X).guilds.length p1, .slice a2 (turnedV X).smiths.length p2, .slice a3 (turnedV X).desks.length p3, .slice a4 (turnedV X).paces.length p4, .int .i64 (turnedV X).now], .nilIface]) ∧ FullSmy w.heap.size w' (.slice a0 (turnedV X).rooms.length p0) (.slice a1 (turnedV X).guilds.length p1) (.slice a2 (turnedV X).smiths.length p2) (.slice a3 (turnedV X).desks.length p3) (.slice a4 (turnedV X).paces.length p4) (turnedV X) rs) ∨ (smyB m = true ∧ (c = 1 ∨ c = 2 ∨ c = 3 ∨ c = 4) ∧ ∃ p a0 p0 a1 p1 a2 p2 a3 p3 a4 p4 rs, e = .returned (.tuple #[.agg #[.slice none 0 0, .slice none 0 0, .slice none 0 0, .slice none 0 0, .slice none 0 0, .int .i64 0], refu p]) ∧ Blk w' p 116 #[.slice a0 m.rooms.length p0, .slice a1 m.guilds.length p1, .slice a2 m.smiths.length p2, .slice a3 m.desks.length p3, .slice a4 m.paces.length p4, .int .i64 m.now, sent (q c)] ∧ FullSmy w.heap.size w' (.slice a0 m.rooms.length p0) (.slice a1 m.guilds.length p1) (.slice a2 m.smiths.length p2) (.slice a3 m.desks.length p3) (.slice a4 m.paces.length p4) m rs))
theorem full_five {n : Nat} {w : World} {v0 v1 v2 v3 v4 : Value} {m : SmyV} {qs : List (RoomV × Value)} (h : FullSmy n w v0 v1 v2 v3 v4 m qs) : ∃ a0 p0 a1 p1 a2 p2 a3 p3 a4 p4, v0 = .slice a0 m.rooms.length p0 ∧ v1 = .slice a1 m.guilds.length p1 ∧ v2 = .slice a2 m.smiths.length p2 ∧ v3 = .slice a3 m.desks.length p3 ∧ v4 = .slice a4 m.paces.length p4 := by
 obtain ⟨a0, p0, a1, p1, a2, p2, a3, p3, a4, p4, e0, e1, e2, e3, e4, _⟩ := h.smy.five
 exact ⟨a0, p0, a1, p1, a2, p2, a3, p3, a4, p4, e0, e1, e2, e3, e4⟩
theorem wake1_any {w W : World} {R : Nat} {v0 v1 v2 v3 v4 : Value} {m : SmyV} {qs : List (RoomV × Value)} {q : Int → Addr} (K : Nx w W R v0 v1 v2 v3 v4 m qs) (he : Errs w q) (hm : smyB m = true) (who : Int) {cb : Nat} (hc : Blk W cb 2 #[.int .i64 who]) : Calls Tryz.prog 59 #[.pointer (some ⟨R, 0, none⟩), .pointer (some ⟨cb, 0, none⟩)] W fun e W' => Chg w R q (wakeX m who.toNat (chosenOfV m who)) (wakeC m who) e W' := by
 have HC := hide (wakes_any K he hm who)
 have c0 := hc.cell (i := 0) (v := .int .i64 who) rfl
 clear hc K
 go_enter Tryz.func59, Tryz.ntmps59
 go_wp2_with fail
 refine (uh HC).mono ?_
 rintro e w1 ⟨hb, h9⟩
 clear c0
 rcases h9 with ⟨hc0, rfl, hx⟩ | ⟨hc0, rfl⟩
 ·go_wp2_with fail
  go_ret
  exact ⟨hb, .inl ⟨hc0, rfl, hx⟩⟩
 ·go_wp2_with fail
  go_ret
  exact ⟨hb, .inr ⟨hc0, rfl⟩⟩
theorem tried_wake {w : World} {v0 v1 v2 v3 v4 : Value} {m : SmyV} {q : Int → Addr} (h : Smy w v0 v1 v2 v3 v4 m) (he : Errs w q) (who : Int) {cb : Nat} (hc : Blk w cb 2 #[.int .i64 who]) : Calls Tryz.prog 40 #[.agg #[v0, v1, v2, v3, v4, .int .i64 m.now], .func (Fn.func 59) #[] #[.pointer (some ⟨cb, 0, none⟩)]] w fun e w' => Tr w q m (wakeX m who.toNat (chosenOfV m who)) (wakeC m who) e w' := by
 obtain ⟨ok, hok⟩ : ∃ x, smyB m = x := ⟨_, rfl⟩
 have Hok := hide hok
 clear hok
 have HE := hide he
 have HC := hide hc
 have Hlow : Hid (0 < w.heap.size) := hide (World.block_lt_of_cell? _ _ he.c3)
 clear he hc
 obtain ⟨a0, p0, a1, p1, a2, p2, a3, p3, a4, p4, rfl, rfl, rfl, rfl, rfl, K⟩ := Bx.new h
 clear h
 replace K := K.alloc (.cells #[.slice none 0 0, .slice none 0 0, .slice none 0 0, .slice none 0 0, .slice none 0 0, .int .i64 0] 32)
 have kr : Hid (Blk ((w.alloc (.cells #[.slice a0 m.rooms.length p0, .slice a1 m.guilds.length p1, .slice a2 m.smiths.length p2, .slice a3 m.desks.length p3, .slice a4 m.paces.length p4, .int .i64 m.now] 32)).alloc (.cells #[.slice none 0 0, .slice none 0 0, .slice none 0 0, .slice none 0 0, .slice none 0 0, .int .i64 0] 32)) (w.heap.size + 1) 32 #[.slice none 0 0, .slice none 0 0, .slice none 0 0, .slice none 0 0, .slice none 0 0, .int .i64 0]) := hide (by
  have k := Blk.new (w.alloc (.cells #[.slice a0 m.rooms.length p0, .slice a1 m.guilds.length p1, .slice a2 m.smiths.length p2, .slice a3 m.desks.length p3, .slice a4 m.paces.length p4, .int .i64 m.now] 32)) 32 #[.slice none 0 0, .slice none 0 0, .slice none 0 0, .slice none 0 0, .slice none 0 0, .int .i64 0]
  rw [World.size_alloc] at k
  exact k)
 replace HC := hide ((uh HC).below K.bb (uh HC).lt)
 replace HE := hide ((uh HE).below K.bb)
 go_enter Tryz.func40, Tryz.ntmps40
 go_wp2_with fail
 generalize ((w.alloc (.cells #[.slice a0 m.rooms.length p0, .slice a1 m.guilds.length p1, .slice a2 m.smiths.length p2, .slice a3 m.desks.length p3, .slice a4 m.paces.length p4, .int .i64 m.now] 32)).alloc (.cells #[.slice none 0 0, .slice none 0 0, .slice none 0 0, .slice none 0 0, .slice none 0 0, .int .i64 0] 32)) = W1 at *
 refine (implSmithyOk_q _ _ _ _ _ _ _ _ (uh Hok) K.smy).mono ?_
 rintro e w1 ⟨rfl, hb⟩
 replace K := K.next hb
 replace kr := bl kr hb
 replace HC := bl HC hb
 replace HE := hide ((uh HE).below hb)
 clear hb
 cases ok
 ·
  have x1 := (uh HE).c3
  obtain ⟨o0, o1, o2, o3, o4, o5⟩ := (uh kr).c6
  obtain ⟨f0, f1, f2, f3, f4, f5⟩ := (uh kr).f6
  go_wp2_with fail
  go_region
  all_goals (try go_wp2_with fail)
  all_goals (refine bodyPost_ret (v := .tuple #[.agg #[.slice none 0 0, .slice none 0 0, .slice none 0 0, .slice none 0 0, .slice none 0 0, .int .i64 0], sent (q 3)]) (by simp [results, Tryz.results40, go_sem, *]) rfl ⟨?_, .inl ⟨uh Hok, rfl⟩⟩)
  all_goals (refine Below.drew ?_)
  all_goals (iterate 6 (refine Below.setCell ?_ (by show _ ≤ w.heap.size + 1; omega) _))
  all_goals (exact K.bb)
 have HFew := hide (few_of (smy_loose (uh Hok)))
 obtain ⟨c0, c1, c2, c3, c4, c5⟩ := K.cells
 go_wp2_with fail
 have hw1 : w.heap.size + 2 ≤ w1.heap.size := by have := (uh kr).lt; omega
 refine (copyOfSmithy_any K.smy (uh HFew)).mono ?_
 rintro e w2 ⟨u0, u1, u2, u3, u4, rs, rfl, hf, hb⟩
 clear c0 c1 c2 c3 c4 c5
 obtain ⟨b0, r0, b1, r1, b2, r2, b3, r3, b4, r4, rfl, rfl, rfl, rfl, rfl⟩ := full_five hf
 have N1 : Nx w1 (w2.alloc (.cells #[.slice b0 m.rooms.length r0, .slice b1 m.guilds.length r1, .slice b2 m.smiths.length r2, .slice b3 m.desks.length r3, .slice b4 m.paces.length r4, .int .i64 m.now] 32)) w2.heap.size (.slice b0 m.rooms.length r0) (.slice b1 m.guilds.length r1) (.slice b2 m.smiths.length r2) (.slice b3 m.desks.length r3) (.slice b4 m.paces.length r4) m rs := by
  have hba : Below w2.heap.size w2 (w2.alloc (.cells #[.slice b0 m.rooms.length r0, .slice b1 m.guilds.length r1, .slice b2 m.smiths.length r2, .slice b3 m.desks.length r3, .slice b4 m.paces.length r4, .int .i64 m.now] 32)) := (Below.refl _ _).alloc (Nat.le_refl _) _
  exact ⟨hf.below hba, Blk.new _ _ _, fun k e => by have := (hf.own e).2; omega, hb.trans (hba.mono hb.size), hb.size⟩
 have HN := hide N1
 clear N1 hf hb
 go_upto_region 4 with fail
 generalize w2.alloc (.cells #[.slice b0 m.rooms.length r0, .slice b1 m.guilds.length r1, .slice b2 m.smiths.length r2, .slice b3 m.desks.length r3, .slice b4 m.paces.length r4, .int .i64 m.now] 32) = W3 at *
 generalize w2.heap.size = R at *
 go_wp2_with fail
 refine (wake1_any (uh HN) (uh HE) (uh Hok) who ((uh HC).below (uh HN).bb (uh HC).lt)).mono ?_
 rintro e w4 ⟨hb4, h9⟩
 have hKs := K.smy.below hb4
 have hKb := K.blk.below hb4 K.blk.lt
 have hrb := (uh kr).below hb4 (uh kr).lt
 have hbb := K.bb.trans (hb4.mono K.bb.size)
 have K4 : Bx w w4 w.heap.size a0 p0 a1 p1 a2 p2 a3 p3 a4 p4 m := ⟨hKs, hKb, hbb⟩
 clear K
 have K := K4
 replace kr := hide hrb
 clear K4 hKs hKb hrb hbb
 rcases h9 with ⟨hc0, rfl, v0, v1, v2, v3, v4, rs4, N4⟩ | ⟨hc0, rfl⟩
 ·
  obtain ⟨d0, s0, d1, s1, d2, s2, d3, s3, d4, s4, rfl, rfl, rfl, rfl, rfl⟩ := full_five N4.full
  have HN4 := hide N4
  obtain ⟨c0, c1, c2, c3, c4, c5⟩ := N4.cells
  clear N4 HN
  go_wp2_with fail
  refine (implTurned_any _ _ _ _ _ _ _ (uh HN4).full.smy).mono ?_
  rintro e w5 ⟨u0, u1, u2, u3, u4, rs5, rfl, hf, hb⟩
  clear c0 c1 c2 c3 c4 c5
  obtain ⟨e0, g0, e1, g1, e2, g2, e3, g3, e4, g4, rfl, rfl, rfl, rfl, rfl⟩ := full_five hf
  have hsz : w.heap.size + 2 ≤ w4.heap.size := by have := (uh kr).lt; omega
  have HF := hide (hf.mono (n₁ := w.heap.size + 2) hsz)
  replace K := K.next hb
  replace kr := bl kr hb
  clear hb hf
  obtain ⟨o0, o1, o2, o3, o4, o5⟩ := (uh kr).c6
  obtain ⟨f0, f1, f2, f3, f4, f5⟩ := (uh kr).f6
  go_wp2_with fail
  refine bodyPost_ret (v := .tuple #[.agg #[.slice e0 (turnedV (wakeX m who.toNat (chosenOfV m who))).rooms.length g0, .slice e1 (turnedV (wakeX m who.toNat (chosenOfV m who))).guilds.length g1, .slice e2 (turnedV (wakeX m who.toNat (chosenOfV m who))).smiths.length g2, .slice e3 (turnedV (wakeX m who.toNat (chosenOfV m who))).desks.length g3, .slice e4 (turnedV (wakeX m who.toNat (chosenOfV m who))).paces.length g4, .int .i64 (turnedV (wakeX m who.toNat (chosenOfV m who))).now], .nilIface]) (by simp [results, Tryz.results40, go_sem, *]) rfl ⟨?_, .inr (.inl ⟨uh Hok, hc0, e0, g0, e1, g1, e2, g2, e3, g3, e4, g4, rs5, rfl, ?_⟩)⟩
  ·iterate 6 (refine Below.setCell ?_ (by show _ ≤ w.heap.size + 1; omega) _)
   exact K.bb
  ·refine FullSmy.mono (n₀ := w.heap.size + 2) ?_ (by omega)
   iterate 6 (refine FullSmy.set_off ?_ (fun k e => by have := ((uh HF).own e).1; omega) _ _)
   exact uh HF
 ·
  clear HN
  obtain ⟨c0, c1, c2, c3, c4, c5⟩ := K.cells
  go_wp2_with fail
  refine (copyOfSmithy_any K.smy (uh HFew)).mono ?_
  rintro e w5 ⟨u0, u1, u2, u3, u4, rs5, rfl, hf, hb⟩
  clear c0 c1 c2 c3 c4 c5
  obtain ⟨e0, g0, e1, g1, e2, g2, e3, g3, e4, g4, rfl, rfl, rfl, rfl, rfl⟩ := full_five hf
  have hsz : w.heap.size + 2 ≤ w4.heap.size := by have := (uh kr).lt; omega
  have hba : Below w5.heap.size w5 (w5.alloc (.cells #[.slice e0 m.rooms.length g0, .slice e1 m.guilds.length g1, .slice e2 m.smiths.length g2, .slice e3 m.desks.length g3, .slice e4 m.paces.length g4, .int .i64 m.now, sent (q (wakeC m who))] 116)) := (Below.refl _ _).alloc (Nat.le_refl _) _
  have kp : Hid (Blk (w5.alloc (.cells #[.slice e0 m.rooms.length g0, .slice e1 m.guilds.length g1, .slice e2 m.smiths.length g2, .slice e3 m.desks.length g3, .slice e4 m.paces.length g4, .int .i64 m.now, sent (q (wakeC m who))] 116)) w5.heap.size 116 #[.slice e0 m.rooms.length g0, .slice e1 m.guilds.length g1, .slice e2 m.smiths.length g2, .slice e3 m.desks.length g3, .slice e4 m.paces.length g4, .int .i64 m.now, sent (q (wakeC m who))]) := hide (Blk.new _ _ _)
  have HF := hide ((hf.mono (n₁ := w.heap.size + 2) hsz).below hba)
  have h5 : w.heap.size + 2 ≤ w5.heap.size := Nat.le_trans hsz hb.size
  replace K := (K.next hb).next hba
  replace kr := bl (bl kr hb) hba
  clear hb hf hba
  obtain ⟨o0, o1, o2, o3, o4, o5⟩ := (uh kr).c6
  obtain ⟨f0, f1, f2, f3, f4, f5⟩ := (uh kr).f6
  go_wp2_with fail
  refine bodyPost_ret (v := .tuple #[.agg #[.slice none 0 0, .slice none 0 0, .slice none 0 0, .slice none 0 0, .slice none 0 0, .int .i64 0], refu w5.heap.size]) (by simp [results, Tryz.results40, go_sem, *]) rfl ⟨?_, .inr (.inr ⟨uh Hok, hc0, w5.heap.size, e0, g0, e1, g1, e2, g2, e3, g3, e4, g4, rs5, rfl, ?_, ?_⟩)⟩
  ·iterate 6 (refine Below.setCell ?_ (by show _ ≤ w.heap.size + 1; omega) _)
   exact K.bb
  ·iterate 6 (refine Blk.other ?_ (by show w5.heap.size ≠ w.heap.size + 1; omega) _)
   exact uh kp
  ·refine FullSmy.mono (n₀ := w.heap.size + 2) ?_ (by omega)
   iterate 6 (refine FullSmy.set_off ?_ (fun k e => by have := ((uh HF).own e).1; omega) _ _)
   exact uh HF
theorem come1_any {w W : World} {R : Nat} {v0 v1 v2 v3 v4 : Value} {m : SmyV} {qs : List (RoomV × Value)} {q : Int → Addr} (K : Nx w W R v0 v1 v2 v3 v4 m qs) (he : Errs w q) (hm : smyB m = true) (rank may guild : Int) {cb : Nat} (hc : Blk W cb 40 #[.int .i64 0, .int .i64 0, .int .i64 rank, .int .i64 may, .int .i64 guild, .int .i64 0, .int .i64 1024, .int .i64 0, .int .i64 0, .int .i64 0, .int .i64 0]) : Calls Tryz.prog 41 #[.pointer (some ⟨R, 0, none⟩), .pointer (some ⟨cb, 0, none⟩)] W fun e W' => Chg w R q (comeX m rank may guild) (comeC m rank may guild) e W' := by
 have HC := hide (comes_any K he hm rank may guild)
 obtain ⟨c0, c1, c2, c3, c4, c5, c6, c7, c8, c9, c10⟩ := hc.c11
 clear hc K
 go_enter Tryz.func41, Tryz.ntmps41
 go_wp2_with fail
 refine (uh HC).mono ?_
 rintro e w1 ⟨hb, h9⟩
 clear c0 c1 c2 c3 c4 c5 c6 c7 c8 c9 c10
 rcases h9 with ⟨hc0, rfl, hx⟩ | ⟨hc0, rfl⟩
 ·go_wp2_with fail
  go_ret
  exact ⟨hb, .inl ⟨hc0, rfl, hx⟩⟩
 ·go_wp2_with fail
  go_ret
  exact ⟨hb, .inr ⟨hc0, rfl⟩⟩
theorem tried_come {w : World} {v0 v1 v2 v3 v4 : Value} {m : SmyV} {q : Int → Addr} (h : Smy w v0 v1 v2 v3 v4 m) (he : Errs w q) (rank may guild : Int) {cb : Nat} (hc : Blk w cb 40 #[.int .i64 0, .int .i64 0, .int .i64 rank, .int .i64 may, .int .i64 guild, .int .i64 0, .int .i64 1024, .int .i64 0, .int .i64 0, .int .i64 0, .int .i64 0]) : Calls Tryz.prog 40 #[.agg #[v0, v1, v2, v3, v4, .int .i64 m.now], .func (Fn.func 41) #[] #[.pointer (some ⟨cb, 0, none⟩)]] w fun e w' => Tr w q m (comeX m rank may guild) (comeC m rank may guild) e w' := by
 obtain ⟨ok, hok⟩ : ∃ x, smyB m = x := ⟨_, rfl⟩
 have Hok := hide hok
 clear hok
 have HE := hide he
 have HC := hide hc
 have Hlow : Hid (0 < w.heap.size) := hide (World.block_lt_of_cell? _ _ he.c3)
 clear he hc
 obtain ⟨a0, p0, a1, p1, a2, p2, a3, p3, a4, p4, rfl, rfl, rfl, rfl, rfl, K⟩ := Bx.new h
 clear h
 replace K := K.alloc (.cells #[.slice none 0 0, .slice none 0 0, .slice none 0 0, .slice none 0 0, .slice none 0 0, .int .i64 0] 32)
 have kr : Hid (Blk ((w.alloc (.cells #[.slice a0 m.rooms.length p0, .slice a1 m.guilds.length p1, .slice a2 m.smiths.length p2, .slice a3 m.desks.length p3, .slice a4 m.paces.length p4, .int .i64 m.now] 32)).alloc (.cells #[.slice none 0 0, .slice none 0 0, .slice none 0 0, .slice none 0 0, .slice none 0 0, .int .i64 0] 32)) (w.heap.size + 1) 32 #[.slice none 0 0, .slice none 0 0, .slice none 0 0, .slice none 0 0, .slice none 0 0, .int .i64 0]) := hide (by
  have k := Blk.new (w.alloc (.cells #[.slice a0 m.rooms.length p0, .slice a1 m.guilds.length p1, .slice a2 m.smiths.length p2, .slice a3 m.desks.length p3, .slice a4 m.paces.length p4, .int .i64 m.now] 32)) 32 #[.slice none 0 0, .slice none 0 0, .slice none 0 0, .slice none 0 0, .slice none 0 0, .int .i64 0]
  rw [World.size_alloc] at k
  exact k)
 replace HC := hide ((uh HC).below K.bb (uh HC).lt)
 replace HE := hide ((uh HE).below K.bb)
 go_enter Tryz.func40, Tryz.ntmps40
 go_wp2_with fail
 generalize ((w.alloc (.cells #[.slice a0 m.rooms.length p0, .slice a1 m.guilds.length p1, .slice a2 m.smiths.length p2, .slice a3 m.desks.length p3, .slice a4 m.paces.length p4, .int .i64 m.now] 32)).alloc (.cells #[.slice none 0 0, .slice none 0 0, .slice none 0 0, .slice none 0 0, .slice none 0 0, .int .i64 0] 32)) = W1 at *
 refine (implSmithyOk_q _ _ _ _ _ _ _ _ (uh Hok) K.smy).mono ?_
 rintro e w1 ⟨rfl, hb⟩
 replace K := K.next hb
 replace kr := bl kr hb
 replace HC := bl HC hb
 replace HE := hide ((uh HE).below hb)
 clear hb
 cases ok
 ·
  have x1 := (uh HE).c3
  obtain ⟨o0, o1, o2, o3, o4, o5⟩ := (uh kr).c6
  obtain ⟨f0, f1, f2, f3, f4, f5⟩ := (uh kr).f6
  go_wp2_with fail
  go_region
  all_goals (try go_wp2_with fail)
  all_goals (refine bodyPost_ret (v := .tuple #[.agg #[.slice none 0 0, .slice none 0 0, .slice none 0 0, .slice none 0 0, .slice none 0 0, .int .i64 0], sent (q 3)]) (by simp [results, Tryz.results40, go_sem, *]) rfl ⟨?_, .inl ⟨uh Hok, rfl⟩⟩)
  all_goals (refine Below.drew ?_)
  all_goals (iterate 6 (refine Below.setCell ?_ (by show _ ≤ w.heap.size + 1; omega) _))
  all_goals (exact K.bb)
 have HFew := hide (few_of (smy_loose (uh Hok)))
 obtain ⟨c0, c1, c2, c3, c4, c5⟩ := K.cells
 go_wp2_with fail
 have hw1 : w.heap.size + 2 ≤ w1.heap.size := by have := (uh kr).lt; omega
 refine (copyOfSmithy_any K.smy (uh HFew)).mono ?_
 rintro e w2 ⟨u0, u1, u2, u3, u4, rs, rfl, hf, hb⟩
 clear c0 c1 c2 c3 c4 c5
 obtain ⟨b0, r0, b1, r1, b2, r2, b3, r3, b4, r4, rfl, rfl, rfl, rfl, rfl⟩ := full_five hf
 have N1 : Nx w1 (w2.alloc (.cells #[.slice b0 m.rooms.length r0, .slice b1 m.guilds.length r1, .slice b2 m.smiths.length r2, .slice b3 m.desks.length r3, .slice b4 m.paces.length r4, .int .i64 m.now] 32)) w2.heap.size (.slice b0 m.rooms.length r0) (.slice b1 m.guilds.length r1) (.slice b2 m.smiths.length r2) (.slice b3 m.desks.length r3) (.slice b4 m.paces.length r4) m rs := by
  have hba : Below w2.heap.size w2 (w2.alloc (.cells #[.slice b0 m.rooms.length r0, .slice b1 m.guilds.length r1, .slice b2 m.smiths.length r2, .slice b3 m.desks.length r3, .slice b4 m.paces.length r4, .int .i64 m.now] 32)) := (Below.refl _ _).alloc (Nat.le_refl _) _
  exact ⟨hf.below hba, Blk.new _ _ _, fun k e => by have := (hf.own e).2; omega, hb.trans (hba.mono hb.size), hb.size⟩
 have HN := hide N1
 clear N1 hf hb
 go_upto_region 4 with fail
 generalize w2.alloc (.cells #[.slice b0 m.rooms.length r0, .slice b1 m.guilds.length r1, .slice b2 m.smiths.length r2, .slice b3 m.desks.length r3, .slice b4 m.paces.length r4, .int .i64 m.now] 32) = W3 at *
 generalize w2.heap.size = R at *
 go_wp2_with fail
 refine (come1_any (uh HN) (uh HE) (uh Hok) rank may guild ((uh HC).below (uh HN).bb (uh HC).lt)).mono ?_
 rintro e w4 ⟨hb4, h9⟩
 have hKs := K.smy.below hb4
 have hKb := K.blk.below hb4 K.blk.lt
 have hrb := (uh kr).below hb4 (uh kr).lt
 have hbb := K.bb.trans (hb4.mono K.bb.size)
 have K4 : Bx w w4 w.heap.size a0 p0 a1 p1 a2 p2 a3 p3 a4 p4 m := ⟨hKs, hKb, hbb⟩
 clear K
 have K := K4
 replace kr := hide hrb
 clear K4 hKs hKb hrb hbb
 rcases h9 with ⟨hc0, rfl, v0, v1, v2, v3, v4, rs4, N4⟩ | ⟨hc0, rfl⟩
 ·
  obtain ⟨d0, s0, d1, s1, d2, s2, d3, s3, d4, s4, rfl, rfl, rfl, rfl, rfl⟩ := full_five N4.full
  have HN4 := hide N4
  obtain ⟨c0, c1, c2, c3, c4, c5⟩ := N4.cells
  clear N4 HN
  go_wp2_with fail
  refine (implTurned_any _ _ _ _ _ _ _ (uh HN4).full.smy).mono ?_
  rintro e w5 ⟨u0, u1, u2, u3, u4, rs5, rfl, hf, hb⟩
  clear c0 c1 c2 c3 c4 c5
  obtain ⟨e0, g0, e1, g1, e2, g2, e3, g3, e4, g4, rfl, rfl, rfl, rfl, rfl⟩ := full_five hf
  have hsz : w.heap.size + 2 ≤ w4.heap.size := by have := (uh kr).lt; omega
  have HF := hide (hf.mono (n₁ := w.heap.size + 2) hsz)
  replace K := K.next hb
  replace kr := bl kr hb
  clear hb hf
  obtain ⟨o0, o1, o2, o3, o4, o5⟩ := (uh kr).c6
  obtain ⟨f0, f1, f2, f3, f4, f5⟩ := (uh kr).f6
  go_wp2_with fail
  refine bodyPost_ret (v := .tuple #[.agg #[.slice e0 (turnedV (comeX m rank may guild)).rooms.length g0, .slice e1 (turnedV (comeX m rank may guild)).guilds.length g1, .slice e2 (turnedV (comeX m rank may guild)).smiths.length g2, .slice e3 (turnedV (comeX m rank may guild)).desks.length g3, .slice e4 (turnedV (comeX m rank may guild)).paces.length g4, .int .i64 (turnedV (comeX m rank may guild)).now], .nilIface]) (by simp [results, Tryz.results40, go_sem, *]) rfl ⟨?_, .inr (.inl ⟨uh Hok, hc0, e0, g0, e1, g1, e2, g2, e3, g3, e4, g4, rs5, rfl, ?_⟩)⟩
  ·iterate 6 (refine Below.setCell ?_ (by show _ ≤ w.heap.size + 1; omega) _)
   exact K.bb
  ·refine FullSmy.mono (n₀ := w.heap.size + 2) ?_ (by omega)
   iterate 6 (refine FullSmy.set_off ?_ (fun k e => by have := ((uh HF).own e).1; omega) _ _)
   exact uh HF
 ·
  clear HN
  obtain ⟨c0, c1, c2, c3, c4, c5⟩ := K.cells
  go_wp2_with fail
  refine (copyOfSmithy_any K.smy (uh HFew)).mono ?_
  rintro e w5 ⟨u0, u1, u2, u3, u4, rs5, rfl, hf, hb⟩
  clear c0 c1 c2 c3 c4 c5
  obtain ⟨e0, g0, e1, g1, e2, g2, e3, g3, e4, g4, rfl, rfl, rfl, rfl, rfl⟩ := full_five hf
  have hsz : w.heap.size + 2 ≤ w4.heap.size := by have := (uh kr).lt; omega
  have hba : Below w5.heap.size w5 (w5.alloc (.cells #[.slice e0 m.rooms.length g0, .slice e1 m.guilds.length g1, .slice e2 m.smiths.length g2, .slice e3 m.desks.length g3, .slice e4 m.paces.length g4, .int .i64 m.now, sent (q (comeC m rank may guild))] 116)) := (Below.refl _ _).alloc (Nat.le_refl _) _
  have kp : Hid (Blk (w5.alloc (.cells #[.slice e0 m.rooms.length g0, .slice e1 m.guilds.length g1, .slice e2 m.smiths.length g2, .slice e3 m.desks.length g3, .slice e4 m.paces.length g4, .int .i64 m.now, sent (q (comeC m rank may guild))] 116)) w5.heap.size 116 #[.slice e0 m.rooms.length g0, .slice e1 m.guilds.length g1, .slice e2 m.smiths.length g2, .slice e3 m.desks.length g3, .slice e4 m.paces.length g4, .int .i64 m.now, sent (q (comeC m rank may guild))]) := hide (Blk.new _ _ _)
  have HF := hide ((hf.mono (n₁ := w.heap.size + 2) hsz).below hba)
  have h5 : w.heap.size + 2 ≤ w5.heap.size := Nat.le_trans hsz hb.size
  replace K := (K.next hb).next hba
  replace kr := bl (bl kr hb) hba
  clear hb hf hba
  obtain ⟨o0, o1, o2, o3, o4, o5⟩ := (uh kr).c6
  obtain ⟨f0, f1, f2, f3, f4, f5⟩ := (uh kr).f6
  go_wp2_with fail
  refine bodyPost_ret (v := .tuple #[.agg #[.slice none 0 0, .slice none 0 0, .slice none 0 0, .slice none 0 0, .slice none 0 0, .int .i64 0], refu w5.heap.size]) (by simp [results, Tryz.results40, go_sem, *]) rfl ⟨?_, .inr (.inr ⟨uh Hok, hc0, w5.heap.size, e0, g0, e1, g1, e2, g2, e3, g3, e4, g4, rs5, rfl, ?_, ?_⟩)⟩
  ·iterate 6 (refine Below.setCell ?_ (by show _ ≤ w.heap.size + 1; omega) _)
   exact K.bb
  ·iterate 6 (refine Blk.other ?_ (by show w5.heap.size ≠ w.heap.size + 1; omega) _)
   exact uh kp
  ·refine FullSmy.mono (n₀ := w.heap.size + 2) ?_ (by omega)
   iterate 6 (refine FullSmy.set_off ?_ (fun k e => by have := ((uh HF).own e).1; omega) _ _)
   exact uh HF
theorem implWake_any {w : World} {v0 v1 v2 v3 v4 : Value} {m : SmyV} {q : Int → Addr} (who : Int) (he : Errs w q) (h : Smy w v0 v1 v2 v3 v4 m) : Calls Tryz.prog 20 #[.agg #[v0, v1, v2, v3, v4, .int .i64 m.now], .int .i64 who] w fun e w' => GotM w.heap.size (wakeV m who).1 (wakeV m who).2 e w' ∧ Below w.heap.size w w' := by
 have HE := hide he
 clear he
 obtain ⟨a0, p0, a1, p1, a2, p2, a3, p3, a4, p4, rfl, rfl, rfl, rfl, rfl, K⟩ := Bx.new h
 clear h
 replace K := (K.alloc (.cells #[.int .i64 who] 2)).alloc (.cells #[.slice none 0 0, .slice none 0 0, .slice none 0 0, .slice none 0 0, .slice none 0 0, .int .i64 0] 32)
 have kr : Hid (Blk (((w.alloc (.cells #[.slice a0 m.rooms.length p0, .slice a1 m.guilds.length p1, .slice a2 m.smiths.length p2, .slice a3 m.desks.length p3, .slice a4 m.paces.length p4, .int .i64 m.now] 32)).alloc (.cells #[.int .i64 who] 2)).alloc (.cells #[.slice none 0 0, .slice none 0 0, .slice none 0 0, .slice none 0 0, .slice none 0 0, .int .i64 0] 32)) (w.heap.size + 1 + 1) 32 #[.slice none 0 0, .slice none 0 0, .slice none 0 0, .slice none 0 0, .slice none 0 0, .int .i64 0]) := hide (by
  have k := Blk.new ((w.alloc (.cells #[.slice a0 m.rooms.length p0, .slice a1 m.guilds.length p1, .slice a2 m.smiths.length p2, .slice a3 m.desks.length p3, .slice a4 m.paces.length p4, .int .i64 m.now] 32)).alloc (.cells #[.int .i64 who] 2)) 32 #[.slice none 0 0, .slice none 0 0, .slice none 0 0, .slice none 0 0, .slice none 0 0, .int .i64 0]
  rw [World.size_alloc, World.size_alloc] at k
  exact k)
 have kc : Hid (Blk (((w.alloc (.cells #[.slice a0 m.rooms.length p0, .slice a1 m.guilds.length p1, .slice a2 m.smiths.length p2, .slice a3 m.desks.length p3, .slice a4 m.paces.length p4, .int .i64 m.now] 32)).alloc (.cells #[.int .i64 who] 2)).alloc (.cells #[.slice none 0 0, .slice none 0 0, .slice none 0 0, .slice none 0 0, .slice none 0 0, .int .i64 0] 32)) (w.heap.size + 1) 2 #[.int .i64 who]) := hide (by
  have k := Blk.new (w.alloc (.cells #[.slice a0 m.rooms.length p0, .slice a1 m.guilds.length p1, .slice a2 m.smiths.length p2, .slice a3 m.desks.length p3, .slice a4 m.paces.length p4, .int .i64 m.now] 32)) 2 #[.int .i64 who]
  rw [World.size_alloc] at k
  exact k.alloc _)
 replace HE := hide ((uh HE).below K.bb)
 have hsz : (((w.alloc (.cells #[.slice a0 m.rooms.length p0, .slice a1 m.guilds.length p1, .slice a2 m.smiths.length p2, .slice a3 m.desks.length p3, .slice a4 m.paces.length p4, .int .i64 m.now] 32)).alloc (.cells #[.int .i64 who] 2)).alloc (.cells #[.slice none 0 0, .slice none 0 0, .slice none 0 0, .slice none 0 0, .slice none 0 0, .int .i64 0] 32)).heap.size = w.heap.size + 1 + 1 + 1 := by simp
 obtain ⟨X9, hX9⟩ : ∃ x, doneV m (wakeX m who.toNat (chosenOfV m who)) (wakeC m who) = x := ⟨_, rfl⟩
 rw [wake_is, hX9]
 have HX9 := hide hX9
 clear hX9
 go_enter Tryz.func20, Tryz.ntmps20
 go_upto_region 1 with fail
 generalize (((w.alloc (.cells #[.slice a0 m.rooms.length p0, .slice a1 m.guilds.length p1, .slice a2 m.smiths.length p2, .slice a3 m.desks.length p3, .slice a4 m.paces.length p4, .int .i64 m.now] 32)).alloc (.cells #[.int .i64 who] 2)).alloc (.cells #[.slice none 0 0, .slice none 0 0, .slice none 0 0, .slice none 0 0, .slice none 0 0, .int .i64 0] 32)) = W1 at *
 obtain ⟨c0, c1, c2, c3, c4, c5⟩ := K.cells
 go_wp2_with fail
 refine (tried_wake K.smy (uh HE) who (uh kc)).mono ?_
 rintro e w2 ⟨hb, h9⟩
 replace K := K.next hb
 replace kr := bl kr hb
 replace HE := hide ((uh HE).below hb)
 clear c0 c1 c2 c3 c4 c5 kc
 rcases h9 with ⟨hm, rfl⟩ | ⟨hm, hc0, b0, r0, b1, r1, b2, r2, b3, r3, b4, r4, rs, rfl, hf⟩ | ⟨hm, hc0, p, b0, r0, b1, r1, b2, r2, b3, r3, b4, r4, rs, rfl, kp, hf⟩
 ·
  have hX0 := hide ((uh HX9).symm.trans (done_bad hm _ _))
  clear hb
  go_wp2_with fail
  refine (told_bare (uh HE)).mono ?_
  rintro e w3 ⟨rfl, hb⟩
  replace K := K.next hb
  replace kr := bl kr hb
  clear hb
  obtain ⟨o0, o1, o2, o3, o4, o5⟩ := (uh kr).c6
  obtain ⟨f0, f1, f2, f3, f4, f5⟩ := (uh kr).f6
  go_wp2_with fail
  refine bodyPost_ret (v := .tuple #[.agg #[.slice none 0 0, .slice none 0 0, .slice none 0 0, .slice none 0 0, .slice none 0 0, .int .i64 0], .int .i64 3]) (by simp [results, Tryz.results20, go_sem, *]) rfl ⟨by rw [uh hX0]; exact ⟨_, _, _, _, _, [], rfl, full_zero _ _⟩, ?_⟩
  iterate 6 (refine Below.setCell ?_ (by show _ ≤ w.heap.size + 1 + 1; omega) _)
  exact K.bb
 ·
  have hX0 : Hid (X9 = (turnedV (wakeX m who.toNat (chosenOfV m who)), 0)) := hide (by rw [← uh HX9, hc0]; exact done_yes hm _)
  have HF := hide (hf.mono (n₁ := w.heap.size + 1 + 1 + 1) (by omega))
  clear hf hb HX9
  generalize turnedV (wakeX m who.toNat (chosenOfV m who)) = Y at *
  go_wp2_with fail
  refine told_nil.mono ?_
  rintro e w3 ⟨rfl, hb⟩
  replace K := K.next hb
  replace kr := bl kr hb
  replace HF := hide ((uh HF).below hb)
  clear hb
  obtain ⟨o0, o1, o2, o3, o4, o5⟩ := (uh kr).c6
  obtain ⟨f0, f1, f2, f3, f4, f5⟩ := (uh kr).f6
  go_wp2_with fail
  refine bodyPost_ret (v := .tuple #[.agg #[.slice b0 Y.rooms.length r0, .slice b1 Y.guilds.length r1, .slice b2 Y.smiths.length r2, .slice b3 Y.desks.length r3, .slice b4 Y.paces.length r4, .int .i64 Y.now], .int .i64 0]) (by simp [results, Tryz.results20, go_sem, *]) rfl ⟨?_, ?_⟩
  ·rw [uh hX0]
   refine ⟨_, _, _, _, _, rs, rfl, ?_⟩
   refine FullSmy.mono (n₀ := w.heap.size + 1 + 1 + 1) ?_ (by omega)
   iterate 6 (refine FullSmy.set_off ?_ (fun k e => by have := ((uh HF).own e).1; omega) _ _)
   exact uh HF
  ·iterate 6 (refine Below.setCell ?_ (by show _ ≤ w.heap.size + 1 + 1; omega) _)
   exact K.bb
 ·
  have hcn : (wakeC m who) ≠ 0 := by omega
  have hX0 := hide ((uh HX9).symm.trans (done_no hm _ hcn))
  have HF := hide (hf.mono (n₁ := w.heap.size + 1 + 1 + 1) (by omega))
  have Hkp := hide kp
  clear hf hb kp hcn HX9
  generalize wakeC m who = cd at *
  go_wp2_with fail
  refine (told_wrap (uh HE) hc0 (uh Hkp)).mono ?_
  rintro e w3 ⟨rfl, hb⟩
  replace K := K.next hb
  replace kr := bl kr hb
  replace HF := hide ((uh HF).below hb)
  clear hb Hkp
  obtain ⟨o0, o1, o2, o3, o4, o5⟩ := (uh kr).c6
  obtain ⟨f0, f1, f2, f3, f4, f5⟩ := (uh kr).f6
  go_wp2_with fail
  refine bodyPost_ret (v := .tuple #[.agg #[.slice b0 m.rooms.length r0, .slice b1 m.guilds.length r1, .slice b2 m.smiths.length r2, .slice b3 m.desks.length r3, .slice b4 m.paces.length r4, .int .i64 m.now], .int .i64 cd]) (by simp [results, Tryz.results20, go_sem, *]) rfl ⟨?_, ?_⟩
  ·rw [uh hX0]
   refine ⟨_, _, _, _, _, rs, rfl, ?_⟩
   refine FullSmy.mono (n₀ := w.heap.size + 1 + 1 + 1) ?_ (by omega)
   iterate 6 (refine FullSmy.set_off ?_ (fun k e => by have := ((uh HF).own e).1; omega) _ _)
   exact uh HF
  ·iterate 6 (refine Below.setCell ?_ (by show _ ≤ w.heap.size + 1 + 1; omega) _)
   exact K.bb
theorem implCome_any {w : World} {v0 v1 v2 v3 v4 : Value} {m : SmyV} {q : Int → Addr} (rank may guild : Int) (he : Errs w q) (h : Smy w v0 v1 v2 v3 v4 m) : Calls Tryz.prog 12 #[.agg #[v0, v1, v2, v3, v4, .int .i64 m.now], .int .i64 rank, .int .i64 may, .int .i64 guild] w fun e w' => GotM w.heap.size (comeV m rank may guild).1 (comeV m rank may guild).2 e w' ∧ Below w.heap.size w w' := by
 have HE := hide he
 clear he
 obtain ⟨a0, p0, a1, p1, a2, p2, a3, p3, a4, p4, rfl, rfl, rfl, rfl, rfl, K⟩ := Bx.new h
 clear h
 replace K := (K.alloc (.cells #[.slice none 0 0, .slice none 0 0, .slice none 0 0, .slice none 0 0, .slice none 0 0, .int .i64 0] 32)).alloc (.cells #[.int .i64 0, .int .i64 0, .int .i64 rank, .int .i64 may, .int .i64 guild, .int .i64 0, .int .i64 1024, .int .i64 0, .int .i64 0, .int .i64 0, .int .i64 0] 40)
 have kr : Hid (Blk (((w.alloc (.cells #[.slice a0 m.rooms.length p0, .slice a1 m.guilds.length p1, .slice a2 m.smiths.length p2, .slice a3 m.desks.length p3, .slice a4 m.paces.length p4, .int .i64 m.now] 32)).alloc (.cells #[.slice none 0 0, .slice none 0 0, .slice none 0 0, .slice none 0 0, .slice none 0 0, .int .i64 0] 32)).alloc (.cells #[.int .i64 0, .int .i64 0, .int .i64 rank, .int .i64 may, .int .i64 guild, .int .i64 0, .int .i64 1024, .int .i64 0, .int .i64 0, .int .i64 0, .int .i64 0] 40)) (w.heap.size + 1) 32 #[.slice none 0 0, .slice none 0 0, .slice none 0 0, .slice none 0 0, .slice none 0 0, .int .i64 0]) := hide (by
  have k := Blk.new (w.alloc (.cells #[.slice a0 m.rooms.length p0, .slice a1 m.guilds.length p1, .slice a2 m.smiths.length p2, .slice a3 m.desks.length p3, .slice a4 m.paces.length p4, .int .i64 m.now] 32)) 32 #[.slice none 0 0, .slice none 0 0, .slice none 0 0, .slice none 0 0, .slice none 0 0, .int .i64 0]
  rw [World.size_alloc] at k
  exact k.alloc _)
 have kc : Hid (Blk (((w.alloc (.cells #[.slice a0 m.rooms.length p0, .slice a1 m.guilds.length p1, .slice a2 m.smiths.length p2, .slice a3 m.desks.length p3, .slice a4 m.paces.length p4, .int .i64 m.now] 32)).alloc (.cells #[.slice none 0 0, .slice none 0 0, .slice none 0 0, .slice none 0 0, .slice none 0 0, .int .i64 0] 32)).alloc (.cells #[.int .i64 0, .int .i64 0, .int .i64 rank, .int .i64 may, .int .i64 guild, .int .i64 0, .int .i64 1024, .int .i64 0, .int .i64 0, .int .i64 0, .int .i64 0] 40)) (w.heap.size + 1 + 1) 40 #[.int .i64 0, .int .i64 0, .int .i64 rank, .int .i64 may, .int .i64 guild, .int .i64 0, .int .i64 1024, .int .i64 0, .int .i64 0, .int .i64 0, .int .i64 0]) := hide (by
  have k := Blk.new ((w.alloc (.cells #[.slice a0 m.rooms.length p0, .slice a1 m.guilds.length p1, .slice a2 m.smiths.length p2, .slice a3 m.desks.length p3, .slice a4 m.paces.length p4, .int .i64 m.now] 32)).alloc (.cells #[.slice none 0 0, .slice none 0 0, .slice none 0 0, .slice none 0 0, .slice none 0 0, .int .i64 0] 32)) 40 #[.int .i64 0, .int .i64 0, .int .i64 rank, .int .i64 may, .int .i64 guild, .int .i64 0, .int .i64 1024, .int .i64 0, .int .i64 0, .int .i64 0, .int .i64 0]
  rw [World.size_alloc, World.size_alloc] at k
  exact k)
 replace HE := hide ((uh HE).below K.bb)
 have hsz : (((w.alloc (.cells #[.slice a0 m.rooms.length p0, .slice a1 m.guilds.length p1, .slice a2 m.smiths.length p2, .slice a3 m.desks.length p3, .slice a4 m.paces.length p4, .int .i64 m.now] 32)).alloc (.cells #[.slice none 0 0, .slice none 0 0, .slice none 0 0, .slice none 0 0, .slice none 0 0, .int .i64 0] 32)).alloc (.cells #[.int .i64 0, .int .i64 0, .int .i64 rank, .int .i64 may, .int .i64 guild, .int .i64 0, .int .i64 1024, .int .i64 0, .int .i64 0, .int .i64 0, .int .i64 0] 40)).heap.size = w.heap.size + 1 + 1 + 1 := by simp
 obtain ⟨X9, hX9⟩ : ∃ x, doneV m (comeX m rank may guild) (comeC m rank may guild) = x := ⟨_, rfl⟩
 rw [come_is, hX9]
 have HX9 := hide hX9
 clear hX9
 go_enter Tryz.func12, Tryz.ntmps12
 go_upto_region 2 with fail
 generalize (((w.alloc (.cells #[.slice a0 m.rooms.length p0, .slice a1 m.guilds.length p1, .slice a2 m.smiths.length p2, .slice a3 m.desks.length p3, .slice a4 m.paces.length p4, .int .i64 m.now] 32)).alloc (.cells #[.slice none 0 0, .slice none 0 0, .slice none 0 0, .slice none 0 0, .slice none 0 0, .int .i64 0] 32)).alloc (.cells #[.int .i64 0, .int .i64 0, .int .i64 rank, .int .i64 may, .int .i64 guild, .int .i64 0, .int .i64 1024, .int .i64 0, .int .i64 0, .int .i64 0, .int .i64 0] 40)) = W1 at *
 obtain ⟨c0, c1, c2, c3, c4, c5⟩ := K.cells
 go_wp2_with fail
 refine (tried_come K.smy (uh HE) rank may guild (uh kc)).mono ?_
 rintro e w2 ⟨hb, h9⟩
 replace K := K.next hb
 replace kr := bl kr hb
 replace HE := hide ((uh HE).below hb)
 clear c0 c1 c2 c3 c4 c5 kc
 rcases h9 with ⟨hm, rfl⟩ | ⟨hm, hc0, b0, r0, b1, r1, b2, r2, b3, r3, b4, r4, rs, rfl, hf⟩ | ⟨hm, hc0, p, b0, r0, b1, r1, b2, r2, b3, r3, b4, r4, rs, rfl, kp, hf⟩
 ·
  have hX0 := hide ((uh HX9).symm.trans (done_bad hm _ _))
  clear hb
  go_wp2_with fail
  refine (told_bare (uh HE)).mono ?_
  rintro e w3 ⟨rfl, hb⟩
  replace K := K.next hb
  replace kr := bl kr hb
  clear hb
  obtain ⟨o0, o1, o2, o3, o4, o5⟩ := (uh kr).c6
  obtain ⟨f0, f1, f2, f3, f4, f5⟩ := (uh kr).f6
  go_wp2_with fail
  refine bodyPost_ret (v := .tuple #[.agg #[.slice none 0 0, .slice none 0 0, .slice none 0 0, .slice none 0 0, .slice none 0 0, .int .i64 0], .int .i64 3]) (by simp [results, Tryz.results12, go_sem, *]) rfl ⟨by rw [uh hX0]; exact ⟨_, _, _, _, _, [], rfl, full_zero _ _⟩, ?_⟩
  iterate 6 (refine Below.setCell ?_ (by show _ ≤ w.heap.size + 1; omega) _)
  exact K.bb
 ·
  have hX0 : Hid (X9 = (turnedV (comeX m rank may guild), 0)) := hide (by rw [← uh HX9, hc0]; exact done_yes hm _)
  have HF := hide (hf.mono (n₁ := w.heap.size + 1 + 1 + 1) (by omega))
  clear hf hb HX9
  generalize turnedV (comeX m rank may guild) = Y at *
  go_wp2_with fail
  refine told_nil.mono ?_
  rintro e w3 ⟨rfl, hb⟩
  replace K := K.next hb
  replace kr := bl kr hb
  replace HF := hide ((uh HF).below hb)
  clear hb
  obtain ⟨o0, o1, o2, o3, o4, o5⟩ := (uh kr).c6
  obtain ⟨f0, f1, f2, f3, f4, f5⟩ := (uh kr).f6
  go_wp2_with fail
  refine bodyPost_ret (v := .tuple #[.agg #[.slice b0 Y.rooms.length r0, .slice b1 Y.guilds.length r1, .slice b2 Y.smiths.length r2, .slice b3 Y.desks.length r3, .slice b4 Y.paces.length r4, .int .i64 Y.now], .int .i64 0]) (by simp [results, Tryz.results12, go_sem, *]) rfl ⟨?_, ?_⟩
  ·rw [uh hX0]
   refine ⟨_, _, _, _, _, rs, rfl, ?_⟩
   refine FullSmy.mono (n₀ := w.heap.size + 1 + 1 + 1) ?_ (by omega)
   iterate 6 (refine FullSmy.set_off ?_ (fun k e => by have := ((uh HF).own e).1; omega) _ _)
   exact uh HF
  ·iterate 6 (refine Below.setCell ?_ (by show _ ≤ w.heap.size + 1; omega) _)
   exact K.bb
 ·
  have hcn : (comeC m rank may guild) ≠ 0 := by omega
  have hX0 := hide ((uh HX9).symm.trans (done_no hm _ hcn))
  have HF := hide (hf.mono (n₁ := w.heap.size + 1 + 1 + 1) (by omega))
  have Hkp := hide kp
  clear hf hb kp hcn HX9
  generalize comeC m rank may guild = cd at *
  go_wp2_with fail
  refine (told_wrap (uh HE) hc0 (uh Hkp)).mono ?_
  rintro e w3 ⟨rfl, hb⟩
  replace K := K.next hb
  replace kr := bl kr hb
  replace HF := hide ((uh HF).below hb)
  clear hb Hkp
  obtain ⟨o0, o1, o2, o3, o4, o5⟩ := (uh kr).c6
  obtain ⟨f0, f1, f2, f3, f4, f5⟩ := (uh kr).f6
  go_wp2_with fail
  refine bodyPost_ret (v := .tuple #[.agg #[.slice b0 m.rooms.length r0, .slice b1 m.guilds.length r1, .slice b2 m.smiths.length r2, .slice b3 m.desks.length r3, .slice b4 m.paces.length r4, .int .i64 m.now], .int .i64 cd]) (by simp [results, Tryz.results12, go_sem, *]) rfl ⟨?_, ?_⟩
  ·rw [uh hX0]
   refine ⟨_, _, _, _, _, rs, rfl, ?_⟩
   refine FullSmy.mono (n₀ := w.heap.size + 1 + 1 + 1) ?_ (by omega)
   iterate 6 (refine FullSmy.set_off ?_ (fun k e => by have := ((uh HF).own e).1; omega) _ _)
   exact uh HF
  ·iterate 6 (refine Below.setCell ?_ (by show _ ≤ w.heap.size + 1; omega) _)
   exact K.bb
end Go.Proofs.YthbbahagpmdooaaGreatDoor
