/- What the proof rests on, part 21: lists and numbers, how they lie in memory, and contracts of the calls. No condition but those that a theorem names. -/
import Derived.Test.YthbbahagpmdooaaGreatDoorXr01
import Derived.Test.YthbbahagpmdooaaGreatDoorXr02
import Derived.Test.YthbbahagpmdooaaGreatDoorXr03
import Derived.Test.YthbbahagpmdooaaGreatDoorXr04
import Derived.Test.YthbbahagpmdooaaGreatDoorXr05
import Derived.Test.YthbbahagpmdooaaGreatDoorXr06
import Derived.Test.YthbbahagpmdooaaGreatDoorXr07
import Derived.Test.YthbbahagpmdooaaGreatDoorXr08
import Derived.Test.YthbbahagpmdooaaGreatDoorXr09
import Derived.Test.YthbbahagpmdooaaGreatDoorXr10
import Derived.Test.YthbbahagpmdooaaGreatDoorXr11
import Derived.Test.YthbbahagpmdooaaGreatDoorXr12
import Derived.Test.YthbbahagpmdooaaGreatDoorXr13
import Derived.Test.YthbbahagpmdooaaGreatDoorXr14
import Derived.Test.YthbbahagpmdooaaGreatDoorXr15
import Derived.Test.YthbbahagpmdooaaGreatDoorXr16
import Derived.Test.YthbbahagpmdooaaGreatDoorXr17
import Derived.Test.YthbbahagpmdooaaGreatDoorXr18
import Derived.Test.YthbbahagpmdooaaGreatDoorXr19
import Derived.Test.YthbbahagpmdooaaGreatDoorXr20
import Derived.WalkMore
import Derived.Below
import Derived.ChangeKeysEq
import Derived.Laws.StructEq
import Derived.WalkKit
import Derived.ProofKit
import Derived.OpenShut
import Derived.Outline
import Derived.Deep.RegionWith
import Derived.Lib.QuietBelow
import Derived.RangeFuncCalls
import Derived.Shelf.RegionOpen
import Derived.Deep.RegionHeld3
import Derived.Deep.DrawnRows
import Derived.BigRegion
import Derived.Deep.RegionLawGrows
import Derived.Deep.LoopGhost
import Derived.LaidEql
import Derived.Stop.Asserts
import Derived.RowKitTokens
import Derived.Deep.QuietTactic
import Derived.BigQuiet
import Derived.Laws.OwnMore
import Derived.OwnWalk
import Derived.Maps.AppendAt
import Derived.RangeFuncNested
import Derived.RangeFuncBound
import Derived.RangeFuncLeaves
import Derived.RangeFuncBox
import Derived.Shelf.Abstract
import Derived.OwnWalkIn
import Derived.TacticsInMore
import Derived.LoopNIn
import Derived.LoopIn
import Derived.Lib.SmallJoins
import Derived.Deep.Fields
import Derived.Deep.Slices
import Derived.OrdersHeld
import Derived.Deep.RegionHeldLaw
import Derived.Deep.DeepCutAuto
import Derived.Laws.CopyRow
/- Contracts of the program's tried, told, Come, Rest, Wake and Leave: each answers what the lists say, in memory of its own. Conditions: the smithy can be read; the sentinels lie in their variables. -/
namespace Go.Proofs.YthbbahagpmdooaaGreatDoor
open Go.ChangeShapes Go.WideShapes Go.ChangeAt Go.RowKit Go.Sort Go.Shelf
set_option linter.unusedVariables false
set_option linter.unusedSimpArgs false
set_option maxRecDepth 100000

set_option maxHeartbeats 8000000 in
theorem told_nil {a0 a1 a2 a3 a4 : Option Addr} {n0 n1 n2 n3 n4 p0 p1 p2 p3 p4 : Nat} {now : Int} {W : World} : Calls Tryz.prog 39 #[.agg #[.slice a0 n0 p0, .slice a1 n1 p1, .slice a2 n2 p2, .slice a3 n3 p3, .slice a4 n4 p4, .int .i64 now], .nilIface] W fun e w' => e = .returned (.tuple #[.agg #[.slice a0 n0 p0, .slice a1 n1 p1, .slice a2 n2 p2, .slice a3 n3 p3, .slice a4 n4 p4, .int .i64 now], .int .i64 0]) ∧ Below W.heap.size W w' := by
  have kb : Hid (Blk (((W.alloc (.cells #[.slice a0 n0 p0, .slice a1 n1 p1, .slice a2 n2 p2, .slice a3 n3 p3, .slice a4 n4 p4, .int .i64 now] 32)).alloc (.cells #[.slice none 0 0, .slice none 0 0, .slice none 0 0, .slice none 0 0, .slice none 0 0, .int .i64 0] 32)).alloc (.cells #[.pointer none] 112)) W.heap.size 32 #[.slice a0 n0 p0, .slice a1 n1 p1, .slice a2 n2 p2, .slice a3 n3 p3, .slice a4 n4 p4, .int .i64 now]) := hide (((Blk.new W _ _).alloc _).alloc _)
  have kr : Hid (Blk (((W.alloc (.cells #[.slice a0 n0 p0, .slice a1 n1 p1, .slice a2 n2 p2, .slice a3 n3 p3, .slice a4 n4 p4, .int .i64 now] 32)).alloc (.cells #[.slice none 0 0, .slice none 0 0, .slice none 0 0, .slice none 0 0, .slice none 0 0, .int .i64 0] 32)).alloc (.cells #[.pointer none] 112)) (W.heap.size + 1) 32 #[.slice none 0 0, .slice none 0 0, .slice none 0 0, .slice none 0 0, .slice none 0 0, .int .i64 0]) := hide (by
    have k := Blk.new (W.alloc (.cells #[.slice a0 n0 p0, .slice a1 n1 p1, .slice a2 n2 p2, .slice a3 n3 p3, .slice a4 n4 p4, .int .i64 now] 32)) 32 #[.slice none 0 0, .slice none 0 0, .slice none 0 0, .slice none 0 0, .slice none 0 0, .int .i64 0]
    rw [World.size_alloc] at k
    exact k.alloc _)
  have kv : Hid (Blk (((W.alloc (.cells #[.slice a0 n0 p0, .slice a1 n1 p1, .slice a2 n2 p2, .slice a3 n3 p3, .slice a4 n4 p4, .int .i64 now] 32)).alloc (.cells #[.slice none 0 0, .slice none 0 0, .slice none 0 0, .slice none 0 0, .slice none 0 0, .int .i64 0] 32)).alloc (.cells #[.pointer none] 112)) (W.heap.size + 1 + 1) 112 #[.pointer none]) := hide (by
    have k := Blk.new ((W.alloc (.cells #[.slice a0 n0 p0, .slice a1 n1 p1, .slice a2 n2 p2, .slice a3 n3 p3, .slice a4 n4 p4, .int .i64 now] 32)).alloc (.cells #[.slice none 0 0, .slice none 0 0, .slice none 0 0, .slice none 0 0, .slice none 0 0, .int .i64 0] 32)) 112 #[.pointer none]
    rw [World.size_alloc, World.size_alloc] at k
    exact k)
  have BB : Hid (Below W.heap.size W (((W.alloc (.cells #[.slice a0 n0 p0, .slice a1 n1 p1, .slice a2 n2 p2, .slice a3 n3 p3, .slice a4 n4 p4, .int .i64 now] 32)).alloc (.cells #[.slice none 0 0, .slice none 0 0, .slice none 0 0, .slice none 0 0, .slice none 0 0, .int .i64 0] 32)).alloc (.cells #[.pointer none] 112))) := hide ((((Below.refl _ _).alloc (Nat.le_refl _) _).alloc (by simp) _).alloc (by simp; omega) _)
  have hsz : (((W.alloc (.cells #[.slice a0 n0 p0, .slice a1 n1 p1, .slice a2 n2 p2, .slice a3 n3 p3, .slice a4 n4 p4, .int .i64 now] 32)).alloc (.cells #[.slice none 0 0, .slice none 0 0, .slice none 0 0, .slice none 0 0, .slice none 0 0, .int .i64 0] 32)).alloc (.cells #[.pointer none] 112)).heap.size = W.heap.size + 1 + 1 + 1 := by simp
  go_enter Tryz.func39, Tryz.ntmps39
  go_wp2_with fail
  generalize (((W.alloc (.cells #[.slice a0 n0 p0, .slice a1 n1 p1, .slice a2 n2 p2, .slice a3 n3 p3, .slice a4 n4 p4, .int .i64 now] 32)).alloc (.cells #[.slice none 0 0, .slice none 0 0, .slice none 0 0, .slice none 0 0, .slice none 0 0, .int .i64 0] 32)).alloc (.cells #[.pointer none] 112)) = W1 at *
  refine (as_nil _ _).mono ?_
  rintro e w1 ⟨rfl, h9⟩
  subst w1
  obtain ⟨t0, t1, t2, t3, t4, t5⟩ := (unhide kb).c6
  go_wp2_with fail
  refine wp_region_last (S := fun w' => w'.cell? ⟨W.heap.size, 0, none⟩ = some (.slice a0 n0 p0) ∧ w'.cell? ⟨W.heap.size, 1, none⟩ = some (.slice a1 n1 p1) ∧ w'.cell? ⟨W.heap.size, 2, none⟩ = some (.slice a2 n2 p2) ∧ w'.cell? ⟨W.heap.size, 3, none⟩ = some (.slice a3 n3 p3) ∧ w'.cell? ⟨W.heap.size, 4, none⟩ = some (.slice a4 n4 p4) ∧ w'.cell? ⟨W.heap.size, 5, none⟩ = some (.int .i64 now)) (by kernel_rfl) (List.cons_ne_nil _ _) (by kernel_rfl) ⟨t0, t1, t2, t3, t4, t5⟩ (fun hHeld => ?_)
  simp only [List.dropLast_cons_cons, List.dropLast_singleton, List.length_cons, List.length_nil, Nat.zero_add, Nat.reduceAdd]
  have hbd : Below W1.heap.size W1 W1.drew := (Below.refl _ _).drew
  replace kr := bl kr hbd
  replace BB := bt BB hbd
  replace kb := bl kb hbd
  clear t0 t1 t2 t3 t4 t5
  clear hbd
  generalize W1.drew = W5 at *
  obtain ⟨t0, t1, t2, t3, t4, t5⟩ := (unhide kb).c6
  (refine wpAnyH_take (i := 0) (v := ?_) rfl (by kernel_rfl) (by kernel_rfl) (by kernel_rfl) (fun _ _ _ h => h) (Or.inl ⟨by rfl, ?_⟩) (by assumption) ?_; rotate_left; (intro W9 hSw; (try dsimp only at hSw); go_simp; (try with_reducible rfl)); (try simp only [Act.put, List.setIfInBounds_toArray, List.set_cons_zero, List.set_cons_succ]))
  (refine wpAnyH_take (i := 1) (v := ?_) rfl (by kernel_rfl) (by kernel_rfl) (by kernel_rfl) (fun _ _ _ h => h) (Or.inl ⟨by rfl, ?_⟩) (by assumption) ?_; rotate_left; (intro W9 hSw; (try dsimp only at hSw); go_simp; (try with_reducible rfl)); (try simp only [Act.put, List.setIfInBounds_toArray, List.set_cons_zero, List.set_cons_succ]))
  refine wpAnyH_ready (rs := [2]) (by kernel_rfl) (by simp) ?_
  refine AllReadyH.cons rfl (fun K0 hK => ?_) AllReadyH.nil
  go_simp
  refine (codeOf_nil _).mono ?_
  rintro e9 w9 ⟨rfl, h9⟩
  subst w9
  refine hK.out _ _ ⟨t0, t1, t2, t3, t4, t5⟩ (fun hHeld => ?_)
  clear hK K0
  (try simp only [Act.put, List.setIfInBounds_toArray, List.set_cons_zero, List.set_cons_succ])
  have o0 := (unhide kr).cell (i := 0) (v := .slice none 0 0) rfl
  have f0 := (unhide kr).free 0
  have o1 := (unhide kr).cell (i := 1) (v := .slice none 0 0) rfl
  have f1 := (unhide kr).free 1
  have o2 := (unhide kr).cell (i := 2) (v := .slice none 0 0) rfl
  have f2 := (unhide kr).free 2
  have o3 := (unhide kr).cell (i := 3) (v := .slice none 0 0) rfl
  have f3 := (unhide kr).free 3
  have o4 := (unhide kr).cell (i := 4) (v := .slice none 0 0) rfl
  have f4 := (unhide kr).free 4
  have o5 := (unhide kr).cell (i := 5) (v := .int .i64 0) rfl
  have f5 := (unhide kr).free 5
  have kbN : Blk ((((((W5.setCell ⟨W.heap.size + 1, 0, none⟩ (.slice a0 n0 p0)).setCell ⟨W.heap.size + 1, 1, none⟩ (.slice a1 n1 p1)).setCell ⟨W.heap.size + 1, 2, none⟩ (.slice a2 n2 p2)).setCell ⟨W.heap.size + 1, 3, none⟩ (.slice a3 n3 p3)).setCell ⟨W.heap.size + 1, 4, none⟩ (.slice a4 n4 p4)).setCell ⟨W.heap.size + 1, 5, none⟩ (.int .i64 now)) W.heap.size 32 #[.slice a0 n0 p0, .slice a1 n1 p1, .slice a2 n2 p2, .slice a3 n3 p3, .slice a4 n4 p4, .int .i64 now] := (((((((unhide kb).other (a := ⟨W.heap.size + 1, 0, none⟩) (by show W.heap.size ≠ W.heap.size + 1; omega) (.slice a0 n0 p0)).other (a := ⟨W.heap.size + 1, 1, none⟩) (by show W.heap.size ≠ W.heap.size + 1; omega) (.slice a1 n1 p1)).other (a := ⟨W.heap.size + 1, 2, none⟩) (by show W.heap.size ≠ W.heap.size + 1; omega) (.slice a2 n2 p2)).other (a := ⟨W.heap.size + 1, 3, none⟩) (by show W.heap.size ≠ W.heap.size + 1; omega) (.slice a3 n3 p3)).other (a := ⟨W.heap.size + 1, 4, none⟩) (by show W.heap.size ≠ W.heap.size + 1; omega) (.slice a4 n4 p4)).other (a := ⟨W.heap.size + 1, 5, none⟩) (by show W.heap.size ≠ W.heap.size + 1; omega) (.int .i64 now))
  refine wpAnyH_ready (rs := [3]) (by kernel_rfl) (by simp) ?_
  refine AllReadyH.cons rfl (fun K0 hK => ?_) AllReadyH.nil
  go_simp
  refine hK.out _ _ ⟨kbN.cell (i := 0) rfl, kbN.cell (i := 1) rfl, kbN.cell (i := 2) rfl, kbN.cell (i := 3) rfl, kbN.cell (i := 4) rfl, kbN.cell (i := 5) rfl⟩ (fun hHeld => ?_)
  clear hK K0
  (try simp only [Act.put, List.setIfInBounds_toArray, List.set_cons_zero, List.set_cons_succ])
  refine wpAnyH_done (by kernel_rfl) ?_ _
  refine tailQ_run rfl rfl ?_
  go_simp
  clear hHeld
  go_wp2_with fail
  refine bodyPost_ret (v := .tuple #[.agg #[.slice a0 n0 p0, .slice a1 n1 p1, .slice a2 n2 p2, .slice a3 n3 p3, .slice a4 n4 p4, .int .i64 now], .int .i64 0]) (by simp [results, Tryz.results39, go_sem, *]) rfl ⟨rfl, ?_⟩
  iterate 6 (refine Below.setCell ?_ (by show _ ≤ W.heap.size + 1; omega) _)
  exact unhide BB
set_option maxHeartbeats 8000000 in
theorem told_bare {a0 a1 a2 a3 a4 : Option Addr} {n0 n1 n2 n3 n4 p0 p1 p2 p3 p4 : Nat} {now : Int} {W : World} {q : Int → Addr} (he : Errs W q) : Calls Tryz.prog 39 #[.agg #[.slice a0 n0 p0, .slice a1 n1 p1, .slice a2 n2 p2, .slice a3 n3 p3, .slice a4 n4 p4, .int .i64 now], sent (q 3)] W fun e w' => e = .returned (.tuple #[.agg #[.slice a0 n0 p0, .slice a1 n1 p1, .slice a2 n2 p2, .slice a3 n3 p3, .slice a4 n4 p4, .int .i64 now], .int .i64 3]) ∧ Below W.heap.size W w' := by
  have HE := hide he
  clear he
  have kb : Hid (Blk (((W.alloc (.cells #[.slice a0 n0 p0, .slice a1 n1 p1, .slice a2 n2 p2, .slice a3 n3 p3, .slice a4 n4 p4, .int .i64 now] 32)).alloc (.cells #[.slice none 0 0, .slice none 0 0, .slice none 0 0, .slice none 0 0, .slice none 0 0, .int .i64 0] 32)).alloc (.cells #[.pointer none] 112)) W.heap.size 32 #[.slice a0 n0 p0, .slice a1 n1 p1, .slice a2 n2 p2, .slice a3 n3 p3, .slice a4 n4 p4, .int .i64 now]) := hide (((Blk.new W _ _).alloc _).alloc _)
  have kr : Hid (Blk (((W.alloc (.cells #[.slice a0 n0 p0, .slice a1 n1 p1, .slice a2 n2 p2, .slice a3 n3 p3, .slice a4 n4 p4, .int .i64 now] 32)).alloc (.cells #[.slice none 0 0, .slice none 0 0, .slice none 0 0, .slice none 0 0, .slice none 0 0, .int .i64 0] 32)).alloc (.cells #[.pointer none] 112)) (W.heap.size + 1) 32 #[.slice none 0 0, .slice none 0 0, .slice none 0 0, .slice none 0 0, .slice none 0 0, .int .i64 0]) := hide (by
    have k := Blk.new (W.alloc (.cells #[.slice a0 n0 p0, .slice a1 n1 p1, .slice a2 n2 p2, .slice a3 n3 p3, .slice a4 n4 p4, .int .i64 now] 32)) 32 #[.slice none 0 0, .slice none 0 0, .slice none 0 0, .slice none 0 0, .slice none 0 0, .int .i64 0]
    rw [World.size_alloc] at k
    exact k.alloc _)
  have kv : Hid (Blk (((W.alloc (.cells #[.slice a0 n0 p0, .slice a1 n1 p1, .slice a2 n2 p2, .slice a3 n3 p3, .slice a4 n4 p4, .int .i64 now] 32)).alloc (.cells #[.slice none 0 0, .slice none 0 0, .slice none 0 0, .slice none 0 0, .slice none 0 0, .int .i64 0] 32)).alloc (.cells #[.pointer none] 112)) (W.heap.size + 1 + 1) 112 #[.pointer none]) := hide (by
    have k := Blk.new ((W.alloc (.cells #[.slice a0 n0 p0, .slice a1 n1 p1, .slice a2 n2 p2, .slice a3 n3 p3, .slice a4 n4 p4, .int .i64 now] 32)).alloc (.cells #[.slice none 0 0, .slice none 0 0, .slice none 0 0, .slice none 0 0, .slice none 0 0, .int .i64 0] 32)) 112 #[.pointer none]
    rw [World.size_alloc, World.size_alloc] at k
    exact k)
  have BB : Hid (Below W.heap.size W (((W.alloc (.cells #[.slice a0 n0 p0, .slice a1 n1 p1, .slice a2 n2 p2, .slice a3 n3 p3, .slice a4 n4 p4, .int .i64 now] 32)).alloc (.cells #[.slice none 0 0, .slice none 0 0, .slice none 0 0, .slice none 0 0, .slice none 0 0, .int .i64 0] 32)).alloc (.cells #[.pointer none] 112))) := hide ((((Below.refl _ _).alloc (Nat.le_refl _) _).alloc (by simp) _).alloc (by simp; omega) _)
  have hsz : (((W.alloc (.cells #[.slice a0 n0 p0, .slice a1 n1 p1, .slice a2 n2 p2, .slice a3 n3 p3, .slice a4 n4 p4, .int .i64 now] 32)).alloc (.cells #[.slice none 0 0, .slice none 0 0, .slice none 0 0, .slice none 0 0, .slice none 0 0, .int .i64 0] 32)).alloc (.cells #[.pointer none] 112)).heap.size = W.heap.size + 1 + 1 + 1 := by simp
  have HX := hide ((unhide HE).below (unhide BB))
  go_enter Tryz.func39, Tryz.ntmps39
  go_wp2_with fail
  generalize (((W.alloc (.cells #[.slice a0 n0 p0, .slice a1 n1 p1, .slice a2 n2 p2, .slice a3 n3 p3, .slice a4 n4 p4, .int .i64 now] 32)).alloc (.cells #[.slice none 0 0, .slice none 0 0, .slice none 0 0, .slice none 0 0, .slice none 0 0, .int .i64 0] 32)).alloc (.cells #[.pointer none] 112)) = W1 at *
  refine (as_no (q 3) _ _ (unhide HX).ct).mono ?_
  rintro e w1 ⟨rfl, hb⟩
  replace kb := bl kb hb
  replace kr := bl kr hb
  replace BB := bt BB hb
  replace HX := hide ((unhide HX).below hb)
  clear hb
  obtain ⟨t0, t1, t2, t3, t4, t5⟩ := (unhide kb).c6
  go_wp2_with fail
  refine wp_region_last (S := fun w' => w'.cell? ⟨W.heap.size, 0, none⟩ = some (.slice a0 n0 p0) ∧ w'.cell? ⟨W.heap.size, 1, none⟩ = some (.slice a1 n1 p1) ∧ w'.cell? ⟨W.heap.size, 2, none⟩ = some (.slice a2 n2 p2) ∧ w'.cell? ⟨W.heap.size, 3, none⟩ = some (.slice a3 n3 p3) ∧ w'.cell? ⟨W.heap.size, 4, none⟩ = some (.slice a4 n4 p4) ∧ w'.cell? ⟨W.heap.size, 5, none⟩ = some (.int .i64 now)) (by kernel_rfl) (List.cons_ne_nil _ _) (by kernel_rfl) ⟨t0, t1, t2, t3, t4, t5⟩ (fun hHeld => ?_)
  simp only [List.dropLast_cons_cons, List.dropLast_singleton, List.length_cons, List.length_nil, Nat.zero_add, Nat.reduceAdd]
  have hbd : Below w1.heap.size w1 w1.drew := (Below.refl _ _).drew
  replace kr := bl kr hbd
  replace BB := bt BB hbd
  replace kb := bl kb hbd
  clear t0 t1 t2 t3 t4 t5
  replace HX := hide ((unhide HX).below hbd)
  clear hbd
  generalize w1.drew = W5 at *
  obtain ⟨t0, t1, t2, t3, t4, t5⟩ := (unhide kb).c6
  (refine wpAnyH_take (i := 0) (v := ?_) rfl (by kernel_rfl) (by kernel_rfl) (by kernel_rfl) (fun _ _ _ h => h) (Or.inl ⟨by rfl, ?_⟩) (by assumption) ?_; rotate_left; (intro W9 hSw; (try dsimp only at hSw); go_simp; (try with_reducible rfl)); (try simp only [Act.put, List.setIfInBounds_toArray, List.set_cons_zero, List.set_cons_succ]))
  (refine wpAnyH_take (i := 1) (v := ?_) rfl (by kernel_rfl) (by kernel_rfl) (by kernel_rfl) (fun _ _ _ h => h) (Or.inl ⟨by rfl, ?_⟩) (by assumption) ?_; rotate_left; (intro W9 hSw; (try dsimp only at hSw); go_simp; (try with_reducible rfl)); (try simp only [Act.put, List.setIfInBounds_toArray, List.set_cons_zero, List.set_cons_succ]))
  refine wpAnyH_ready (rs := [2]) (by kernel_rfl) (by simp) ?_
  refine AllReadyH.cons rfl (fun K0 hK => ?_) AllReadyH.nil
  go_simp
  refine (codeOf_bare (unhide HX)).mono ?_
  rintro e9 w9 ⟨rfl, h9⟩
  subst w9
  refine hK.out _ _ ⟨t0, t1, t2, t3, t4, t5⟩ (fun hHeld => ?_)
  clear hK K0
  (try simp only [Act.put, List.setIfInBounds_toArray, List.set_cons_zero, List.set_cons_succ])
  have o0 := (unhide kr).cell (i := 0) (v := .slice none 0 0) rfl
  have f0 := (unhide kr).free 0
  have o1 := (unhide kr).cell (i := 1) (v := .slice none 0 0) rfl
  have f1 := (unhide kr).free 1
  have o2 := (unhide kr).cell (i := 2) (v := .slice none 0 0) rfl
  have f2 := (unhide kr).free 2
  have o3 := (unhide kr).cell (i := 3) (v := .slice none 0 0) rfl
  have f3 := (unhide kr).free 3
  have o4 := (unhide kr).cell (i := 4) (v := .slice none 0 0) rfl
  have f4 := (unhide kr).free 4
  have o5 := (unhide kr).cell (i := 5) (v := .int .i64 0) rfl
  have f5 := (unhide kr).free 5
  have kbN : Blk ((((((W5.setCell ⟨W.heap.size + 1, 0, none⟩ (.slice a0 n0 p0)).setCell ⟨W.heap.size + 1, 1, none⟩ (.slice a1 n1 p1)).setCell ⟨W.heap.size + 1, 2, none⟩ (.slice a2 n2 p2)).setCell ⟨W.heap.size + 1, 3, none⟩ (.slice a3 n3 p3)).setCell ⟨W.heap.size + 1, 4, none⟩ (.slice a4 n4 p4)).setCell ⟨W.heap.size + 1, 5, none⟩ (.int .i64 now)) W.heap.size 32 #[.slice a0 n0 p0, .slice a1 n1 p1, .slice a2 n2 p2, .slice a3 n3 p3, .slice a4 n4 p4, .int .i64 now] := (((((((unhide kb).other (a := ⟨W.heap.size + 1, 0, none⟩) (by show W.heap.size ≠ W.heap.size + 1; omega) (.slice a0 n0 p0)).other (a := ⟨W.heap.size + 1, 1, none⟩) (by show W.heap.size ≠ W.heap.size + 1; omega) (.slice a1 n1 p1)).other (a := ⟨W.heap.size + 1, 2, none⟩) (by show W.heap.size ≠ W.heap.size + 1; omega) (.slice a2 n2 p2)).other (a := ⟨W.heap.size + 1, 3, none⟩) (by show W.heap.size ≠ W.heap.size + 1; omega) (.slice a3 n3 p3)).other (a := ⟨W.heap.size + 1, 4, none⟩) (by show W.heap.size ≠ W.heap.size + 1; omega) (.slice a4 n4 p4)).other (a := ⟨W.heap.size + 1, 5, none⟩) (by show W.heap.size ≠ W.heap.size + 1; omega) (.int .i64 now))
  refine wpAnyH_ready (rs := [3]) (by kernel_rfl) (by simp) ?_
  refine AllReadyH.cons rfl (fun K0 hK => ?_) AllReadyH.nil
  go_simp
  refine hK.out _ _ ⟨kbN.cell (i := 0) rfl, kbN.cell (i := 1) rfl, kbN.cell (i := 2) rfl, kbN.cell (i := 3) rfl, kbN.cell (i := 4) rfl, kbN.cell (i := 5) rfl⟩ (fun hHeld => ?_)
  clear hK K0
  (try simp only [Act.put, List.setIfInBounds_toArray, List.set_cons_zero, List.set_cons_succ])
  refine wpAnyH_done (by kernel_rfl) ?_ _
  refine tailQ_run rfl rfl ?_
  go_simp
  clear hHeld
  go_wp2_with fail
  refine bodyPost_ret (v := .tuple #[.agg #[.slice a0 n0 p0, .slice a1 n1 p1, .slice a2 n2 p2, .slice a3 n3 p3, .slice a4 n4 p4, .int .i64 now], .int .i64 3]) (by simp [results, Tryz.results39, go_sem, *]) rfl ⟨rfl, ?_⟩
  iterate 6 (refine Below.setCell ?_ (by show _ ≤ W.heap.size + 1; omega) _)
  exact unhide BB
set_option maxHeartbeats 8000000 in
theorem told_wrap {a0 a1 a2 a3 a4 : Option Addr} {n0 n1 n2 n3 n4 p0 p1 p2 p3 p4 : Nat} {now : Int} {b0 b1 b2 b3 b4 : Option Addr} {l0 l1 l2 l3 l4 r0 r1 r2 r3 r4 : Nat} {nw : Int} {W : World} {q : Int → Addr} (he : Errs W q) {p : Nat} {c : Int} (hcc : c = 1 ∨ c = 2 ∨ c = 3 ∨ c = 4) (hp : Blk W p 116 #[.slice b0 l0 r0, .slice b1 l1 r1, .slice b2 l2 r2, .slice b3 l3 r3, .slice b4 l4 r4, .int .i64 nw, sent (q c)]) : Calls Tryz.prog 39 #[.agg #[.slice a0 n0 p0, .slice a1 n1 p1, .slice a2 n2 p2, .slice a3 n3 p3, .slice a4 n4 p4, .int .i64 now], refu p] W fun e w' => e = .returned (.tuple #[.agg #[.slice b0 l0 r0, .slice b1 l1 r1, .slice b2 l2 r2, .slice b3 l3 r3, .slice b4 l4 r4, .int .i64 nw], .int .i64 c]) ∧ Below W.heap.size W w' := by
  have HE := hide he
  have Hp := hide hp
  clear he hp
  have kb : Hid (Blk (((W.alloc (.cells #[.slice a0 n0 p0, .slice a1 n1 p1, .slice a2 n2 p2, .slice a3 n3 p3, .slice a4 n4 p4, .int .i64 now] 32)).alloc (.cells #[.slice none 0 0, .slice none 0 0, .slice none 0 0, .slice none 0 0, .slice none 0 0, .int .i64 0] 32)).alloc (.cells #[.pointer none] 112)) W.heap.size 32 #[.slice a0 n0 p0, .slice a1 n1 p1, .slice a2 n2 p2, .slice a3 n3 p3, .slice a4 n4 p4, .int .i64 now]) := hide (((Blk.new W _ _).alloc _).alloc _)
  have kr : Hid (Blk (((W.alloc (.cells #[.slice a0 n0 p0, .slice a1 n1 p1, .slice a2 n2 p2, .slice a3 n3 p3, .slice a4 n4 p4, .int .i64 now] 32)).alloc (.cells #[.slice none 0 0, .slice none 0 0, .slice none 0 0, .slice none 0 0, .slice none 0 0, .int .i64 0] 32)).alloc (.cells #[.pointer none] 112)) (W.heap.size + 1) 32 #[.slice none 0 0, .slice none 0 0, .slice none 0 0, .slice none 0 0, .slice none 0 0, .int .i64 0]) := hide (by
    have k := Blk.new (W.alloc (.cells #[.slice a0 n0 p0, .slice a1 n1 p1, .slice a2 n2 p2, .slice a3 n3 p3, .slice a4 n4 p4, .int .i64 now] 32)) 32 #[.slice none 0 0, .slice none 0 0, .slice none 0 0, .slice none 0 0, .slice none 0 0, .int .i64 0]
    rw [World.size_alloc] at k
    exact k.alloc _)
  have kv : Hid (Blk (((W.alloc (.cells #[.slice a0 n0 p0, .slice a1 n1 p1, .slice a2 n2 p2, .slice a3 n3 p3, .slice a4 n4 p4, .int .i64 now] 32)).alloc (.cells #[.slice none 0 0, .slice none 0 0, .slice none 0 0, .slice none 0 0, .slice none 0 0, .int .i64 0] 32)).alloc (.cells #[.pointer none] 112)) (W.heap.size + 1 + 1) 112 #[.pointer none]) := hide (by
    have k := Blk.new ((W.alloc (.cells #[.slice a0 n0 p0, .slice a1 n1 p1, .slice a2 n2 p2, .slice a3 n3 p3, .slice a4 n4 p4, .int .i64 now] 32)).alloc (.cells #[.slice none 0 0, .slice none 0 0, .slice none 0 0, .slice none 0 0, .slice none 0 0, .int .i64 0] 32)) 112 #[.pointer none]
    rw [World.size_alloc, World.size_alloc] at k
    exact k)
  have BB : Hid (Below W.heap.size W (((W.alloc (.cells #[.slice a0 n0 p0, .slice a1 n1 p1, .slice a2 n2 p2, .slice a3 n3 p3, .slice a4 n4 p4, .int .i64 now] 32)).alloc (.cells #[.slice none 0 0, .slice none 0 0, .slice none 0 0, .slice none 0 0, .slice none 0 0, .int .i64 0] 32)).alloc (.cells #[.pointer none] 112))) := hide ((((Below.refl _ _).alloc (Nat.le_refl _) _).alloc (by simp) _).alloc (by simp; omega) _)
  have hsz : (((W.alloc (.cells #[.slice a0 n0 p0, .slice a1 n1 p1, .slice a2 n2 p2, .slice a3 n3 p3, .slice a4 n4 p4, .int .i64 now] 32)).alloc (.cells #[.slice none 0 0, .slice none 0 0, .slice none 0 0, .slice none 0 0, .slice none 0 0, .int .i64 0] 32)).alloc (.cells #[.pointer none] 112)).heap.size = W.heap.size + 1 + 1 + 1 := by simp
  have HX := hide ((unhide HE).below (unhide BB))
  have kp := hide ((unhide Hp).below (unhide BB) (unhide Hp).lt)
  go_enter Tryz.func39, Tryz.ntmps39
  go_wp2_with fail
  generalize (((W.alloc (.cells #[.slice a0 n0 p0, .slice a1 n1 p1, .slice a2 n2 p2, .slice a3 n3 p3, .slice a4 n4 p4, .int .i64 now] 32)).alloc (.cells #[.slice none 0 0, .slice none 0 0, .slice none 0 0, .slice none 0 0, .slice none 0 0, .int .i64 0] 32)).alloc (.cells #[.pointer none] 112)) = W1 at *
  refine (as_yes _ p _ (unhide HX).ct ((unhide kv).cell (i := 0) rfl) ((unhide kv).free 0)).mono ?_
  rintro e w1 ⟨rfl, hc, hall⟩
  have hb := hall (W.heap.size + 1 + 1) (Nat.le_refl _) (by omega)
  have hpl := (unhide Hp).lt
  replace kb := hide ((unhide kb).below hb (by omega))
  replace kr := hide ((unhide kr).below hb (by omega))
  replace kp := hide ((unhide kp).below hb (by omega))
  have hE0 := (unhide HE).below ((unhide BB).trans (hb.mono (by omega)))
  replace BB := hide ((unhide BB).trans (hb.mono (by omega)))
  replace HX := hide hE0
  clear hb hall hE0 kv hsz hpl
  obtain ⟨t0, t1, t2, t3, t4, t5⟩ : w1.cell? ⟨p, 0, none⟩ = some (.slice b0 l0 r0) ∧ w1.cell? ⟨p, 1, none⟩ = some (.slice b1 l1 r1) ∧ w1.cell? ⟨p, 2, none⟩ = some (.slice b2 l2 r2) ∧ w1.cell? ⟨p, 3, none⟩ = some (.slice b3 l3 r3) ∧ w1.cell? ⟨p, 4, none⟩ = some (.slice b4 l4 r4) ∧ w1.cell? ⟨p, 5, none⟩ = some (.int .i64 nw) := ⟨(unhide kp).cell (i := 0) rfl, (unhide kp).cell (i := 1) rfl, (unhide kp).cell (i := 2) rfl, (unhide kp).cell (i := 3) rfl, (unhide kp).cell (i := 4) rfl, (unhide kp).cell (i := 5) rfl⟩
  go_wp2_with fail
  refine wp_region_last (S := fun w' => w'.cell? ⟨W.heap.size + 1 + 1, 0, none⟩ = some (.pointer (some ⟨p, 0, none⟩)) ∧ w'.cell? ⟨p, 0, none⟩ = some (.slice b0 l0 r0) ∧ w'.cell? ⟨p, 1, none⟩ = some (.slice b1 l1 r1) ∧ w'.cell? ⟨p, 2, none⟩ = some (.slice b2 l2 r2) ∧ w'.cell? ⟨p, 3, none⟩ = some (.slice b3 l3 r3) ∧ w'.cell? ⟨p, 4, none⟩ = some (.slice b4 l4 r4) ∧ w'.cell? ⟨p, 5, none⟩ = some (.int .i64 nw)) (by kernel_rfl) (List.cons_ne_nil _ _) (by kernel_rfl) ⟨hc, t0, t1, t2, t3, t4, t5⟩ (fun hHeld => ?_)
  simp only [List.dropLast_cons_cons, List.dropLast_singleton, List.length_cons, List.length_nil, Nat.zero_add, Nat.reduceAdd]
  have hbd : Below w1.heap.size w1 w1.drew := (Below.refl _ _).drew
  replace kr := bl kr hbd
  replace BB := bt BB hbd
  replace kp := bl kp hbd
  replace hc := (hbd.cell (World.block_lt_of_cell? _ _ hc)).trans hc
  replace HX := hide ((unhide HX).below hbd)
  clear t0 t1 t2 t3 t4 t5
  clear hbd
  generalize w1.drew = W5 at *
  obtain ⟨t0, t1, t2, t3, t4, t5⟩ : W5.cell? ⟨p, 0, none⟩ = some (.slice b0 l0 r0) ∧ W5.cell? ⟨p, 1, none⟩ = some (.slice b1 l1 r1) ∧ W5.cell? ⟨p, 2, none⟩ = some (.slice b2 l2 r2) ∧ W5.cell? ⟨p, 3, none⟩ = some (.slice b3 l3 r3) ∧ W5.cell? ⟨p, 4, none⟩ = some (.slice b4 l4 r4) ∧ W5.cell? ⟨p, 5, none⟩ = some (.int .i64 nw) := ⟨(unhide kp).cell (i := 0) rfl, (unhide kp).cell (i := 1) rfl, (unhide kp).cell (i := 2) rfl, (unhide kp).cell (i := 3) rfl, (unhide kp).cell (i := 4) rfl, (unhide kp).cell (i := 5) rfl⟩
  (refine wpAnyH_take (i := 0) (v := ?_) rfl (by kernel_rfl) (by kernel_rfl) (by kernel_rfl) (fun _ _ _ h => h) (Or.inl ⟨by rfl, ?_⟩) (by assumption) ?_; rotate_left; (intro W9 hSw; (try dsimp only at hSw); go_simp; (try with_reducible rfl)); (try simp only [Act.put, List.setIfInBounds_toArray, List.set_cons_zero, List.set_cons_succ]))
  (refine wpAnyH_take (i := 1) (v := ?_) rfl (by kernel_rfl) (by kernel_rfl) (by kernel_rfl) (fun _ _ _ h => h) (Or.inl ⟨by rfl, ?_⟩) (by assumption) ?_; rotate_left; (intro W9 hSw; (try dsimp only at hSw); go_simp; (try with_reducible rfl)); (try simp only [Act.put, List.setIfInBounds_toArray, List.set_cons_zero, List.set_cons_succ]))
  (refine wpAnyH_take (i := 2) (v := ?_) rfl (by kernel_rfl) (by kernel_rfl) (by kernel_rfl) (fun _ _ _ h => h) (Or.inl ⟨by rfl, ?_⟩) (by assumption) ?_; rotate_left; (intro W9 hSw; (try dsimp only at hSw); go_simp; (try with_reducible rfl)); (try simp only [Act.put, List.setIfInBounds_toArray, List.set_cons_zero, List.set_cons_succ]))
  (refine wpAnyH_take (i := 3) (v := ?_) rfl (by kernel_rfl) (by kernel_rfl) (by kernel_rfl) (fun _ _ _ h => h) (Or.inl ⟨by rfl, ?_⟩) (by assumption) ?_; rotate_left; (intro W9 hSw; (try dsimp only at hSw); go_simp; (try with_reducible rfl)); (try simp only [Act.put, List.setIfInBounds_toArray, List.set_cons_zero, List.set_cons_succ]))
  (refine wpAnyH_take (i := 4) (v := ?_) rfl (by kernel_rfl) (by kernel_rfl) (by kernel_rfl) (fun _ _ _ h => h) (Or.inl ⟨by rfl, ?_⟩) (by assumption) ?_; rotate_left; (intro W9 hSw; (try dsimp only at hSw); go_simp; (try with_reducible rfl)); (try simp only [Act.put, List.setIfInBounds_toArray, List.set_cons_zero, List.set_cons_succ]))
  refine wpAnyH_ready (rs := [5]) (by kernel_rfl) (by simp) ?_
  refine AllReadyH.cons rfl (fun K0 hK => ?_) AllReadyH.nil
  go_simp
  refine (codeOf_wrap hcc p (unhide HX) ((unhide kp).cell (i := 6) rfl)).mono ?_
  rintro e9 w9 ⟨rfl, h9⟩
  subst w9
  refine hK.out _ _ ⟨hc, t0, t1, t2, t3, t4, t5⟩ (fun hHeld => ?_)
  clear hK K0
  (try simp only [Act.put, List.setIfInBounds_toArray, List.set_cons_zero, List.set_cons_succ])
  have o0 := (unhide kr).cell (i := 0) (v := .slice none 0 0) rfl
  have f0 := (unhide kr).free 0
  have o1 := (unhide kr).cell (i := 1) (v := .slice none 0 0) rfl
  have f1 := (unhide kr).free 1
  have o2 := (unhide kr).cell (i := 2) (v := .slice none 0 0) rfl
  have f2 := (unhide kr).free 2
  have o3 := (unhide kr).cell (i := 3) (v := .slice none 0 0) rfl
  have f3 := (unhide kr).free 3
  have o4 := (unhide kr).cell (i := 4) (v := .slice none 0 0) rfl
  have f4 := (unhide kr).free 4
  have o5 := (unhide kr).cell (i := 5) (v := .int .i64 0) rfl
  have f5 := (unhide kr).free 5
  have hpl := (unhide Hp).lt
  have hne : p ≠ W.heap.size + 1 := by omega
  have hcN : ((((((W5.setCell ⟨W.heap.size + 1, 0, none⟩ (.slice b0 l0 r0)).setCell ⟨W.heap.size + 1, 1, none⟩ (.slice b1 l1 r1)).setCell ⟨W.heap.size + 1, 2, none⟩ (.slice b2 l2 r2)).setCell ⟨W.heap.size + 1, 3, none⟩ (.slice b3 l3 r3)).setCell ⟨W.heap.size + 1, 4, none⟩ (.slice b4 l4 r4)).setCell ⟨W.heap.size + 1, 5, none⟩ (.int .i64 nw)).cell? ⟨W.heap.size + 1 + 1, 0, none⟩ = some (.pointer (some ⟨p, 0, none⟩)) := by
    rw [World.cell?_setCell_far _ _ _ _ (by show W.heap.size + 1 ≠ W.heap.size + 1 + 1; omega), World.cell?_setCell_far _ _ _ _ (by show W.heap.size + 1 ≠ W.heap.size + 1 + 1; omega), World.cell?_setCell_far _ _ _ _ (by show W.heap.size + 1 ≠ W.heap.size + 1 + 1; omega), World.cell?_setCell_far _ _ _ _ (by show W.heap.size + 1 ≠ W.heap.size + 1 + 1; omega), World.cell?_setCell_far _ _ _ _ (by show W.heap.size + 1 ≠ W.heap.size + 1 + 1; omega), World.cell?_setCell_far _ _ _ _ (by show W.heap.size + 1 ≠ W.heap.size + 1 + 1; omega)]
    exact hc
  have kpN : Blk ((((((W5.setCell ⟨W.heap.size + 1, 0, none⟩ (.slice b0 l0 r0)).setCell ⟨W.heap.size + 1, 1, none⟩ (.slice b1 l1 r1)).setCell ⟨W.heap.size + 1, 2, none⟩ (.slice b2 l2 r2)).setCell ⟨W.heap.size + 1, 3, none⟩ (.slice b3 l3 r3)).setCell ⟨W.heap.size + 1, 4, none⟩ (.slice b4 l4 r4)).setCell ⟨W.heap.size + 1, 5, none⟩ (.int .i64 nw)) p 116 #[.slice b0 l0 r0, .slice b1 l1 r1, .slice b2 l2 r2, .slice b3 l3 r3, .slice b4 l4 r4, .int .i64 nw, sent (q c)] := (((((((unhide kp).other (a := ⟨W.heap.size + 1, 0, none⟩) hne (.slice b0 l0 r0)).other (a := ⟨W.heap.size + 1, 1, none⟩) hne (.slice b1 l1 r1)).other (a := ⟨W.heap.size + 1, 2, none⟩) hne (.slice b2 l2 r2)).other (a := ⟨W.heap.size + 1, 3, none⟩) hne (.slice b3 l3 r3)).other (a := ⟨W.heap.size + 1, 4, none⟩) hne (.slice b4 l4 r4)).other (a := ⟨W.heap.size + 1, 5, none⟩) hne (.int .i64 nw))
  refine wpAnyH_ready (rs := [6]) (by kernel_rfl) (by simp) ?_
  refine AllReadyH.cons rfl (fun K0 hK => ?_) AllReadyH.nil
  go_simp
  refine hK.out _ _ ⟨hcN, kpN.cell (i := 0) rfl, kpN.cell (i := 1) rfl, kpN.cell (i := 2) rfl, kpN.cell (i := 3) rfl, kpN.cell (i := 4) rfl, kpN.cell (i := 5) rfl⟩ (fun hHeld => ?_)
  clear hK K0
  (try simp only [Act.put, List.setIfInBounds_toArray, List.set_cons_zero, List.set_cons_succ])
  refine wpAnyH_done (by kernel_rfl) ?_ _
  refine tailQ_run rfl rfl ?_
  go_simp
  clear hHeld
  go_wp2_with fail
  refine bodyPost_ret (v := .tuple #[.agg #[.slice b0 l0 r0, .slice b1 l1 r1, .slice b2 l2 r2, .slice b3 l3 r3, .slice b4 l4 r4, .int .i64 nw], .int .i64 c]) (by simp [results, Tryz.results39, go_sem, *]) rfl ⟨rfl, ?_⟩
  iterate 6 (refine Below.setCell ?_ (by show _ ≤ W.heap.size + 1; omega) _)
  exact unhide BB
/-- How tried ends. -/
def Tr (w : World) (q : Int → Addr) (m X : SmyV) (c : Int) (e : Ending) (w' : World) : Prop :=
  Below w.heap.size w w' ∧ ((smyB m = false ∧ e = .returned (.tuple #[.agg #[.slice none 0 0, .slice none 0 0, .slice none 0 0, .slice none 0 0, .slice none 0 0, .int .i64 0], sent (q 3)])) ∨ (smyB m = true ∧ c = 0 ∧ ∃ a0 p0 a1 p1 a2 p2 a3 p3 a4 p4 rs, e = .returned (.tuple #[.agg #[.slice a0 (turnedV X).rooms.length p0, .slice a1 (turnedV X).guilds.length p1, .slice a2 (turnedV X).smiths.length p2, .slice a3 (turnedV X).desks.length p3, .slice a4 (turnedV X).paces.length p4, .int .i64 (turnedV X).now], .nilIface]) ∧ FullSmy w.heap.size w' (.slice a0 (turnedV X).rooms.length p0) (.slice a1 (turnedV X).guilds.length p1) (.slice a2 (turnedV X).smiths.length p2) (.slice a3 (turnedV X).desks.length p3) (.slice a4 (turnedV X).paces.length p4) (turnedV X) rs) ∨ (smyB m = true ∧ (c = 1 ∨ c = 2 ∨ c = 3 ∨ c = 4) ∧ ∃ p a0 p0 a1 p1 a2 p2 a3 p3 a4 p4 rs, e = .returned (.tuple #[.agg #[.slice none 0 0, .slice none 0 0, .slice none 0 0, .slice none 0 0, .slice none 0 0, .int .i64 0], refu p]) ∧ Blk w' p 116 #[.slice a0 m.rooms.length p0, .slice a1 m.guilds.length p1, .slice a2 m.smiths.length p2, .slice a3 m.desks.length p3, .slice a4 m.paces.length p4, .int .i64 m.now, sent (q c)] ∧ FullSmy w.heap.size w' (.slice a0 m.rooms.length p0) (.slice a1 m.guilds.length p1) (.slice a2 m.smiths.length p2) (.slice a3 m.desks.length p3) (.slice a4 m.paces.length p4) m rs))
theorem full_five {n : Nat} {w : World} {v0 v1 v2 v3 v4 : Value} {m : SmyV} {qs : List (RoomV × Value)} (h : FullSmy n w v0 v1 v2 v3 v4 m qs) : ∃ a0 p0 a1 p1 a2 p2 a3 p3 a4 p4, v0 = .slice a0 m.rooms.length p0 ∧ v1 = .slice a1 m.guilds.length p1 ∧ v2 = .slice a2 m.smiths.length p2 ∧ v3 = .slice a3 m.desks.length p3 ∧ v4 = .slice a4 m.paces.length p4 := by
  obtain ⟨a0, p0, a1, p1, a2, p2, a3, p3, a4, p4, e0, e1, e2, e3, e4, _⟩ := h.smy.five
  exact ⟨a0, p0, a1, p1, a2, p2, a3, p3, a4, p4, e0, e1, e2, e3, e4⟩
theorem rest1_any {w W : World} {R : Nat} {v0 v1 v2 v3 v4 : Value} {m : SmyV} {qs : List (RoomV × Value)} {q : Int → Addr} (K : Nx w W R v0 v1 v2 v3 v4 m qs) (he : Errs w q) (hm : smyB m = true) (who : Int) {cb : Nat} (hc : Blk W cb 2 #[.int .i64 who]) : Calls Tryz.prog 65 #[.pointer (some ⟨R, 0, none⟩), .pointer (some ⟨cb, 0, none⟩)] W fun e W' => Chg w R q (restX m who) (restC m who) e W' := by
  have HC := hide (rests_any K he hm who)
  have c0 := hc.cell (i := 0) (v := .int .i64 who) rfl
  clear hc K
  go_enter Tryz.func65, Tryz.ntmps65
  go_wp2_with fail
  refine (unhide HC).mono ?_
  rintro e w1 ⟨hb, h9⟩
  clear c0
  rcases h9 with ⟨hc0, rfl, hx⟩ | ⟨hc0, rfl⟩
  · go_wp2_with fail
    go_ret
    exact ⟨hb, .inl ⟨hc0, rfl, hx⟩⟩
  · go_wp2_with fail
    go_ret
    exact ⟨hb, .inr ⟨hc0, rfl⟩⟩
set_option maxHeartbeats 8000000 in
theorem tried_rest {w : World} {v0 v1 v2 v3 v4 : Value} {m : SmyV} {q : Int → Addr} (h : Smy w v0 v1 v2 v3 v4 m) (he : Errs w q) (who : Int) {cb : Nat} (hc : Blk w cb 2 #[.int .i64 who]) : Calls Tryz.prog 40 #[.agg #[v0, v1, v2, v3, v4, .int .i64 m.now], .func (Fn.func 65) #[] #[.pointer (some ⟨cb, 0, none⟩)]] w fun e w' => Tr w q m (restX m who) (restC m who) e w' := by
  obtain ⟨ok, hok⟩ : ∃ x, smyB m = x := ⟨_, rfl⟩
  have Hok := hide hok
  clear hok
  have HE := hide he
  have HC := hide hc
  have Hlow : Hid (0 < w.heap.size) := hide (World.block_lt_of_cell? _ _ he.c3)
  clear he hc
  obtain ⟨a0, p0, a1, p1, a2, p2, a3, p3, a4, p4, rfl, rfl, rfl, rfl, rfl, K⟩ := Bx.new h
  clear h
  replace K := K.alloc (.cells #[.slice none 0 0, .slice none 0 0, .slice none 0 0, .slice none 0 0, .slice none 0 0, .int .i64 0] 32)
  have kr : Hid (Blk ((w.alloc (.cells #[.slice a0 m.rooms.length p0, .slice a1 m.guilds.length p1, .slice a2 m.smiths.length p2, .slice a3 m.desks.length p3, .slice a4 m.paces.length p4, .int .i64 m.now] 32)).alloc (.cells #[.slice none 0 0, .slice none 0 0, .slice none 0 0, .slice none 0 0, .slice none 0 0, .int .i64 0] 32)) (w.heap.size + 1) 32 #[.slice none 0 0, .slice none 0 0, .slice none 0 0, .slice none 0 0, .slice none 0 0, .int .i64 0]) := hide (by
    have k := Blk.new (w.alloc (.cells #[.slice a0 m.rooms.length p0, .slice a1 m.guilds.length p1, .slice a2 m.smiths.length p2, .slice a3 m.desks.length p3, .slice a4 m.paces.length p4, .int .i64 m.now] 32)) 32 #[.slice none 0 0, .slice none 0 0, .slice none 0 0, .slice none 0 0, .slice none 0 0, .int .i64 0]
    rw [World.size_alloc] at k
    exact k)
  replace HC := hide ((unhide HC).below K.bb (unhide HC).lt)
  replace HE := hide ((unhide HE).below K.bb)
  go_enter Tryz.func40, Tryz.ntmps40
  go_wp2_with fail
  generalize ((w.alloc (.cells #[.slice a0 m.rooms.length p0, .slice a1 m.guilds.length p1, .slice a2 m.smiths.length p2, .slice a3 m.desks.length p3, .slice a4 m.paces.length p4, .int .i64 m.now] 32)).alloc (.cells #[.slice none 0 0, .slice none 0 0, .slice none 0 0, .slice none 0 0, .slice none 0 0, .int .i64 0] 32)) = W1 at *
  refine (implSmithyOk_q _ _ _ _ _ _ _ _ (unhide Hok) K.smy).mono ?_
  rintro e w1 ⟨rfl, hb⟩
  replace K := K.next hb
  replace kr := bl kr hb
  replace HC := bl HC hb
  replace HE := hide ((unhide HE).below hb)
  clear hb
  cases ok
  · -- it is not right
    have x1 := (unhide HE).c3
    have o0 := (unhide kr).cell (i := 0) (v := .slice none 0 0) rfl
    have f0 := (unhide kr).free 0
    have o1 := (unhide kr).cell (i := 1) (v := .slice none 0 0) rfl
    have f1 := (unhide kr).free 1
    have o2 := (unhide kr).cell (i := 2) (v := .slice none 0 0) rfl
    have f2 := (unhide kr).free 2
    have o3 := (unhide kr).cell (i := 3) (v := .slice none 0 0) rfl
    have f3 := (unhide kr).free 3
    have o4 := (unhide kr).cell (i := 4) (v := .slice none 0 0) rfl
    have f4 := (unhide kr).free 4
    have o5 := (unhide kr).cell (i := 5) (v := .int .i64 0) rfl
    have f5 := (unhide kr).free 5
    go_wp2_with fail
    go_region
    all_goals (try go_wp2_with fail)
    all_goals (refine bodyPost_ret (v := .tuple #[.agg #[.slice none 0 0, .slice none 0 0, .slice none 0 0, .slice none 0 0, .slice none 0 0, .int .i64 0], sent (q 3)]) (by simp [results, Tryz.results40, go_sem, *]) rfl ⟨?_, .inl ⟨unhide Hok, rfl⟩⟩)
    all_goals (refine Below.drew ?_)
    all_goals (iterate 6 (refine Below.setCell ?_ (by show _ ≤ w.heap.size + 1; omega) _))
    all_goals (exact K.bb)
  have HFew := hide (few_of (smy_loose (unhide Hok)))
  obtain ⟨c0, c1, c2, c3, c4, c5⟩ := K.cells
  go_wp2_with fail
  have hw1 : w.heap.size + 2 ≤ w1.heap.size := by have := (unhide kr).lt; omega
  refine (copyOfSmithy_any K.smy (unhide HFew)).mono ?_
  rintro e w2 ⟨u0, u1, u2, u3, u4, rs, rfl, hf, hb⟩
  clear c0 c1 c2 c3 c4 c5
  obtain ⟨b0, r0, b1, r1, b2, r2, b3, r3, b4, r4, rfl, rfl, rfl, rfl, rfl⟩ := full_five hf
  have N1 : Nx w1 (w2.alloc (.cells #[.slice b0 m.rooms.length r0, .slice b1 m.guilds.length r1, .slice b2 m.smiths.length r2, .slice b3 m.desks.length r3, .slice b4 m.paces.length r4, .int .i64 m.now] 32)) w2.heap.size (.slice b0 m.rooms.length r0) (.slice b1 m.guilds.length r1) (.slice b2 m.smiths.length r2) (.slice b3 m.desks.length r3) (.slice b4 m.paces.length r4) m rs := by
    have hba : Below w2.heap.size w2 (w2.alloc (.cells #[.slice b0 m.rooms.length r0, .slice b1 m.guilds.length r1, .slice b2 m.smiths.length r2, .slice b3 m.desks.length r3, .slice b4 m.paces.length r4, .int .i64 m.now] 32)) := (Below.refl _ _).alloc (Nat.le_refl _) _
    exact ⟨hf.below hba, Blk.new _ _ _, fun k e => by have := (hf.own e).2; omega, hb.trans (hba.mono hb.size), hb.size⟩
  have HN := hide N1
  clear N1 hf hb
  go_upto_region 4 with fail
  generalize w2.alloc (.cells #[.slice b0 m.rooms.length r0, .slice b1 m.guilds.length r1, .slice b2 m.smiths.length r2, .slice b3 m.desks.length r3, .slice b4 m.paces.length r4, .int .i64 m.now] 32) = W3 at *
  generalize w2.heap.size = R at *
  go_wp2_with fail
  refine (rest1_any (unhide HN) (unhide HE) (unhide Hok) who ((unhide HC).below (unhide HN).bb (unhide HC).lt)).mono ?_
  rintro e w4 ⟨hb4, h9⟩
  have hKs := K.smy.below hb4
  have hKb := K.blk.below hb4 K.blk.lt
  have hrb := (unhide kr).below hb4 (unhide kr).lt
  have hbb := K.bb.trans (hb4.mono K.bb.size)
  have K4 : Bx w w4 w.heap.size a0 p0 a1 p1 a2 p2 a3 p3 a4 p4 m := ⟨hKs, hKb, hbb⟩
  clear K
  have K := K4
  replace kr := hide hrb
  clear K4 hKs hKb hrb hbb
  rcases h9 with ⟨hc0, rfl, v0, v1, v2, v3, v4, rs4, N4⟩ | ⟨hc0, rfl⟩
  · -- done
    obtain ⟨d0, s0, d1, s1, d2, s2, d3, s3, d4, s4, rfl, rfl, rfl, rfl, rfl⟩ := full_five N4.full
    have HN4 := hide N4
    obtain ⟨c0, c1, c2, c3, c4, c5⟩ := N4.cells
    clear N4 HN
    go_wp2_with fail
    refine (implTurned_any _ _ _ _ _ _ _ (unhide HN4).full.smy).mono ?_
    rintro e w5 ⟨u0, u1, u2, u3, u4, rs5, rfl, hf, hb⟩
    clear c0 c1 c2 c3 c4 c5
    obtain ⟨e0, g0, e1, g1, e2, g2, e3, g3, e4, g4, rfl, rfl, rfl, rfl, rfl⟩ := full_five hf
    have hsz : w.heap.size + 2 ≤ w4.heap.size := by have := (unhide kr).lt; omega
    have HF := hide (hf.mono (n₁ := w.heap.size + 2) hsz)
    replace K := K.next hb
    replace kr := bl kr hb
    clear hb hf
    have o0 := (unhide kr).cell (i := 0) (v := .slice none 0 0) rfl
    have f0 := (unhide kr).free 0
    have o1 := (unhide kr).cell (i := 1) (v := .slice none 0 0) rfl
    have f1 := (unhide kr).free 1
    have o2 := (unhide kr).cell (i := 2) (v := .slice none 0 0) rfl
    have f2 := (unhide kr).free 2
    have o3 := (unhide kr).cell (i := 3) (v := .slice none 0 0) rfl
    have f3 := (unhide kr).free 3
    have o4 := (unhide kr).cell (i := 4) (v := .slice none 0 0) rfl
    have f4 := (unhide kr).free 4
    have o5 := (unhide kr).cell (i := 5) (v := .int .i64 0) rfl
    have f5 := (unhide kr).free 5
    go_wp2_with fail
    refine bodyPost_ret (v := .tuple #[.agg #[.slice e0 (turnedV (restX m who)).rooms.length g0, .slice e1 (turnedV (restX m who)).guilds.length g1, .slice e2 (turnedV (restX m who)).smiths.length g2, .slice e3 (turnedV (restX m who)).desks.length g3, .slice e4 (turnedV (restX m who)).paces.length g4, .int .i64 (turnedV (restX m who)).now], .nilIface]) (by simp [results, Tryz.results40, go_sem, *]) rfl ⟨?_, .inr (.inl ⟨unhide Hok, hc0, e0, g0, e1, g1, e2, g2, e3, g3, e4, g4, rs5, rfl, ?_⟩)⟩
    · iterate 6 (refine Below.setCell ?_ (by show _ ≤ w.heap.size + 1; omega) _)
      exact K.bb
    · refine FullSmy.mono (n₀ := w.heap.size + 2) ?_ (by omega)
      iterate 6 (refine FullSmy.set_off ?_ (fun k e => by have := ((unhide HF).own e).1; omega) _ _)
      exact unhide HF
  · -- refused
    clear HN
    obtain ⟨c0, c1, c2, c3, c4, c5⟩ := K.cells
    go_wp2_with fail
    refine (copyOfSmithy_any K.smy (unhide HFew)).mono ?_
    rintro e w5 ⟨u0, u1, u2, u3, u4, rs5, rfl, hf, hb⟩
    clear c0 c1 c2 c3 c4 c5
    obtain ⟨e0, g0, e1, g1, e2, g2, e3, g3, e4, g4, rfl, rfl, rfl, rfl, rfl⟩ := full_five hf
    have hsz : w.heap.size + 2 ≤ w4.heap.size := by have := (unhide kr).lt; omega
    have hba : Below w5.heap.size w5 (w5.alloc (.cells #[.slice e0 m.rooms.length g0, .slice e1 m.guilds.length g1, .slice e2 m.smiths.length g2, .slice e3 m.desks.length g3, .slice e4 m.paces.length g4, .int .i64 m.now, sent (q (restC m who))] 116)) := (Below.refl _ _).alloc (Nat.le_refl _) _
    have kp : Hid (Blk (w5.alloc (.cells #[.slice e0 m.rooms.length g0, .slice e1 m.guilds.length g1, .slice e2 m.smiths.length g2, .slice e3 m.desks.length g3, .slice e4 m.paces.length g4, .int .i64 m.now, sent (q (restC m who))] 116)) w5.heap.size 116 #[.slice e0 m.rooms.length g0, .slice e1 m.guilds.length g1, .slice e2 m.smiths.length g2, .slice e3 m.desks.length g3, .slice e4 m.paces.length g4, .int .i64 m.now, sent (q (restC m who))]) := hide (Blk.new _ _ _)
    have HF := hide ((hf.mono (n₁ := w.heap.size + 2) hsz).below hba)
    have h5 : w.heap.size + 2 ≤ w5.heap.size := Nat.le_trans hsz hb.size
    replace K := (K.next hb).next hba
    replace kr := bl (bl kr hb) hba
    clear hb hf hba
    have o0 := (unhide kr).cell (i := 0) (v := .slice none 0 0) rfl
    have f0 := (unhide kr).free 0
    have o1 := (unhide kr).cell (i := 1) (v := .slice none 0 0) rfl
    have f1 := (unhide kr).free 1
    have o2 := (unhide kr).cell (i := 2) (v := .slice none 0 0) rfl
    have f2 := (unhide kr).free 2
    have o3 := (unhide kr).cell (i := 3) (v := .slice none 0 0) rfl
    have f3 := (unhide kr).free 3
    have o4 := (unhide kr).cell (i := 4) (v := .slice none 0 0) rfl
    have f4 := (unhide kr).free 4
    have o5 := (unhide kr).cell (i := 5) (v := .int .i64 0) rfl
    have f5 := (unhide kr).free 5
    go_wp2_with fail
    refine bodyPost_ret (v := .tuple #[.agg #[.slice none 0 0, .slice none 0 0, .slice none 0 0, .slice none 0 0, .slice none 0 0, .int .i64 0], refu w5.heap.size]) (by simp [results, Tryz.results40, go_sem, *]) rfl ⟨?_, .inr (.inr ⟨unhide Hok, hc0, w5.heap.size, e0, g0, e1, g1, e2, g2, e3, g3, e4, g4, rs5, rfl, ?_, ?_⟩)⟩
    · iterate 6 (refine Below.setCell ?_ (by show _ ≤ w.heap.size + 1; omega) _)
      exact K.bb
    · iterate 6 (refine Blk.other ?_ (by show w5.heap.size ≠ w.heap.size + 1; omega) _)
      exact unhide kp
    · refine FullSmy.mono (n₀ := w.heap.size + 2) ?_ (by omega)
      iterate 6 (refine FullSmy.set_off ?_ (fun k e => by have := ((unhide HF).own e).1; omega) _ _)
      exact unhide HF
theorem leave1_any {w W : World} {R : Nat} {v0 v1 v2 v3 v4 : Value} {m : SmyV} {qs : List (RoomV × Value)} {q : Int → Addr} (K : Nx w W R v0 v1 v2 v3 v4 m qs) (he : Errs w q) (hm : smyB m = true) (who : Int) {cb : Nat} (hc : Blk W cb 2 #[.int .i64 who]) : Calls Tryz.prog 67 #[.pointer (some ⟨R, 0, none⟩), .pointer (some ⟨cb, 0, none⟩)] W fun e W' => Chg w R q (leaveX m who) (leaveC m who) e W' := by
  have HC := hide (leaves_any K he hm who)
  have c0 := hc.cell (i := 0) (v := .int .i64 who) rfl
  clear hc K
  go_enter Tryz.func67, Tryz.ntmps67
  go_wp2_with fail
  refine (unhide HC).mono ?_
  rintro e w1 ⟨hb, h9⟩
  clear c0
  rcases h9 with ⟨hc0, rfl, hx⟩ | ⟨hc0, rfl⟩
  · go_wp2_with fail
    go_ret
    exact ⟨hb, .inl ⟨hc0, rfl, hx⟩⟩
  · go_wp2_with fail
    go_ret
    exact ⟨hb, .inr ⟨hc0, rfl⟩⟩
set_option maxHeartbeats 8000000 in
theorem tried_leave {w : World} {v0 v1 v2 v3 v4 : Value} {m : SmyV} {q : Int → Addr} (h : Smy w v0 v1 v2 v3 v4 m) (he : Errs w q) (who : Int) {cb : Nat} (hc : Blk w cb 2 #[.int .i64 who]) : Calls Tryz.prog 40 #[.agg #[v0, v1, v2, v3, v4, .int .i64 m.now], .func (Fn.func 67) #[] #[.pointer (some ⟨cb, 0, none⟩)]] w fun e w' => Tr w q m (leaveX m who) (leaveC m who) e w' := by
  obtain ⟨ok, hok⟩ : ∃ x, smyB m = x := ⟨_, rfl⟩
  have Hok := hide hok
  clear hok
  have HE := hide he
  have HC := hide hc
  have Hlow : Hid (0 < w.heap.size) := hide (World.block_lt_of_cell? _ _ he.c3)
  clear he hc
  obtain ⟨a0, p0, a1, p1, a2, p2, a3, p3, a4, p4, rfl, rfl, rfl, rfl, rfl, K⟩ := Bx.new h
  clear h
  replace K := K.alloc (.cells #[.slice none 0 0, .slice none 0 0, .slice none 0 0, .slice none 0 0, .slice none 0 0, .int .i64 0] 32)
  have kr : Hid (Blk ((w.alloc (.cells #[.slice a0 m.rooms.length p0, .slice a1 m.guilds.length p1, .slice a2 m.smiths.length p2, .slice a3 m.desks.length p3, .slice a4 m.paces.length p4, .int .i64 m.now] 32)).alloc (.cells #[.slice none 0 0, .slice none 0 0, .slice none 0 0, .slice none 0 0, .slice none 0 0, .int .i64 0] 32)) (w.heap.size + 1) 32 #[.slice none 0 0, .slice none 0 0, .slice none 0 0, .slice none 0 0, .slice none 0 0, .int .i64 0]) := hide (by
    have k := Blk.new (w.alloc (.cells #[.slice a0 m.rooms.length p0, .slice a1 m.guilds.length p1, .slice a2 m.smiths.length p2, .slice a3 m.desks.length p3, .slice a4 m.paces.length p4, .int .i64 m.now] 32)) 32 #[.slice none 0 0, .slice none 0 0, .slice none 0 0, .slice none 0 0, .slice none 0 0, .int .i64 0]
    rw [World.size_alloc] at k
    exact k)
  replace HC := hide ((unhide HC).below K.bb (unhide HC).lt)
  replace HE := hide ((unhide HE).below K.bb)
  go_enter Tryz.func40, Tryz.ntmps40
  go_wp2_with fail
  generalize ((w.alloc (.cells #[.slice a0 m.rooms.length p0, .slice a1 m.guilds.length p1, .slice a2 m.smiths.length p2, .slice a3 m.desks.length p3, .slice a4 m.paces.length p4, .int .i64 m.now] 32)).alloc (.cells #[.slice none 0 0, .slice none 0 0, .slice none 0 0, .slice none 0 0, .slice none 0 0, .int .i64 0] 32)) = W1 at *
  refine (implSmithyOk_q _ _ _ _ _ _ _ _ (unhide Hok) K.smy).mono ?_
  rintro e w1 ⟨rfl, hb⟩
  replace K := K.next hb
  replace kr := bl kr hb
  replace HC := bl HC hb
  replace HE := hide ((unhide HE).below hb)
  clear hb
  cases ok
  · -- it is not right
    have x1 := (unhide HE).c3
    have o0 := (unhide kr).cell (i := 0) (v := .slice none 0 0) rfl
    have f0 := (unhide kr).free 0
    have o1 := (unhide kr).cell (i := 1) (v := .slice none 0 0) rfl
    have f1 := (unhide kr).free 1
    have o2 := (unhide kr).cell (i := 2) (v := .slice none 0 0) rfl
    have f2 := (unhide kr).free 2
    have o3 := (unhide kr).cell (i := 3) (v := .slice none 0 0) rfl
    have f3 := (unhide kr).free 3
    have o4 := (unhide kr).cell (i := 4) (v := .slice none 0 0) rfl
    have f4 := (unhide kr).free 4
    have o5 := (unhide kr).cell (i := 5) (v := .int .i64 0) rfl
    have f5 := (unhide kr).free 5
    go_wp2_with fail
    go_region
    all_goals (try go_wp2_with fail)
    all_goals (refine bodyPost_ret (v := .tuple #[.agg #[.slice none 0 0, .slice none 0 0, .slice none 0 0, .slice none 0 0, .slice none 0 0, .int .i64 0], sent (q 3)]) (by simp [results, Tryz.results40, go_sem, *]) rfl ⟨?_, .inl ⟨unhide Hok, rfl⟩⟩)
    all_goals (refine Below.drew ?_)
    all_goals (iterate 6 (refine Below.setCell ?_ (by show _ ≤ w.heap.size + 1; omega) _))
    all_goals (exact K.bb)
  have HFew := hide (few_of (smy_loose (unhide Hok)))
  obtain ⟨c0, c1, c2, c3, c4, c5⟩ := K.cells
  go_wp2_with fail
  have hw1 : w.heap.size + 2 ≤ w1.heap.size := by have := (unhide kr).lt; omega
  refine (copyOfSmithy_any K.smy (unhide HFew)).mono ?_
  rintro e w2 ⟨u0, u1, u2, u3, u4, rs, rfl, hf, hb⟩
  clear c0 c1 c2 c3 c4 c5
  obtain ⟨b0, r0, b1, r1, b2, r2, b3, r3, b4, r4, rfl, rfl, rfl, rfl, rfl⟩ := full_five hf
  have N1 : Nx w1 (w2.alloc (.cells #[.slice b0 m.rooms.length r0, .slice b1 m.guilds.length r1, .slice b2 m.smiths.length r2, .slice b3 m.desks.length r3, .slice b4 m.paces.length r4, .int .i64 m.now] 32)) w2.heap.size (.slice b0 m.rooms.length r0) (.slice b1 m.guilds.length r1) (.slice b2 m.smiths.length r2) (.slice b3 m.desks.length r3) (.slice b4 m.paces.length r4) m rs := by
    have hba : Below w2.heap.size w2 (w2.alloc (.cells #[.slice b0 m.rooms.length r0, .slice b1 m.guilds.length r1, .slice b2 m.smiths.length r2, .slice b3 m.desks.length r3, .slice b4 m.paces.length r4, .int .i64 m.now] 32)) := (Below.refl _ _).alloc (Nat.le_refl _) _
    exact ⟨hf.below hba, Blk.new _ _ _, fun k e => by have := (hf.own e).2; omega, hb.trans (hba.mono hb.size), hb.size⟩
  have HN := hide N1
  clear N1 hf hb
  go_upto_region 4 with fail
  generalize w2.alloc (.cells #[.slice b0 m.rooms.length r0, .slice b1 m.guilds.length r1, .slice b2 m.smiths.length r2, .slice b3 m.desks.length r3, .slice b4 m.paces.length r4, .int .i64 m.now] 32) = W3 at *
  generalize w2.heap.size = R at *
  go_wp2_with fail
  refine (leave1_any (unhide HN) (unhide HE) (unhide Hok) who ((unhide HC).below (unhide HN).bb (unhide HC).lt)).mono ?_
  rintro e w4 ⟨hb4, h9⟩
  have hKs := K.smy.below hb4
  have hKb := K.blk.below hb4 K.blk.lt
  have hrb := (unhide kr).below hb4 (unhide kr).lt
  have hbb := K.bb.trans (hb4.mono K.bb.size)
  have K4 : Bx w w4 w.heap.size a0 p0 a1 p1 a2 p2 a3 p3 a4 p4 m := ⟨hKs, hKb, hbb⟩
  clear K
  have K := K4
  replace kr := hide hrb
  clear K4 hKs hKb hrb hbb
  rcases h9 with ⟨hc0, rfl, v0, v1, v2, v3, v4, rs4, N4⟩ | ⟨hc0, rfl⟩
  · -- done
    obtain ⟨d0, s0, d1, s1, d2, s2, d3, s3, d4, s4, rfl, rfl, rfl, rfl, rfl⟩ := full_five N4.full
    have HN4 := hide N4
    obtain ⟨c0, c1, c2, c3, c4, c5⟩ := N4.cells
    clear N4 HN
    go_wp2_with fail
    refine (implTurned_any _ _ _ _ _ _ _ (unhide HN4).full.smy).mono ?_
    rintro e w5 ⟨u0, u1, u2, u3, u4, rs5, rfl, hf, hb⟩
    clear c0 c1 c2 c3 c4 c5
    obtain ⟨e0, g0, e1, g1, e2, g2, e3, g3, e4, g4, rfl, rfl, rfl, rfl, rfl⟩ := full_five hf
    have hsz : w.heap.size + 2 ≤ w4.heap.size := by have := (unhide kr).lt; omega
    have HF := hide (hf.mono (n₁ := w.heap.size + 2) hsz)
    replace K := K.next hb
    replace kr := bl kr hb
    clear hb hf
    have o0 := (unhide kr).cell (i := 0) (v := .slice none 0 0) rfl
    have f0 := (unhide kr).free 0
    have o1 := (unhide kr).cell (i := 1) (v := .slice none 0 0) rfl
    have f1 := (unhide kr).free 1
    have o2 := (unhide kr).cell (i := 2) (v := .slice none 0 0) rfl
    have f2 := (unhide kr).free 2
    have o3 := (unhide kr).cell (i := 3) (v := .slice none 0 0) rfl
    have f3 := (unhide kr).free 3
    have o4 := (unhide kr).cell (i := 4) (v := .slice none 0 0) rfl
    have f4 := (unhide kr).free 4
    have o5 := (unhide kr).cell (i := 5) (v := .int .i64 0) rfl
    have f5 := (unhide kr).free 5
    go_wp2_with fail
    refine bodyPost_ret (v := .tuple #[.agg #[.slice e0 (turnedV (leaveX m who)).rooms.length g0, .slice e1 (turnedV (leaveX m who)).guilds.length g1, .slice e2 (turnedV (leaveX m who)).smiths.length g2, .slice e3 (turnedV (leaveX m who)).desks.length g3, .slice e4 (turnedV (leaveX m who)).paces.length g4, .int .i64 (turnedV (leaveX m who)).now], .nilIface]) (by simp [results, Tryz.results40, go_sem, *]) rfl ⟨?_, .inr (.inl ⟨unhide Hok, hc0, e0, g0, e1, g1, e2, g2, e3, g3, e4, g4, rs5, rfl, ?_⟩)⟩
    · iterate 6 (refine Below.setCell ?_ (by show _ ≤ w.heap.size + 1; omega) _)
      exact K.bb
    · refine FullSmy.mono (n₀ := w.heap.size + 2) ?_ (by omega)
      iterate 6 (refine FullSmy.set_off ?_ (fun k e => by have := ((unhide HF).own e).1; omega) _ _)
      exact unhide HF
  · -- refused
    clear HN
    obtain ⟨c0, c1, c2, c3, c4, c5⟩ := K.cells
    go_wp2_with fail
    refine (copyOfSmithy_any K.smy (unhide HFew)).mono ?_
    rintro e w5 ⟨u0, u1, u2, u3, u4, rs5, rfl, hf, hb⟩
    clear c0 c1 c2 c3 c4 c5
    obtain ⟨e0, g0, e1, g1, e2, g2, e3, g3, e4, g4, rfl, rfl, rfl, rfl, rfl⟩ := full_five hf
    have hsz : w.heap.size + 2 ≤ w4.heap.size := by have := (unhide kr).lt; omega
    have hba : Below w5.heap.size w5 (w5.alloc (.cells #[.slice e0 m.rooms.length g0, .slice e1 m.guilds.length g1, .slice e2 m.smiths.length g2, .slice e3 m.desks.length g3, .slice e4 m.paces.length g4, .int .i64 m.now, sent (q (leaveC m who))] 116)) := (Below.refl _ _).alloc (Nat.le_refl _) _
    have kp : Hid (Blk (w5.alloc (.cells #[.slice e0 m.rooms.length g0, .slice e1 m.guilds.length g1, .slice e2 m.smiths.length g2, .slice e3 m.desks.length g3, .slice e4 m.paces.length g4, .int .i64 m.now, sent (q (leaveC m who))] 116)) w5.heap.size 116 #[.slice e0 m.rooms.length g0, .slice e1 m.guilds.length g1, .slice e2 m.smiths.length g2, .slice e3 m.desks.length g3, .slice e4 m.paces.length g4, .int .i64 m.now, sent (q (leaveC m who))]) := hide (Blk.new _ _ _)
    have HF := hide ((hf.mono (n₁ := w.heap.size + 2) hsz).below hba)
    have h5 : w.heap.size + 2 ≤ w5.heap.size := Nat.le_trans hsz hb.size
    replace K := (K.next hb).next hba
    replace kr := bl (bl kr hb) hba
    clear hb hf hba
    have o0 := (unhide kr).cell (i := 0) (v := .slice none 0 0) rfl
    have f0 := (unhide kr).free 0
    have o1 := (unhide kr).cell (i := 1) (v := .slice none 0 0) rfl
    have f1 := (unhide kr).free 1
    have o2 := (unhide kr).cell (i := 2) (v := .slice none 0 0) rfl
    have f2 := (unhide kr).free 2
    have o3 := (unhide kr).cell (i := 3) (v := .slice none 0 0) rfl
    have f3 := (unhide kr).free 3
    have o4 := (unhide kr).cell (i := 4) (v := .slice none 0 0) rfl
    have f4 := (unhide kr).free 4
    have o5 := (unhide kr).cell (i := 5) (v := .int .i64 0) rfl
    have f5 := (unhide kr).free 5
    go_wp2_with fail
    refine bodyPost_ret (v := .tuple #[.agg #[.slice none 0 0, .slice none 0 0, .slice none 0 0, .slice none 0 0, .slice none 0 0, .int .i64 0], refu w5.heap.size]) (by simp [results, Tryz.results40, go_sem, *]) rfl ⟨?_, .inr (.inr ⟨unhide Hok, hc0, w5.heap.size, e0, g0, e1, g1, e2, g2, e3, g3, e4, g4, rs5, rfl, ?_, ?_⟩)⟩
    · iterate 6 (refine Below.setCell ?_ (by show _ ≤ w.heap.size + 1; omega) _)
      exact K.bb
    · iterate 6 (refine Blk.other ?_ (by show w5.heap.size ≠ w.heap.size + 1; omega) _)
      exact unhide kp
    · refine FullSmy.mono (n₀ := w.heap.size + 2) ?_ (by omega)
      iterate 6 (refine FullSmy.set_off ?_ (fun k e => by have := ((unhide HF).own e).1; omega) _ _)
      exact unhide HF
set_option maxHeartbeats 8000000 in
theorem implRest_any {w : World} {v0 v1 v2 v3 v4 : Value} {m : SmyV} {q : Int → Addr} (who : Int) (he : Errs w q) (h : Smy w v0 v1 v2 v3 v4 m) : Calls Tryz.prog 24 #[.agg #[v0, v1, v2, v3, v4, .int .i64 m.now], .int .i64 who] w fun e w' => GotM w.heap.size (restV m who).1 (restV m who).2 e w' ∧ Below w.heap.size w w' := by
  have HE := hide he
  clear he
  obtain ⟨a0, p0, a1, p1, a2, p2, a3, p3, a4, p4, rfl, rfl, rfl, rfl, rfl, K⟩ := Bx.new h
  clear h
  replace K := (K.alloc (.cells #[.int .i64 who] 2)).alloc (.cells #[.slice none 0 0, .slice none 0 0, .slice none 0 0, .slice none 0 0, .slice none 0 0, .int .i64 0] 32)
  have kr : Hid (Blk (((w.alloc (.cells #[.slice a0 m.rooms.length p0, .slice a1 m.guilds.length p1, .slice a2 m.smiths.length p2, .slice a3 m.desks.length p3, .slice a4 m.paces.length p4, .int .i64 m.now] 32)).alloc (.cells #[.int .i64 who] 2)).alloc (.cells #[.slice none 0 0, .slice none 0 0, .slice none 0 0, .slice none 0 0, .slice none 0 0, .int .i64 0] 32)) (w.heap.size + 1 + 1) 32 #[.slice none 0 0, .slice none 0 0, .slice none 0 0, .slice none 0 0, .slice none 0 0, .int .i64 0]) := hide (by
    have k := Blk.new ((w.alloc (.cells #[.slice a0 m.rooms.length p0, .slice a1 m.guilds.length p1, .slice a2 m.smiths.length p2, .slice a3 m.desks.length p3, .slice a4 m.paces.length p4, .int .i64 m.now] 32)).alloc (.cells #[.int .i64 who] 2)) 32 #[.slice none 0 0, .slice none 0 0, .slice none 0 0, .slice none 0 0, .slice none 0 0, .int .i64 0]
    rw [World.size_alloc, World.size_alloc] at k
    exact k)
  have kc : Hid (Blk (((w.alloc (.cells #[.slice a0 m.rooms.length p0, .slice a1 m.guilds.length p1, .slice a2 m.smiths.length p2, .slice a3 m.desks.length p3, .slice a4 m.paces.length p4, .int .i64 m.now] 32)).alloc (.cells #[.int .i64 who] 2)).alloc (.cells #[.slice none 0 0, .slice none 0 0, .slice none 0 0, .slice none 0 0, .slice none 0 0, .int .i64 0] 32)) (w.heap.size + 1) 2 #[.int .i64 who]) := hide (by
    have k := Blk.new (w.alloc (.cells #[.slice a0 m.rooms.length p0, .slice a1 m.guilds.length p1, .slice a2 m.smiths.length p2, .slice a3 m.desks.length p3, .slice a4 m.paces.length p4, .int .i64 m.now] 32)) 2 #[.int .i64 who]
    rw [World.size_alloc] at k
    exact k.alloc _)
  replace HE := hide ((unhide HE).below K.bb)
  have hsz : (((w.alloc (.cells #[.slice a0 m.rooms.length p0, .slice a1 m.guilds.length p1, .slice a2 m.smiths.length p2, .slice a3 m.desks.length p3, .slice a4 m.paces.length p4, .int .i64 m.now] 32)).alloc (.cells #[.int .i64 who] 2)).alloc (.cells #[.slice none 0 0, .slice none 0 0, .slice none 0 0, .slice none 0 0, .slice none 0 0, .int .i64 0] 32)).heap.size = w.heap.size + 1 + 1 + 1 := by simp
  obtain ⟨X9, hX9⟩ : ∃ x, doneV m (restX m who) (restC m who) = x := ⟨_, rfl⟩
  rw [rest_is, hX9]
  have HX9 := hide hX9
  clear hX9
  go_enter Tryz.func24, Tryz.ntmps24
  go_upto_region 1 with fail
  generalize (((w.alloc (.cells #[.slice a0 m.rooms.length p0, .slice a1 m.guilds.length p1, .slice a2 m.smiths.length p2, .slice a3 m.desks.length p3, .slice a4 m.paces.length p4, .int .i64 m.now] 32)).alloc (.cells #[.int .i64 who] 2)).alloc (.cells #[.slice none 0 0, .slice none 0 0, .slice none 0 0, .slice none 0 0, .slice none 0 0, .int .i64 0] 32)) = W1 at *
  obtain ⟨c0, c1, c2, c3, c4, c5⟩ := K.cells
  go_wp2_with fail
  refine (tried_rest K.smy (unhide HE) who (unhide kc)).mono ?_
  rintro e w2 ⟨hb, h9⟩
  replace K := K.next hb
  replace kr := bl kr hb
  replace HE := hide ((unhide HE).below hb)
  clear c0 c1 c2 c3 c4 c5 kc
  rcases h9 with ⟨hm, rfl⟩ | ⟨hm, hc0, b0, r0, b1, r1, b2, r2, b3, r3, b4, r4, rs, rfl, hf⟩ | ⟨hm, hc0, p, b0, r0, b1, r1, b2, r2, b3, r3, b4, r4, rs, rfl, kp, hf⟩
  · -- it is not right
    have hX0 := hide ((unhide HX9).symm.trans (done_bad hm _ _))
    clear hb
    go_wp2_with fail
    refine (told_bare (unhide HE)).mono ?_
    rintro e w3 ⟨rfl, hb⟩
    replace K := K.next hb
    replace kr := bl kr hb
    clear hb
    have o0 := (unhide kr).cell (i := 0) (v := .slice none 0 0) rfl
    have f0 := (unhide kr).free 0
    have o1 := (unhide kr).cell (i := 1) (v := .slice none 0 0) rfl
    have f1 := (unhide kr).free 1
    have o2 := (unhide kr).cell (i := 2) (v := .slice none 0 0) rfl
    have f2 := (unhide kr).free 2
    have o3 := (unhide kr).cell (i := 3) (v := .slice none 0 0) rfl
    have f3 := (unhide kr).free 3
    have o4 := (unhide kr).cell (i := 4) (v := .slice none 0 0) rfl
    have f4 := (unhide kr).free 4
    have o5 := (unhide kr).cell (i := 5) (v := .int .i64 0) rfl
    have f5 := (unhide kr).free 5
    go_wp2_with fail
    refine bodyPost_ret (v := .tuple #[.agg #[.slice none 0 0, .slice none 0 0, .slice none 0 0, .slice none 0 0, .slice none 0 0, .int .i64 0], .int .i64 3]) (by simp [results, Tryz.results24, go_sem, *]) rfl ⟨by rw [unhide hX0]; exact ⟨_, _, _, _, _, [], rfl, full_zero _ _⟩, ?_⟩
    iterate 6 (refine Below.setCell ?_ (by show _ ≤ w.heap.size + 1 + 1; omega) _)
    exact K.bb
  · -- done
    have hX0 : Hid (X9 = (turnedV (restX m who), 0)) := hide (by rw [← unhide HX9, hc0]; exact done_yes hm _)
    have HF := hide (hf.mono (n₁ := w.heap.size + 1 + 1 + 1) (by omega))
    clear hf hb HX9
    generalize turnedV (restX m who) = Y at *
    go_wp2_with fail
    refine told_nil.mono ?_
    rintro e w3 ⟨rfl, hb⟩
    replace K := K.next hb
    replace kr := bl kr hb
    replace HF := hide ((unhide HF).below hb)
    clear hb
    have o0 := (unhide kr).cell (i := 0) (v := .slice none 0 0) rfl
    have f0 := (unhide kr).free 0
    have o1 := (unhide kr).cell (i := 1) (v := .slice none 0 0) rfl
    have f1 := (unhide kr).free 1
    have o2 := (unhide kr).cell (i := 2) (v := .slice none 0 0) rfl
    have f2 := (unhide kr).free 2
    have o3 := (unhide kr).cell (i := 3) (v := .slice none 0 0) rfl
    have f3 := (unhide kr).free 3
    have o4 := (unhide kr).cell (i := 4) (v := .slice none 0 0) rfl
    have f4 := (unhide kr).free 4
    have o5 := (unhide kr).cell (i := 5) (v := .int .i64 0) rfl
    have f5 := (unhide kr).free 5
    go_wp2_with fail
    refine bodyPost_ret (v := .tuple #[.agg #[.slice b0 Y.rooms.length r0, .slice b1 Y.guilds.length r1, .slice b2 Y.smiths.length r2, .slice b3 Y.desks.length r3, .slice b4 Y.paces.length r4, .int .i64 Y.now], .int .i64 0]) (by simp [results, Tryz.results24, go_sem, *]) rfl ⟨?_, ?_⟩
    · rw [unhide hX0]
      refine ⟨_, _, _, _, _, rs, rfl, ?_⟩
      refine FullSmy.mono (n₀ := w.heap.size + 1 + 1 + 1) ?_ (by omega)
      iterate 6 (refine FullSmy.set_off ?_ (fun k e => by have := ((unhide HF).own e).1; omega) _ _)
      exact unhide HF
    · iterate 6 (refine Below.setCell ?_ (by show _ ≤ w.heap.size + 1 + 1; omega) _)
      exact K.bb
  · -- refused
    have hcn : (restC m who) ≠ 0 := by omega
    have hX0 := hide ((unhide HX9).symm.trans (done_no hm _ hcn))
    have HF := hide (hf.mono (n₁ := w.heap.size + 1 + 1 + 1) (by omega))
    have Hkp := hide kp
    clear hf hb kp hcn HX9
    generalize restC m who = cd at *
    go_wp2_with fail
    refine (told_wrap (unhide HE) hc0 (unhide Hkp)).mono ?_
    rintro e w3 ⟨rfl, hb⟩
    replace K := K.next hb
    replace kr := bl kr hb
    replace HF := hide ((unhide HF).below hb)
    clear hb Hkp
    have o0 := (unhide kr).cell (i := 0) (v := .slice none 0 0) rfl
    have f0 := (unhide kr).free 0
    have o1 := (unhide kr).cell (i := 1) (v := .slice none 0 0) rfl
    have f1 := (unhide kr).free 1
    have o2 := (unhide kr).cell (i := 2) (v := .slice none 0 0) rfl
    have f2 := (unhide kr).free 2
    have o3 := (unhide kr).cell (i := 3) (v := .slice none 0 0) rfl
    have f3 := (unhide kr).free 3
    have o4 := (unhide kr).cell (i := 4) (v := .slice none 0 0) rfl
    have f4 := (unhide kr).free 4
    have o5 := (unhide kr).cell (i := 5) (v := .int .i64 0) rfl
    have f5 := (unhide kr).free 5
    go_wp2_with fail
    refine bodyPost_ret (v := .tuple #[.agg #[.slice b0 m.rooms.length r0, .slice b1 m.guilds.length r1, .slice b2 m.smiths.length r2, .slice b3 m.desks.length r3, .slice b4 m.paces.length r4, .int .i64 m.now], .int .i64 cd]) (by simp [results, Tryz.results24, go_sem, *]) rfl ⟨?_, ?_⟩
    · rw [unhide hX0]
      refine ⟨_, _, _, _, _, rs, rfl, ?_⟩
      refine FullSmy.mono (n₀ := w.heap.size + 1 + 1 + 1) ?_ (by omega)
      iterate 6 (refine FullSmy.set_off ?_ (fun k e => by have := ((unhide HF).own e).1; omega) _ _)
      exact unhide HF
    · iterate 6 (refine Below.setCell ?_ (by show _ ≤ w.heap.size + 1 + 1; omega) _)
      exact K.bb
set_option maxHeartbeats 8000000 in
theorem implLeave_any {w : World} {v0 v1 v2 v3 v4 : Value} {m : SmyV} {q : Int → Addr} (who : Int) (he : Errs w q) (h : Smy w v0 v1 v2 v3 v4 m) : Calls Tryz.prog 26 #[.agg #[v0, v1, v2, v3, v4, .int .i64 m.now], .int .i64 who] w fun e w' => GotM w.heap.size (leaveV m who).1 (leaveV m who).2 e w' ∧ Below w.heap.size w w' := by
  have HE := hide he
  clear he
  obtain ⟨a0, p0, a1, p1, a2, p2, a3, p3, a4, p4, rfl, rfl, rfl, rfl, rfl, K⟩ := Bx.new h
  clear h
  replace K := (K.alloc (.cells #[.int .i64 who] 2)).alloc (.cells #[.slice none 0 0, .slice none 0 0, .slice none 0 0, .slice none 0 0, .slice none 0 0, .int .i64 0] 32)
  have kr : Hid (Blk (((w.alloc (.cells #[.slice a0 m.rooms.length p0, .slice a1 m.guilds.length p1, .slice a2 m.smiths.length p2, .slice a3 m.desks.length p3, .slice a4 m.paces.length p4, .int .i64 m.now] 32)).alloc (.cells #[.int .i64 who] 2)).alloc (.cells #[.slice none 0 0, .slice none 0 0, .slice none 0 0, .slice none 0 0, .slice none 0 0, .int .i64 0] 32)) (w.heap.size + 1 + 1) 32 #[.slice none 0 0, .slice none 0 0, .slice none 0 0, .slice none 0 0, .slice none 0 0, .int .i64 0]) := hide (by
    have k := Blk.new ((w.alloc (.cells #[.slice a0 m.rooms.length p0, .slice a1 m.guilds.length p1, .slice a2 m.smiths.length p2, .slice a3 m.desks.length p3, .slice a4 m.paces.length p4, .int .i64 m.now] 32)).alloc (.cells #[.int .i64 who] 2)) 32 #[.slice none 0 0, .slice none 0 0, .slice none 0 0, .slice none 0 0, .slice none 0 0, .int .i64 0]
    rw [World.size_alloc, World.size_alloc] at k
    exact k)
  have kc : Hid (Blk (((w.alloc (.cells #[.slice a0 m.rooms.length p0, .slice a1 m.guilds.length p1, .slice a2 m.smiths.length p2, .slice a3 m.desks.length p3, .slice a4 m.paces.length p4, .int .i64 m.now] 32)).alloc (.cells #[.int .i64 who] 2)).alloc (.cells #[.slice none 0 0, .slice none 0 0, .slice none 0 0, .slice none 0 0, .slice none 0 0, .int .i64 0] 32)) (w.heap.size + 1) 2 #[.int .i64 who]) := hide (by
    have k := Blk.new (w.alloc (.cells #[.slice a0 m.rooms.length p0, .slice a1 m.guilds.length p1, .slice a2 m.smiths.length p2, .slice a3 m.desks.length p3, .slice a4 m.paces.length p4, .int .i64 m.now] 32)) 2 #[.int .i64 who]
    rw [World.size_alloc] at k
    exact k.alloc _)
  replace HE := hide ((unhide HE).below K.bb)
  have hsz : (((w.alloc (.cells #[.slice a0 m.rooms.length p0, .slice a1 m.guilds.length p1, .slice a2 m.smiths.length p2, .slice a3 m.desks.length p3, .slice a4 m.paces.length p4, .int .i64 m.now] 32)).alloc (.cells #[.int .i64 who] 2)).alloc (.cells #[.slice none 0 0, .slice none 0 0, .slice none 0 0, .slice none 0 0, .slice none 0 0, .int .i64 0] 32)).heap.size = w.heap.size + 1 + 1 + 1 := by simp
  obtain ⟨X9, hX9⟩ : ∃ x, doneV m (leaveX m who) (leaveC m who) = x := ⟨_, rfl⟩
  rw [leave_is, hX9]
  have HX9 := hide hX9
  clear hX9
  go_enter Tryz.func26, Tryz.ntmps26
  go_upto_region 1 with fail
  generalize (((w.alloc (.cells #[.slice a0 m.rooms.length p0, .slice a1 m.guilds.length p1, .slice a2 m.smiths.length p2, .slice a3 m.desks.length p3, .slice a4 m.paces.length p4, .int .i64 m.now] 32)).alloc (.cells #[.int .i64 who] 2)).alloc (.cells #[.slice none 0 0, .slice none 0 0, .slice none 0 0, .slice none 0 0, .slice none 0 0, .int .i64 0] 32)) = W1 at *
  obtain ⟨c0, c1, c2, c3, c4, c5⟩ := K.cells
  go_wp2_with fail
  refine (tried_leave K.smy (unhide HE) who (unhide kc)).mono ?_
  rintro e w2 ⟨hb, h9⟩
  replace K := K.next hb
  replace kr := bl kr hb
  replace HE := hide ((unhide HE).below hb)
  clear c0 c1 c2 c3 c4 c5 kc
  rcases h9 with ⟨hm, rfl⟩ | ⟨hm, hc0, b0, r0, b1, r1, b2, r2, b3, r3, b4, r4, rs, rfl, hf⟩ | ⟨hm, hc0, p, b0, r0, b1, r1, b2, r2, b3, r3, b4, r4, rs, rfl, kp, hf⟩
  · -- it is not right
    have hX0 := hide ((unhide HX9).symm.trans (done_bad hm _ _))
    clear hb
    go_wp2_with fail
    refine (told_bare (unhide HE)).mono ?_
    rintro e w3 ⟨rfl, hb⟩
    replace K := K.next hb
    replace kr := bl kr hb
    clear hb
    have o0 := (unhide kr).cell (i := 0) (v := .slice none 0 0) rfl
    have f0 := (unhide kr).free 0
    have o1 := (unhide kr).cell (i := 1) (v := .slice none 0 0) rfl
    have f1 := (unhide kr).free 1
    have o2 := (unhide kr).cell (i := 2) (v := .slice none 0 0) rfl
    have f2 := (unhide kr).free 2
    have o3 := (unhide kr).cell (i := 3) (v := .slice none 0 0) rfl
    have f3 := (unhide kr).free 3
    have o4 := (unhide kr).cell (i := 4) (v := .slice none 0 0) rfl
    have f4 := (unhide kr).free 4
    have o5 := (unhide kr).cell (i := 5) (v := .int .i64 0) rfl
    have f5 := (unhide kr).free 5
    go_wp2_with fail
    refine bodyPost_ret (v := .tuple #[.agg #[.slice none 0 0, .slice none 0 0, .slice none 0 0, .slice none 0 0, .slice none 0 0, .int .i64 0], .int .i64 3]) (by simp [results, Tryz.results26, go_sem, *]) rfl ⟨by rw [unhide hX0]; exact ⟨_, _, _, _, _, [], rfl, full_zero _ _⟩, ?_⟩
    iterate 6 (refine Below.setCell ?_ (by show _ ≤ w.heap.size + 1 + 1; omega) _)
    exact K.bb
  · -- done
    have hX0 : Hid (X9 = (turnedV (leaveX m who), 0)) := hide (by rw [← unhide HX9, hc0]; exact done_yes hm _)
    have HF := hide (hf.mono (n₁ := w.heap.size + 1 + 1 + 1) (by omega))
    clear hf hb HX9
    generalize turnedV (leaveX m who) = Y at *
    go_wp2_with fail
    refine told_nil.mono ?_
    rintro e w3 ⟨rfl, hb⟩
    replace K := K.next hb
    replace kr := bl kr hb
    replace HF := hide ((unhide HF).below hb)
    clear hb
    have o0 := (unhide kr).cell (i := 0) (v := .slice none 0 0) rfl
    have f0 := (unhide kr).free 0
    have o1 := (unhide kr).cell (i := 1) (v := .slice none 0 0) rfl
    have f1 := (unhide kr).free 1
    have o2 := (unhide kr).cell (i := 2) (v := .slice none 0 0) rfl
    have f2 := (unhide kr).free 2
    have o3 := (unhide kr).cell (i := 3) (v := .slice none 0 0) rfl
    have f3 := (unhide kr).free 3
    have o4 := (unhide kr).cell (i := 4) (v := .slice none 0 0) rfl
    have f4 := (unhide kr).free 4
    have o5 := (unhide kr).cell (i := 5) (v := .int .i64 0) rfl
    have f5 := (unhide kr).free 5
    go_wp2_with fail
    refine bodyPost_ret (v := .tuple #[.agg #[.slice b0 Y.rooms.length r0, .slice b1 Y.guilds.length r1, .slice b2 Y.smiths.length r2, .slice b3 Y.desks.length r3, .slice b4 Y.paces.length r4, .int .i64 Y.now], .int .i64 0]) (by simp [results, Tryz.results26, go_sem, *]) rfl ⟨?_, ?_⟩
    · rw [unhide hX0]
      refine ⟨_, _, _, _, _, rs, rfl, ?_⟩
      refine FullSmy.mono (n₀ := w.heap.size + 1 + 1 + 1) ?_ (by omega)
      iterate 6 (refine FullSmy.set_off ?_ (fun k e => by have := ((unhide HF).own e).1; omega) _ _)
      exact unhide HF
    · iterate 6 (refine Below.setCell ?_ (by show _ ≤ w.heap.size + 1 + 1; omega) _)
      exact K.bb
  · -- refused
    have hcn : (leaveC m who) ≠ 0 := by omega
    have hX0 := hide ((unhide HX9).symm.trans (done_no hm _ hcn))
    have HF := hide (hf.mono (n₁ := w.heap.size + 1 + 1 + 1) (by omega))
    have Hkp := hide kp
    clear hf hb kp hcn HX9
    generalize leaveC m who = cd at *
    go_wp2_with fail
    refine (told_wrap (unhide HE) hc0 (unhide Hkp)).mono ?_
    rintro e w3 ⟨rfl, hb⟩
    replace K := K.next hb
    replace kr := bl kr hb
    replace HF := hide ((unhide HF).below hb)
    clear hb Hkp
    have o0 := (unhide kr).cell (i := 0) (v := .slice none 0 0) rfl
    have f0 := (unhide kr).free 0
    have o1 := (unhide kr).cell (i := 1) (v := .slice none 0 0) rfl
    have f1 := (unhide kr).free 1
    have o2 := (unhide kr).cell (i := 2) (v := .slice none 0 0) rfl
    have f2 := (unhide kr).free 2
    have o3 := (unhide kr).cell (i := 3) (v := .slice none 0 0) rfl
    have f3 := (unhide kr).free 3
    have o4 := (unhide kr).cell (i := 4) (v := .slice none 0 0) rfl
    have f4 := (unhide kr).free 4
    have o5 := (unhide kr).cell (i := 5) (v := .int .i64 0) rfl
    have f5 := (unhide kr).free 5
    go_wp2_with fail
    refine bodyPost_ret (v := .tuple #[.agg #[.slice b0 m.rooms.length r0, .slice b1 m.guilds.length r1, .slice b2 m.smiths.length r2, .slice b3 m.desks.length r3, .slice b4 m.paces.length r4, .int .i64 m.now], .int .i64 cd]) (by simp [results, Tryz.results26, go_sem, *]) rfl ⟨?_, ?_⟩
    · rw [unhide hX0]
      refine ⟨_, _, _, _, _, rs, rfl, ?_⟩
      refine FullSmy.mono (n₀ := w.heap.size + 1 + 1 + 1) ?_ (by omega)
      iterate 6 (refine FullSmy.set_off ?_ (fun k e => by have := ((unhide HF).own e).1; omega) _ _)
      exact unhide HF
    · iterate 6 (refine Below.setCell ?_ (by show _ ≤ w.heap.size + 1 + 1; omega) _)
      exact K.bb
end Go.Proofs.YthbbahagpmdooaaGreatDoor

