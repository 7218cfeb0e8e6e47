/- What the proof rests on, part 10: lists and numbers, how they lie in memory, and contracts of the calls. No condition but those that a theorem names. -/
import Derived.Test.YtmhagllddhjgmaaGreatXw01
import Derived.Test.YtmhagllddhjgmaaGreatXw02
import Derived.Test.YtmhagllddhjgmaaGreatXw03
import Derived.Test.YtmhagllddhjgmaaGreatXw04
import Derived.Test.YtmhagllddhjgmaaGreatXw05
import Derived.Test.YtmhagllddhjgmaaGreatXw06
import Derived.Test.YtmhagllddhjgmaaGreatXw07
import Derived.Test.YtmhagllddhjgmaaGreatXw08
import Derived.Test.YtmhagllddhjgmaaGreatXw09
import Derived.Deep.OwnRows
import Derived.WalkMore
import Derived.Below
import Derived.WalkKit
import Derived.ProofKit
import Derived.OpenShut
import Derived.Outline
import Derived.Lib.QuietBelow
import Derived.Deep.RegionWith
import Derived.Deep.QuietTactic
import Derived.BigQuiet
import Derived.Deep.DrawnRows
import Derived.BigRegion
import Derived.Deep.RegionLawGrows
import Derived.Laws.OwnMore
import Derived.OwnWalk
import Derived.Maps.AppendAt
import Derived.Deep.DeepCutAuto
import Derived.Lib.SmallJoins
import Derived.Deep.Fields
import Derived.Deep.Slices
import Derived.OrdersHeld
import Derived.Deep.RegionHeldLaw
/- A new smithy of the program. Condition: the hall can be read. -/
namespace Go.Proofs.YtmhagllddhjgmaaGreat
open Go.ChangeShapes Go.WideShapes Go.ChangeAt Go.RowKit Go.Sort
set_option linter.unusedVariables false
set_option linter.unusedSimpArgs false
set_option maxRecDepth 100000

set_option maxHeartbeats 16000000 in
theorem implNewSmithy_any {w : World} {v : Value} {rs : List RoomV} (h : IsRooms w v rs) :
    Calls Tryz.prog 24 #[.agg #[v]] w fun e w' => GotN w.heap.size (newV rs) (hallB rs) e w' ∧ Below w.heap.size w w' := by
  have Hv0 := hide h
  obtain ⟨a, cap, rfl, hc, hm, hr⟩ := h
  clear hr
  obtain ⟨ok, hok⟩ : ∃ q, hallB rs = q := ⟨_, rfl⟩
  have Hok := hide hok
  obtain ⟨M, hM⟩ : ∃ M, newV rs = M := ⟨_, rfl⟩
  rw [hok, hM]
  have HM := hide hM
  clear hok hM
  have kb : Hid (Blk ((w.alloc (.cells #[.slice a rs.length cap] 26)).alloc (.cells #[.slice none 0 0, .slice none 0 0, .slice none 0 0, .slice none 0 0, .slice none 0 0, .int .i64 0] 32)) w.heap.size 26 #[.slice a rs.length cap]) := hide ((Blk.new w _ _).alloc _)
  have kr : Hid (Blk ((w.alloc (.cells #[.slice a rs.length cap] 26)).alloc (.cells #[.slice none 0 0, .slice none 0 0, .slice none 0 0, .slice none 0 0, .slice none 0 0, .int .i64 0] 32)) (w.heap.size + 1) 32 #[.slice none 0 0, .slice none 0 0, .slice none 0 0, .slice none 0 0, .slice none 0 0, .int .i64 0]) := hide (by
    have k := Blk.new (w.alloc (.cells #[.slice a rs.length cap] 26)) 32 #[.slice none 0 0, .slice none 0 0, .slice none 0 0, .slice none 0 0, .slice none 0 0, .int .i64 0]
    rw [World.size_alloc] at k
    exact k)
  have BB : Hid (Below w.heap.size w ((w.alloc (.cells #[.slice a rs.length cap] 26)).alloc (.cells #[.slice none 0 0, .slice none 0 0, .slice none 0 0, .slice none 0 0, .slice none 0 0, .int .i64 0] 32))) := hide (((Below.refl _ _).alloc (Nat.le_refl _) _).alloc (by simp) _)
  have Hv := hide ((unhide Hv0).below (unhide BB))
  go_enter Tryz.func24, Tryz.ntmps24
  go_wp2_with fail
  generalize (w.alloc (.cells #[.slice a rs.length cap] 26)).alloc (.cells #[.slice none 0 0, .slice none 0 0, .slice none 0 0, .slice none 0 0, .slice none 0 0, .int .i64 0] 32) = W at *
  refine (implHallOk_any (unhide Hv)).mono ?_
  rw [unhide Hok]
  rintro e w1 ⟨rfl, hb⟩
  replace Hv := hide ((unhide Hv).below hb)
  replace kb := hide ((unhide kb).below hb (unhide kb).lt)
  replace kr := hide ((unhide kr).below hb (unhide kr).lt)
  replace BB := hide ((unhide BB).trans (hb.mono (unhide BB).size))
  clear hb
  cases ok
  · obtain rfl : M = zeroM := by rw [← unhide HM]; unfold newV; rw [unhide Hok]; rfl
    have o0 := (unhide kr).cell (i := 0) (v := .slice none 0 0) rfl
    have o1 := (unhide kr).cell (i := 1) (v := .slice none 0 0) rfl
    have o2 := (unhide kr).cell (i := 2) (v := .slice none 0 0) rfl
    have o3 := (unhide kr).cell (i := 3) (v := .slice none 0 0) rfl
    have o4 := (unhide kr).cell (i := 4) (v := .slice none 0 0) rfl
    have o5 := (unhide kr).cell (i := 5) (v := .int .i64 0) rfl
    have f0 := (unhide kr).free 0
    have f1 := (unhide kr).free 1
    have f2 := (unhide kr).free 2
    have f3 := (unhide kr).free 3
    have f4 := (unhide kr).free 4
    have f5 := (unhide kr).free 5
    go_wp2_with fail
    refine bodyPost_ret (v := .tuple #[.agg #[.slice none 0 0, .slice none 0 0, .slice none 0 0, .slice none 0 0, .slice none 0 0, .int .i64 0], .bool false]) (by simp [results, Tryz.results24, go_sem, *]) rfl ⟨⟨_, _, _, _, _, [], rfl, full_zero _ _⟩, ?_⟩
    iterate 6 (refine Below.setCell ?_ (by show _ ≤ w.heap.size + 1; omega) _)
    exact unhide BB
  obtain rfl : M = newM rs := by rw [← unhide HM]; unfold newV; rw [unhide Hok]; rfl
  obtain ⟨r1, r2, r3, r4⟩ := hallB_of (unhide Hok)
  have HP : Hid (∀ r ∈ rs, r.2.length ≤ 1000) := hide (fun r hr => by
    have hrb := List.all_eq_true.1 r3 r hr
    unfold roomB at hrb
    simp only [Bool.and_eq_true] at hrb
    have := inB_of hrb.2.1
    omega)
  have hmk : ∀ X : World, (Instr.makeSlice 30 (.int .i64 (rs.length : Int)) (.int .i64 (rs.length : Int))).run Tryz.prog X = .ok (.slice (some ⟨X.heap.size, 0, none⟩) rs.length rs.length) (X.alloc (.cells (madeCells #[.int .i64 0] rs.length) 2)) := fun X => run_make_row' 30 2 (.int .i64 0) 8 Tryz.underlying30 (by kernel_rfl) rfl .i64 .i64 rs.length (by omega) (by omega) X
  have Hb12 : Hid (1 ≤ benchSum rs ∧ benchSum rs ≤ 8) := hide ⟨bench_one (unhide Hok), r4⟩
  clear r3 r4
  have c0 := (unhide kb).cell (i := 0) (v := .slice a rs.length cap) rfl
  go_wp2_with fail
  go_cut [4] (fun s wc => ∃ R hv pv qs, s = .pointer (some ⟨R, 0, none⟩) ∧ NewCut w.heap.size w a rs cap wc R hv pv qs)
  case first =>
    have hz0 : w.heap.size + 2 ≤ w1.heap.size := by have := (unhide kr).lt; omega
    replace Hv := hide ((unhide Hv).below (Below.refl _ _).drew)
    replace kb := hide ((unhide kb).below (Below.refl _ _).drew (unhide kb).lt)
    replace kr := hide ((unhide kr).below (Below.refl _ _).drew (unhide kr).lt)
    replace BB := hide ((unhide BB).drew)
    refine wp_region_last (S := (fun w' => w'.cell? ⟨w.heap.size, 0, none⟩ = some (.slice a rs.length cap))) (by kernel_rfl) (List.cons_ne_nil _ _) (by kernel_rfl) c0 (fun hHeld => ?_)
    simp only [List.dropLast_cons_cons, List.dropLast_singleton, List.length_cons, List.length_nil, Nat.zero_add, Nat.reduceAdd]
    have hz0' : w.heap.size + 2 ≤ w1.drew.heap.size := hz0
    clear hz0 c0
    generalize w1.drew = X0 at *
    have hz0 := hz0'
    (refine wpAnyH_take (i := 0) (v := ?_) rfl (by kernel_rfl) (by kernel_rfl) (by kernel_rfl) (fun _ _ _ h => h) (Or.inl ⟨by rfl, ?_⟩) (by assumption) ?_; rotate_left; (intro W9 hSw; (try dsimp only at hSw); go_simp; (try with_reducible rfl)); (try simp only [Act.put, List.setIfInBounds_toArray, List.set_cons_zero, List.set_cons_succ]))
    (refine wpAnyH_take (i := 2) (v := ?_) rfl (by kernel_rfl) (by kernel_rfl) (by kernel_rfl) (fun _ _ _ h => h) (Or.inl ⟨by rfl, ?_⟩) (by assumption) ?_; rotate_left; (intro W9 hSw; (try dsimp only at hSw); go_simp; (try with_reducible rfl)); (try simp only [Act.put, List.setIfInBounds_toArray, List.set_cons_zero, List.set_cons_succ]))
    (refine wpAnyH_take (i := 3) (v := ?_) rfl (by kernel_rfl) (by kernel_rfl) (by kernel_rfl) (fun _ _ _ h => h) (Or.inl ⟨by rfl, ?_⟩) (by assumption) ?_; rotate_left; (intro W9 hSw; (try dsimp only at hSw); go_simp; (try with_reducible rfl)); (try simp only [Act.put, List.setIfInBounds_toArray, List.set_cons_zero, List.set_cons_succ]))
    (refine wpAnyH_take (i := 4) (v := ?_) rfl (by kernel_rfl) (by kernel_rfl) (by kernel_rfl) (fun _ _ _ h => h) (Or.inl ⟨by rfl, ?_⟩) (by assumption) ?_; rotate_left; (intro W9 hSw; (try dsimp only at hSw); go_simp; (try with_reducible rfl)); (try simp only [Act.put, List.setIfInBounds_toArray, List.set_cons_zero, List.set_cons_succ]))
    refine wpAnyH_ready (rs := [1, 5, 7]) (by kernel_rfl) (by simp) ?_
    refine AllReadyH.cons rfl (fun K hK => ?_) (AllReadyH.cons rfl (fun K hK => ?_) (AllReadyH.cons rfl (fun K hK => ?_) (AllReadyH.nil)))
    · go_simp
      refine (copyOfHall_any (unhide Hv) (by omega) (unhide HP)).mono ?_
      rintro e9 X1 ⟨v4, qs, rfl, hq4, ho4, hb4⟩
      have hql : qs.length = rs.length := by have := congrArg List.length hq4; simpa using this
      obtain ⟨ua, uc, hv4⟩ : ∃ ua uc, v4 = .slice ua rs.length uc := by
        obtain ⟨a9, c9, e9⟩ := ho4.shape
        exact ⟨a9, c9, by rw [e9, hql]⟩
      subst hv4
      have HLO : Hid (∀ k, ((Value.slice ua rs.length uc).ownBlock = some k ∨ ∃ q ∈ qs, q.2.ownBlock = some k) → X0.heap.size ≤ k ∧ k < X1.heap.size) := hide (fun k e => ho4.lt e)
      have HQ := hide hq4
      have HL4 := hide hql
      replace Hv := hide ((unhide Hv).below hb4)
      replace kb := hide ((unhide kb).below hb4 (unhide kb).lt)
      replace kr := hide ((unhide kr).below hb4 (unhide kr).lt)
      replace BB := hide ((unhide BB).trans (hb4.mono (unhide BB).size))
      have HH : Hid (OwnHall (w.heap.size + 2) X1 (.slice ua rs.length uc) qs) := hide (ho4.mono (by omega))
      have hz1 : X0.heap.size ≤ X1.heap.size := hb4.size
      clear hq4 ho4 hb4 hql
      refine hK.out _ _ ((unhide kb).cell (i := 0) rfl) (fun hHeld => ?_)
      clear hK K
      (try simp only [Act.put, List.setIfInBounds_toArray, List.set_cons_zero, List.set_cons_succ])
      refine wpAnyH_ready (rs := [5, 7]) (by kernel_rfl) (by simp) ?_
      refine AllReadyH.cons rfl (fun K hK => ?_) (AllReadyH.cons rfl (fun K hK => ?_) (AllReadyH.nil))
      · go_simp
        have hba : Below X1.heap.size X1 (X1.alloc (.cells (madeCells #[.int .i64 0] rs.length) 2)) := (Below.refl _ _).alloc (Nat.le_refl _) _
        replace Hv := hide ((unhide Hv).below hba)
        replace kb := hide ((unhide kb).below hba (unhide kb).lt)
        replace kr := hide ((unhide kr).below hba (unhide kr).lt)
        replace BB := hide ((unhide BB).trans (hba.mono (unhide BB).size))
        replace HH := hide ((unhide HH).later hba)
        have HN : Hid (NumsAt (w.heap.size + 2) (X1.alloc (.cells (madeCells #[.int .i64 0] rs.length) 2)) (.slice (some ⟨X1.heap.size, 0, none⟩) rs.length rs.length) (List.replicate rs.length 0)) := hide (made_nums (by omega) (by omega))
        have H15 : Hid (∀ k, ((Value.slice ua rs.length uc).ownBlock = some k ∨ ∃ q ∈ qs, q.2.ownBlock = some k) → k ≠ X1.heap.size) := hide (fun k e => by have := (unhide HLO k e).2; omega)
        refine hK.out _ _ ((unhide kb).cell (i := 0) rfl) (fun hHeld => ?_)
        clear hK K hba
        have hz2 : X1.heap.size < (X1.alloc (.cells (madeCells #[.int .i64 0] rs.length) 2)).heap.size := by simp
        generalize X1.alloc (.cells (madeCells #[.int .i64 0] rs.length) 2) = X2 at *
        (try simp only [Act.put, List.setIfInBounds_toArray, List.set_cons_zero, List.set_cons_succ])
        (refine wpAnyH_take (i := 6) (v := ?_) rfl (by kernel_rfl) (by kernel_rfl) (by kernel_rfl) (fun _ _ _ h => h) (Or.inl ⟨by rfl, ?_⟩) (by assumption) ?_; rotate_left; (intro W9 hSw; (try dsimp only at hSw); go_simp; (try with_reducible rfl)); (try simp only [Act.put, List.setIfInBounds_toArray, List.set_cons_zero, List.set_cons_succ]))
        refine wpAnyH_ready (rs := [7]) (by kernel_rfl) (by simp) ?_
        refine AllReadyH.cons rfl (fun K hK => ?_) (AllReadyH.nil)
        · go_simp
          have hba : Below X2.heap.size X2 (X2.alloc (.cells #[.slice none 0 0, .slice none 0 0, .slice none 0 0, .slice none 0 0, .slice none 0 0, .int .i64 0] 32)) := (Below.refl _ _).alloc (Nat.le_refl _) _
          replace Hv := hide ((unhide Hv).below hba)
          replace kb := hide ((unhide kb).below hba (unhide kb).lt)
          replace kr := hide ((unhide kr).below hba (unhide kr).lt)
          replace BB := hide ((unhide BB).trans (hba.mono (unhide BB).size))
          replace HH := hide ((unhide HH).later hba)
          replace HN := hide (RecAt.later (unhide HN) hba)
          have KM : Hid (Blk (X2.alloc (.cells #[.slice none 0 0, .slice none 0 0, .slice none 0 0, .slice none 0 0, .slice none 0 0, .int .i64 0] 32)) X2.heap.size 32 #[.slice none 0 0, .slice none 0 0, .slice none 0 0, .slice none 0 0, .slice none 0 0, .int .i64 0]) := hide (Blk.new _ _ _)
          have H17 : Hid (∀ k, ((Value.slice ua rs.length uc).ownBlock = some k ∨ ∃ q ∈ qs, q.2.ownBlock = some k) → k ≠ X2.heap.size) := hide (fun k e => by have := (unhide HLO k e).2; omega)
          have H57 : Hid (X2.heap.size ≠ X1.heap.size) := hide (by omega)
          refine hK.out _ _ ((unhide kb).cell (i := 0) rfl) (fun hHeld => ?_)
          clear hK K hba
          have hz3 : X2.heap.size < (X2.alloc (.cells #[.slice none 0 0, .slice none 0 0, .slice none 0 0, .slice none 0 0, .slice none 0 0, .int .i64 0] 32)).heap.size := by simp
          generalize X2.alloc (.cells #[.slice none 0 0, .slice none 0 0, .slice none 0 0, .slice none 0 0, .slice none 0 0, .int .i64 0] 32) = X3 at *
          (try simp only [Act.put, List.setIfInBounds_toArray, List.set_cons_zero, List.set_cons_succ])
          refine wpAnyH_done (by kernel_rfl) ?_ _
          refine tailQ_run rfl rfl ?_
          go_simp
          clear hHeld
          have m0 := (unhide KM).cell (i := 0) (v := .slice none 0 0) rfl
          have m1 := (unhide KM).cell (i := 1) (v := .slice none 0 0) rfl
          have m2 := (unhide KM).cell (i := 2) (v := .slice none 0 0) rfl
          have m3 := (unhide KM).cell (i := 3) (v := .slice none 0 0) rfl
          have m4 := (unhide KM).cell (i := 4) (v := .slice none 0 0) rfl
          have m5 := (unhide KM).cell (i := 5) (v := .int .i64 0) rfl
          have n0 := (unhide KM).free 0
          have n1 := (unhide KM).free 1
          have n2 := (unhide KM).free 2
          have n3 := (unhide KM).free 3
          have n4 := (unhide KM).free 4
          have n5 := (unhide KM).free 5
          go_wp2_with fail
          all_goals
            go_meet
            exact new_cut (by omega) (unhide BB) (unhide kb) (unhide kr) (unhide HH) (unhide HN) (unhide KM) (by omega) (unhide H15) (unhide H17) (unhide H57) (unhide HQ)
      · go_simp
        have hba : Below X1.heap.size X1 (X1.alloc (.cells #[.slice none 0 0, .slice none 0 0, .slice none 0 0, .slice none 0 0, .slice none 0 0, .int .i64 0] 32)) := (Below.refl _ _).alloc (Nat.le_refl _) _
        replace Hv := hide ((unhide Hv).below hba)
        replace kb := hide ((unhide kb).below hba (unhide kb).lt)
        replace kr := hide ((unhide kr).below hba (unhide kr).lt)
        replace BB := hide ((unhide BB).trans (hba.mono (unhide BB).size))
        replace HH := hide ((unhide HH).later hba)
        have KM : Hid (Blk (X1.alloc (.cells #[.slice none 0 0, .slice none 0 0, .slice none 0 0, .slice none 0 0, .slice none 0 0, .int .i64 0] 32)) X1.heap.size 32 #[.slice none 0 0, .slice none 0 0, .slice none 0 0, .slice none 0 0, .slice none 0 0, .int .i64 0]) := hide (Blk.new _ _ _)
        have H17 : Hid (∀ k, ((Value.slice ua rs.length uc).ownBlock = some k ∨ ∃ q ∈ qs, q.2.ownBlock = some k) → k ≠ X1.heap.size) := hide (fun k e => by have := (unhide HLO k e).2; omega)
        refine hK.out _ _ ((unhide kb).cell (i := 0) rfl) (fun hHeld => ?_)
        clear hK K hba
        have hz2 : X1.heap.size < (X1.alloc (.cells #[.slice none 0 0, .slice none 0 0, .slice none 0 0, .slice none 0 0, .slice none 0 0, .int .i64 0] 32)).heap.size := by simp
        generalize X1.alloc (.cells #[.slice none 0 0, .slice none 0 0, .slice none 0 0, .slice none 0 0, .slice none 0 0, .int .i64 0] 32) = X2 at *
        (try simp only [Act.put, List.setIfInBounds_toArray, List.set_cons_zero, List.set_cons_succ])
        refine wpAnyH_ready (rs := [5]) (by kernel_rfl) (by simp) ?_
        refine AllReadyH.cons rfl (fun K hK => ?_) (AllReadyH.nil)
        · go_simp
          have hba : Below X2.heap.size X2 (X2.alloc (.cells (madeCells #[.int .i64 0] rs.length) 2)) := (Below.refl _ _).alloc (Nat.le_refl _) _
          replace Hv := hide ((unhide Hv).below hba)
          replace kb := hide ((unhide kb).below hba (unhide kb).lt)
          replace kr := hide ((unhide kr).below hba (unhide kr).lt)
          replace BB := hide ((unhide BB).trans (hba.mono (unhide BB).size))
          replace HH := hide ((unhide HH).later hba)
          replace KM := hide ((unhide KM).below hba (unhide KM).lt)
          have HN : Hid (NumsAt (w.heap.size + 2) (X2.alloc (.cells (madeCells #[.int .i64 0] rs.length) 2)) (.slice (some ⟨X2.heap.size, 0, none⟩) rs.length rs.length) (List.replicate rs.length 0)) := hide (made_nums (by omega) (by omega))
          have H15 : Hid (∀ k, ((Value.slice ua rs.length uc).ownBlock = some k ∨ ∃ q ∈ qs, q.2.ownBlock = some k) → k ≠ X2.heap.size) := hide (fun k e => by have := (unhide HLO k e).2; omega)
          have H57 : Hid (X1.heap.size ≠ X2.heap.size) := hide (by omega)
          refine hK.out _ _ ((unhide kb).cell (i := 0) rfl) (fun hHeld => ?_)
          clear hK K hba
          have hz3 : X2.heap.size < (X2.alloc (.cells (madeCells #[.int .i64 0] rs.length) 2)).heap.size := by simp
          generalize X2.alloc (.cells (madeCells #[.int .i64 0] rs.length) 2) = X3 at *
          (try simp only [Act.put, List.setIfInBounds_toArray, List.set_cons_zero, List.set_cons_succ])
          (refine wpAnyH_take (i := 6) (v := ?_) rfl (by kernel_rfl) (by kernel_rfl) (by kernel_rfl) (fun _ _ _ h => h) (Or.inl ⟨by rfl, ?_⟩) (by assumption) ?_; rotate_left; (intro W9 hSw; (try dsimp only at hSw); go_simp; (try with_reducible rfl)); (try simp only [Act.put, List.setIfInBounds_toArray, List.set_cons_zero, List.set_cons_succ]))
          refine wpAnyH_done (by kernel_rfl) ?_ _
          refine tailQ_run rfl rfl ?_
          go_simp
          clear hHeld
          have m0 := (unhide KM).cell (i := 0) (v := .slice none 0 0) rfl
          have m1 := (unhide KM).cell (i := 1) (v := .slice none 0 0) rfl
          have m2 := (unhide KM).cell (i := 2) (v := .slice none 0 0) rfl
          have m3 := (unhide KM).cell (i := 3) (v := .slice none 0 0) rfl
          have m4 := (unhide KM).cell (i := 4) (v := .slice none 0 0) rfl
          have m5 := (unhide KM).cell (i := 5) (v := .int .i64 0) rfl
          have n0 := (unhide KM).free 0
          have n1 := (unhide KM).free 1
          have n2 := (unhide KM).free 2
          have n3 := (unhide KM).free 3
          have n4 := (unhide KM).free 4
          have n5 := (unhide KM).free 5
          go_wp2_with fail
          all_goals
            go_meet
            exact new_cut (by omega) (unhide BB) (unhide kb) (unhide kr) (unhide HH) (unhide HN) (unhide KM) (by omega) (unhide H15) (unhide H17) (unhide H57) (unhide HQ)
    · go_simp
      have hba : Below X0.heap.size X0 (X0.alloc (.cells (madeCells #[.int .i64 0] rs.length) 2)) := (Below.refl _ _).alloc (Nat.le_refl _) _
      replace Hv := hide ((unhide Hv).below hba)
      replace kb := hide ((unhide kb).below hba (unhide kb).lt)
      replace kr := hide ((unhide kr).below hba (unhide kr).lt)
      replace BB := hide ((unhide BB).trans (hba.mono (unhide BB).size))
      have HN : Hid (NumsAt (w.heap.size + 2) (X0.alloc (.cells (madeCells #[.int .i64 0] rs.length) 2)) (.slice (some ⟨X0.heap.size, 0, none⟩) rs.length rs.length) (List.replicate rs.length 0)) := hide (made_nums (by omega) (by omega))
      refine hK.out _ _ ((unhide kb).cell (i := 0) rfl) (fun hHeld => ?_)
      clear hK K hba
      have hz1 : X0.heap.size < (X0.alloc (.cells (madeCells #[.int .i64 0] rs.length) 2)).heap.size := by simp
      generalize X0.alloc (.cells (madeCells #[.int .i64 0] rs.length) 2) = X1 at *
      (try simp only [Act.put, List.setIfInBounds_toArray, List.set_cons_zero, List.set_cons_succ])
      refine wpAnyH_ready (rs := [1, 7]) (by kernel_rfl) (by simp) ?_
      refine AllReadyH.cons rfl (fun K hK => ?_) (AllReadyH.cons rfl (fun K hK => ?_) (AllReadyH.nil))
      · go_simp
        refine (copyOfHall_any (unhide Hv) (by omega) (unhide HP)).mono ?_
        rintro e9 X2 ⟨v4, qs, rfl, hq4, ho4, hb4⟩
        have hql : qs.length = rs.length := by have := congrArg List.length hq4; simpa using this
        obtain ⟨ua, uc, hv4⟩ : ∃ ua uc, v4 = .slice ua rs.length uc := by
          obtain ⟨a9, c9, e9⟩ := ho4.shape
          exact ⟨a9, c9, by rw [e9, hql]⟩
        subst hv4
        have HLO : Hid (∀ k, ((Value.slice ua rs.length uc).ownBlock = some k ∨ ∃ q ∈ qs, q.2.ownBlock = some k) → X1.heap.size ≤ k ∧ k < X2.heap.size) := hide (fun k e => ho4.lt e)
        have HQ := hide hq4
        have HL4 := hide hql
        replace Hv := hide ((unhide Hv).below hb4)
        replace kb := hide ((unhide kb).below hb4 (unhide kb).lt)
        replace kr := hide ((unhide kr).below hb4 (unhide kr).lt)
        replace BB := hide ((unhide BB).trans (hb4.mono (unhide BB).size))
        replace HN := hide (RecAt.later (unhide HN) hb4)
        have HH : Hid (OwnHall (w.heap.size + 2) X2 (.slice ua rs.length uc) qs) := hide (ho4.mono (by omega))
        have H15 : Hid (∀ k, ((Value.slice ua rs.length uc).ownBlock = some k ∨ ∃ q ∈ qs, q.2.ownBlock = some k) → k ≠ X0.heap.size) := hide (fun k e => by have := (unhide HLO k e).1; omega)
        have hz2 : X1.heap.size ≤ X2.heap.size := hb4.size
        clear hq4 ho4 hb4 hql
        refine hK.out _ _ ((unhide kb).cell (i := 0) rfl) (fun hHeld => ?_)
        clear hK K
        (try simp only [Act.put, List.setIfInBounds_toArray, List.set_cons_zero, List.set_cons_succ])
        (refine wpAnyH_take (i := 6) (v := ?_) rfl (by kernel_rfl) (by kernel_rfl) (by kernel_rfl) (fun _ _ _ h => h) (Or.inl ⟨by rfl, ?_⟩) (by assumption) ?_; rotate_left; (intro W9 hSw; (try dsimp only at hSw); go_simp; (try with_reducible rfl)); (try simp only [Act.put, List.setIfInBounds_toArray, List.set_cons_zero, List.set_cons_succ]))
        refine wpAnyH_ready (rs := [7]) (by kernel_rfl) (by simp) ?_
        refine AllReadyH.cons rfl (fun K hK => ?_) (AllReadyH.nil)
        · go_simp
          have hba : Below X2.heap.size X2 (X2.alloc (.cells #[.slice none 0 0, .slice none 0 0, .slice none 0 0, .slice none 0 0, .slice none 0 0, .int .i64 0] 32)) := (Below.refl _ _).alloc (Nat.le_refl _) _
          replace Hv := hide ((unhide Hv).below hba)
          replace kb := hide ((unhide kb).below hba (unhide kb).lt)
          replace kr := hide ((unhide kr).below hba (unhide kr).lt)
          replace BB := hide ((unhide BB).trans (hba.mono (unhide BB).size))
          replace HH := hide ((unhide HH).later hba)
          replace HN := hide (RecAt.later (unhide HN) hba)
          have KM : Hid (Blk (X2.alloc (.cells #[.slice none 0 0, .slice none 0 0, .slice none 0 0, .slice none 0 0, .slice none 0 0, .int .i64 0] 32)) X2.heap.size 32 #[.slice none 0 0, .slice none 0 0, .slice none 0 0, .slice none 0 0, .slice none 0 0, .int .i64 0]) := hide (Blk.new _ _ _)
          have H17 : Hid (∀ k, ((Value.slice ua rs.length uc).ownBlock = some k ∨ ∃ q ∈ qs, q.2.ownBlock = some k) → k ≠ X2.heap.size) := hide (fun k e => by have := (unhide HLO k e).2; omega)
          have H57 : Hid (X2.heap.size ≠ X0.heap.size) := hide (by omega)
          refine hK.out _ _ ((unhide kb).cell (i := 0) rfl) (fun hHeld => ?_)
          clear hK K hba
          have hz3 : X2.heap.size < (X2.alloc (.cells #[.slice none 0 0, .slice none 0 0, .slice none 0 0, .slice none 0 0, .slice none 0 0, .int .i64 0] 32)).heap.size := by simp
          generalize X2.alloc (.cells #[.slice none 0 0, .slice none 0 0, .slice none 0 0, .slice none 0 0, .slice none 0 0, .int .i64 0] 32) = X3 at *
          (try simp only [Act.put, List.setIfInBounds_toArray, List.set_cons_zero, List.set_cons_succ])
          refine wpAnyH_done (by kernel_rfl) ?_ _
          refine tailQ_run rfl rfl ?_
          go_simp
          clear hHeld
          have m0 := (unhide KM).cell (i := 0) (v := .slice none 0 0) rfl
          have m1 := (unhide KM).cell (i := 1) (v := .slice none 0 0) rfl
          have m2 := (unhide KM).cell (i := 2) (v := .slice none 0 0) rfl
          have m3 := (unhide KM).cell (i := 3) (v := .slice none 0 0) rfl
          have m4 := (unhide KM).cell (i := 4) (v := .slice none 0 0) rfl
          have m5 := (unhide KM).cell (i := 5) (v := .int .i64 0) rfl
          have n0 := (unhide KM).free 0
          have n1 := (unhide KM).free 1
          have n2 := (unhide KM).free 2
          have n3 := (unhide KM).free 3
          have n4 := (unhide KM).free 4
          have n5 := (unhide KM).free 5
          go_wp2_with fail
          all_goals
            go_meet
            exact new_cut (by omega) (unhide BB) (unhide kb) (unhide kr) (unhide HH) (unhide HN) (unhide KM) (by omega) (unhide H15) (unhide H17) (unhide H57) (unhide HQ)
      · go_simp
        have hba : Below X1.heap.size X1 (X1.alloc (.cells #[.slice none 0 0, .slice none 0 0, .slice none 0 0, .slice none 0 0, .slice none 0 0, .int .i64 0] 32)) := (Below.refl _ _).alloc (Nat.le_refl _) _
        replace Hv := hide ((unhide Hv).below hba)
        replace kb := hide ((unhide kb).below hba (unhide kb).lt)
        replace kr := hide ((unhide kr).below hba (unhide kr).lt)
        replace BB := hide ((unhide BB).trans (hba.mono (unhide BB).size))
        replace HN := hide (RecAt.later (unhide HN) hba)
        have KM : Hid (Blk (X1.alloc (.cells #[.slice none 0 0, .slice none 0 0, .slice none 0 0, .slice none 0 0, .slice none 0 0, .int .i64 0] 32)) X1.heap.size 32 #[.slice none 0 0, .slice none 0 0, .slice none 0 0, .slice none 0 0, .slice none 0 0, .int .i64 0]) := hide (Blk.new _ _ _)
        have H57 : Hid (X1.heap.size ≠ X0.heap.size) := hide (by omega)
        refine hK.out _ _ ((unhide kb).cell (i := 0) rfl) (fun hHeld => ?_)
        clear hK K hba
        have hz2 : X1.heap.size < (X1.alloc (.cells #[.slice none 0 0, .slice none 0 0, .slice none 0 0, .slice none 0 0, .slice none 0 0, .int .i64 0] 32)).heap.size := by simp
        generalize X1.alloc (.cells #[.slice none 0 0, .slice none 0 0, .slice none 0 0, .slice none 0 0, .slice none 0 0, .int .i64 0] 32) = X2 at *
        (try simp only [Act.put, List.setIfInBounds_toArray, List.set_cons_zero, List.set_cons_succ])
        refine wpAnyH_ready (rs := [1]) (by kernel_rfl) (by simp) ?_
        refine AllReadyH.cons rfl (fun K hK => ?_) (AllReadyH.nil)
        · go_simp
          refine (copyOfHall_any (unhide Hv) (by omega) (unhide HP)).mono ?_
          rintro e9 X3 ⟨v4, qs, rfl, hq4, ho4, hb4⟩
          have hql : qs.length = rs.length := by have := congrArg List.length hq4; simpa using this
          obtain ⟨ua, uc, hv4⟩ : ∃ ua uc, v4 = .slice ua rs.length uc := by
            obtain ⟨a9, c9, e9⟩ := ho4.shape
            exact ⟨a9, c9, by rw [e9, hql]⟩
          subst hv4
          have HLO : Hid (∀ k, ((Value.slice ua rs.length uc).ownBlock = some k ∨ ∃ q ∈ qs, q.2.ownBlock = some k) → X2.heap.size ≤ k ∧ k < X3.heap.size) := hide (fun k e => ho4.lt e)
          have HQ := hide hq4
          have HL4 := hide hql
          replace Hv := hide ((unhide Hv).below hb4)
          replace kb := hide ((unhide kb).below hb4 (unhide kb).lt)
          replace kr := hide ((unhide kr).below hb4 (unhide kr).lt)
          replace BB := hide ((unhide BB).trans (hb4.mono (unhide BB).size))
          replace HN := hide (RecAt.later (unhide HN) hb4)
          replace KM := hide ((unhide KM).below hb4 (unhide KM).lt)
          have HH : Hid (OwnHall (w.heap.size + 2) X3 (.slice ua rs.length uc) qs) := hide (ho4.mono (by omega))
          have H15 : Hid (∀ k, ((Value.slice ua rs.length uc).ownBlock = some k ∨ ∃ q ∈ qs, q.2.ownBlock = some k) → k ≠ X0.heap.size) := hide (fun k e => by have := (unhide HLO k e).1; omega)
          have H17 : Hid (∀ k, ((Value.slice ua rs.length uc).ownBlock = some k ∨ ∃ q ∈ qs, q.2.ownBlock = some k) → k ≠ X1.heap.size) := hide (fun k e => by have := (unhide HLO k e).1; omega)
          have hz3 : X2.heap.size ≤ X3.heap.size := hb4.size
          clear hq4 ho4 hb4 hql
          refine hK.out _ _ ((unhide kb).cell (i := 0) rfl) (fun hHeld => ?_)
          clear hK K
          (try simp only [Act.put, List.setIfInBounds_toArray, List.set_cons_zero, List.set_cons_succ])
          (refine wpAnyH_take (i := 6) (v := ?_) rfl (by kernel_rfl) (by kernel_rfl) (by kernel_rfl) (fun _ _ _ h => h) (Or.inl ⟨by rfl, ?_⟩) (by assumption) ?_; rotate_left; (intro W9 hSw; (try dsimp only at hSw); go_simp; (try with_reducible rfl)); (try simp only [Act.put, List.setIfInBounds_toArray, List.set_cons_zero, List.set_cons_succ]))
          refine wpAnyH_done (by kernel_rfl) ?_ _
          refine tailQ_run rfl rfl ?_
          go_simp
          clear hHeld
          have m0 := (unhide KM).cell (i := 0) (v := .slice none 0 0) rfl
          have m1 := (unhide KM).cell (i := 1) (v := .slice none 0 0) rfl
          have m2 := (unhide KM).cell (i := 2) (v := .slice none 0 0) rfl
          have m3 := (unhide KM).cell (i := 3) (v := .slice none 0 0) rfl
          have m4 := (unhide KM).cell (i := 4) (v := .slice none 0 0) rfl
          have m5 := (unhide KM).cell (i := 5) (v := .int .i64 0) rfl
          have n0 := (unhide KM).free 0
          have n1 := (unhide KM).free 1
          have n2 := (unhide KM).free 2
          have n3 := (unhide KM).free 3
          have n4 := (unhide KM).free 4
          have n5 := (unhide KM).free 5
          go_wp2_with fail
          all_goals
            go_meet
            exact new_cut (by omega) (unhide BB) (unhide kb) (unhide kr) (unhide HH) (unhide HN) (unhide KM) (by omega) (unhide H15) (unhide H17) (unhide H57) (unhide HQ)
    · go_simp
      have hba : Below X0.heap.size X0 (X0.alloc (.cells #[.slice none 0 0, .slice none 0 0, .slice none 0 0, .slice none 0 0, .slice none 0 0, .int .i64 0] 32)) := (Below.refl _ _).alloc (Nat.le_refl _) _
      replace Hv := hide ((unhide Hv).below hba)
      replace kb := hide ((unhide kb).below hba (unhide kb).lt)
      replace kr := hide ((unhide kr).below hba (unhide kr).lt)
      replace BB := hide ((unhide BB).trans (hba.mono (unhide BB).size))
      have KM : Hid (Blk (X0.alloc (.cells #[.slice none 0 0, .slice none 0 0, .slice none 0 0, .slice none 0 0, .slice none 0 0, .int .i64 0] 32)) X0.heap.size 32 #[.slice none 0 0, .slice none 0 0, .slice none 0 0, .slice none 0 0, .slice none 0 0, .int .i64 0]) := hide (Blk.new _ _ _)
      refine hK.out _ _ ((unhide kb).cell (i := 0) rfl) (fun hHeld => ?_)
      clear hK K hba
      have hz1 : X0.heap.size < (X0.alloc (.cells #[.slice none 0 0, .slice none 0 0, .slice none 0 0, .slice none 0 0, .slice none 0 0, .int .i64 0] 32)).heap.size := by simp
      generalize X0.alloc (.cells #[.slice none 0 0, .slice none 0 0, .slice none 0 0, .slice none 0 0, .slice none 0 0, .int .i64 0] 32) = X1 at *
      (try simp only [Act.put, List.setIfInBounds_toArray, List.set_cons_zero, List.set_cons_succ])
      refine wpAnyH_ready (rs := [1, 5]) (by kernel_rfl) (by simp) ?_
      refine AllReadyH.cons rfl (fun K hK => ?_) (AllReadyH.cons rfl (fun K hK => ?_) (AllReadyH.nil))
      · go_simp
        refine (copyOfHall_any (unhide Hv) (by omega) (unhide HP)).mono ?_
        rintro e9 X2 ⟨v4, qs, rfl, hq4, ho4, hb4⟩
        have hql : qs.length = rs.length := by have := congrArg List.length hq4; simpa using this
        obtain ⟨ua, uc, hv4⟩ : ∃ ua uc, v4 = .slice ua rs.length uc := by
          obtain ⟨a9, c9, e9⟩ := ho4.shape
          exact ⟨a9, c9, by rw [e9, hql]⟩
        subst hv4
        have HLO : Hid (∀ k, ((Value.slice ua rs.length uc).ownBlock = some k ∨ ∃ q ∈ qs, q.2.ownBlock = some k) → X1.heap.size ≤ k ∧ k < X2.heap.size) := hide (fun k e => ho4.lt e)
        have HQ := hide hq4
        have HL4 := hide hql
        replace Hv := hide ((unhide Hv).below hb4)
        replace kb := hide ((unhide kb).below hb4 (unhide kb).lt)
        replace kr := hide ((unhide kr).below hb4 (unhide kr).lt)
        replace BB := hide ((unhide BB).trans (hb4.mono (unhide BB).size))
        replace KM := hide ((unhide KM).below hb4 (unhide KM).lt)
        have HH : Hid (OwnHall (w.heap.size + 2) X2 (.slice ua rs.length uc) qs) := hide (ho4.mono (by omega))
        have H17 : Hid (∀ k, ((Value.slice ua rs.length uc).ownBlock = some k ∨ ∃ q ∈ qs, q.2.ownBlock = some k) → k ≠ X0.heap.size) := hide (fun k e => by have := (unhide HLO k e).1; omega)
        have hz2 : X1.heap.size ≤ X2.heap.size := hb4.size
        clear hq4 ho4 hb4 hql
        refine hK.out _ _ ((unhide kb).cell (i := 0) rfl) (fun hHeld => ?_)
        clear hK K
        (try simp only [Act.put, List.setIfInBounds_toArray, List.set_cons_zero, List.set_cons_succ])
        refine wpAnyH_ready (rs := [5]) (by kernel_rfl) (by simp) ?_
        refine AllReadyH.cons rfl (fun K hK => ?_) (AllReadyH.nil)
        · go_simp
          have hba : Below X2.heap.size X2 (X2.alloc (.cells (madeCells #[.int .i64 0] rs.length) 2)) := (Below.refl _ _).alloc (Nat.le_refl _) _
          replace Hv := hide ((unhide Hv).below hba)
          replace kb := hide ((unhide kb).below hba (unhide kb).lt)
          replace kr := hide ((unhide kr).below hba (unhide kr).lt)
          replace BB := hide ((unhide BB).trans (hba.mono (unhide BB).size))
          replace HH := hide ((unhide HH).later hba)
          replace KM := hide ((unhide KM).below hba (unhide KM).lt)
          have HN : Hid (NumsAt (w.heap.size + 2) (X2.alloc (.cells (madeCells #[.int .i64 0] rs.length) 2)) (.slice (some ⟨X2.heap.size, 0, none⟩) rs.length rs.length) (List.replicate rs.length 0)) := hide (made_nums (by omega) (by omega))
          have H15 : Hid (∀ k, ((Value.slice ua rs.length uc).ownBlock = some k ∨ ∃ q ∈ qs, q.2.ownBlock = some k) → k ≠ X2.heap.size) := hide (fun k e => by have := (unhide HLO k e).2; omega)
          have H57 : Hid (X0.heap.size ≠ X2.heap.size) := hide (by omega)
          refine hK.out _ _ ((unhide kb).cell (i := 0) rfl) (fun hHeld => ?_)
          clear hK K hba
          have hz3 : X2.heap.size < (X2.alloc (.cells (madeCells #[.int .i64 0] rs.length) 2)).heap.size := by simp
          generalize X2.alloc (.cells (madeCells #[.int .i64 0] rs.length) 2) = X3 at *
          (try simp only [Act.put, List.setIfInBounds_toArray, List.set_cons_zero, List.set_cons_succ])
          (refine wpAnyH_take (i := 6) (v := ?_) rfl (by kernel_rfl) (by kernel_rfl) (by kernel_rfl) (fun _ _ _ h => h) (Or.inl ⟨by rfl, ?_⟩) (by assumption) ?_; rotate_left; (intro W9 hSw; (try dsimp only at hSw); go_simp; (try with_reducible rfl)); (try simp only [Act.put, List.setIfInBounds_toArray, List.set_cons_zero, List.set_cons_succ]))
          refine wpAnyH_done (by kernel_rfl) ?_ _
          refine tailQ_run rfl rfl ?_
          go_simp
          clear hHeld
          have m0 := (unhide KM).cell (i := 0) (v := .slice none 0 0) rfl
          have m1 := (unhide KM).cell (i := 1) (v := .slice none 0 0) rfl
          have m2 := (unhide KM).cell (i := 2) (v := .slice none 0 0) rfl
          have m3 := (unhide KM).cell (i := 3) (v := .slice none 0 0) rfl
          have m4 := (unhide KM).cell (i := 4) (v := .slice none 0 0) rfl
          have m5 := (unhide KM).cell (i := 5) (v := .int .i64 0) rfl
          have n0 := (unhide KM).free 0
          have n1 := (unhide KM).free 1
          have n2 := (unhide KM).free 2
          have n3 := (unhide KM).free 3
          have n4 := (unhide KM).free 4
          have n5 := (unhide KM).free 5
          go_wp2_with fail
          all_goals
            go_meet
            exact new_cut (by omega) (unhide BB) (unhide kb) (unhide kr) (unhide HH) (unhide HN) (unhide KM) (by omega) (unhide H15) (unhide H17) (unhide H57) (unhide HQ)
      · go_simp
        have hba : Below X1.heap.size X1 (X1.alloc (.cells (madeCells #[.int .i64 0] rs.length) 2)) := (Below.refl _ _).alloc (Nat.le_refl _) _
        replace Hv := hide ((unhide Hv).below hba)
        replace kb := hide ((unhide kb).below hba (unhide kb).lt)
        replace kr := hide ((unhide kr).below hba (unhide kr).lt)
        replace BB := hide ((unhide BB).trans (hba.mono (unhide BB).size))
        replace KM := hide ((unhide KM).below hba (unhide KM).lt)
        have HN : Hid (NumsAt (w.heap.size + 2) (X1.alloc (.cells (madeCells #[.int .i64 0] rs.length) 2)) (.slice (some ⟨X1.heap.size, 0, none⟩) rs.length rs.length) (List.replicate rs.length 0)) := hide (made_nums (by omega) (by omega))
        have H57 : Hid (X0.heap.size ≠ X1.heap.size) := hide (by omega)
        refine hK.out _ _ ((unhide kb).cell (i := 0) rfl) (fun hHeld => ?_)
        clear hK K hba
        have hz2 : X1.heap.size < (X1.alloc (.cells (madeCells #[.int .i64 0] rs.length) 2)).heap.size := by simp
        generalize X1.alloc (.cells (madeCells #[.int .i64 0] rs.length) 2) = X2 at *
        (try simp only [Act.put, List.setIfInBounds_toArray, List.set_cons_zero, List.set_cons_succ])
        refine wpAnyH_ready (rs := [1]) (by kernel_rfl) (by simp) ?_
        refine AllReadyH.cons rfl (fun K hK => ?_) (AllReadyH.nil)
        · go_simp
          refine (copyOfHall_any (unhide Hv) (by omega) (unhide HP)).mono ?_
          rintro e9 X3 ⟨v4, qs, rfl, hq4, ho4, hb4⟩
          have hql : qs.length = rs.length := by have := congrArg List.length hq4; simpa using this
          obtain ⟨ua, uc, hv4⟩ : ∃ ua uc, v4 = .slice ua rs.length uc := by
            obtain ⟨a9, c9, e9⟩ := ho4.shape
            exact ⟨a9, c9, by rw [e9, hql]⟩
          subst hv4
          have HLO : Hid (∀ k, ((Value.slice ua rs.length uc).ownBlock = some k ∨ ∃ q ∈ qs, q.2.ownBlock = some k) → X2.heap.size ≤ k ∧ k < X3.heap.size) := hide (fun k e => ho4.lt e)
          have HQ := hide hq4
          have HL4 := hide hql
          replace Hv := hide ((unhide Hv).below hb4)
          replace kb := hide ((unhide kb).below hb4 (unhide kb).lt)
          replace kr := hide ((unhide kr).below hb4 (unhide kr).lt)
          replace BB := hide ((unhide BB).trans (hb4.mono (unhide BB).size))
          replace HN := hide (RecAt.later (unhide HN) hb4)
          replace KM := hide ((unhide KM).below hb4 (unhide KM).lt)
          have HH : Hid (OwnHall (w.heap.size + 2) X3 (.slice ua rs.length uc) qs) := hide (ho4.mono (by omega))
          have H15 : Hid (∀ k, ((Value.slice ua rs.length uc).ownBlock = some k ∨ ∃ q ∈ qs, q.2.ownBlock = some k) → k ≠ X1.heap.size) := hide (fun k e => by have := (unhide HLO k e).1; omega)
          have H17 : Hid (∀ k, ((Value.slice ua rs.length uc).ownBlock = some k ∨ ∃ q ∈ qs, q.2.ownBlock = some k) → k ≠ X0.heap.size) := hide (fun k e => by have := (unhide HLO k e).1; omega)
          have hz3 : X2.heap.size ≤ X3.heap.size := hb4.size
          clear hq4 ho4 hb4 hql
          refine hK.out _ _ ((unhide kb).cell (i := 0) rfl) (fun hHeld => ?_)
          clear hK K
          (try simp only [Act.put, List.setIfInBounds_toArray, List.set_cons_zero, List.set_cons_succ])
          (refine wpAnyH_take (i := 6) (v := ?_) rfl (by kernel_rfl) (by kernel_rfl) (by kernel_rfl) (fun _ _ _ h => h) (Or.inl ⟨by rfl, ?_⟩) (by assumption) ?_; rotate_left; (intro W9 hSw; (try dsimp only at hSw); go_simp; (try with_reducible rfl)); (try simp only [Act.put, List.setIfInBounds_toArray, List.set_cons_zero, List.set_cons_succ]))
          refine wpAnyH_done (by kernel_rfl) ?_ _
          refine tailQ_run rfl rfl ?_
          go_simp
          clear hHeld
          have m0 := (unhide KM).cell (i := 0) (v := .slice none 0 0) rfl
          have m1 := (unhide KM).cell (i := 1) (v := .slice none 0 0) rfl
          have m2 := (unhide KM).cell (i := 2) (v := .slice none 0 0) rfl
          have m3 := (unhide KM).cell (i := 3) (v := .slice none 0 0) rfl
          have m4 := (unhide KM).cell (i := 4) (v := .slice none 0 0) rfl
          have m5 := (unhide KM).cell (i := 5) (v := .int .i64 0) rfl
          have n0 := (unhide KM).free 0
          have n1 := (unhide KM).free 1
          have n2 := (unhide KM).free 2
          have n3 := (unhide KM).free 3
          have n4 := (unhide KM).free 4
          have n5 := (unhide KM).free 5
          go_wp2_with fail
          all_goals
            go_meet
            exact new_cut (by omega) (unhide BB) (unhide kb) (unhide kr) (unhide HH) (unhide HN) (unhide KM) (by omega) (unhide H15) (unhide H17) (unhide H57) (unhide HQ)
  case rest =>
    obtain ⟨R, hv, pv, qs, rfl, hcut⟩ := hcut
    obtain ⟨w2, rfl⟩ : ∃ x, x = wc := ⟨wc, rfl⟩
    obtain ⟨ua, uc, rfl⟩ := hcut.hshape
    obtain ⟨pa, pc, rfl⟩ := hcut.pshape
    have HC := hide hcut
    clear hcut c0 kb kr BB Hv
    have Hv := hide ((unhide Hv0).below (unhide HC).bel)
    have c0 := (unhide HC).kb.cell (i := 0) (v := .slice a rs.length cap) rfl
    go_wp2_with fail
    refine (implBenchesIn_any (unhide Hv)).mono ?_
    rw [benchesV_t (unhide Hok)]
    rintro e w3 ⟨rfl, hb⟩
    replace HC := hide ((unhide HC).below hb)
    clear hb c0
    obtain ⟨n, hn⟩ : ∃ n : Nat, benchSum rs = (n : Int) := ⟨(benchSum rs).toNat, by have := (unhide Hb12).1; omega⟩
    have hn8 : n ≤ 8 := by have := (unhide Hb12).2; omega
    have HnM : Hid (newM rs = ⟨rs, [], [], List.replicate n (true, -1, 0), List.replicate rs.length 0, 0⟩) := hide (by unfold newM; rw [hn]; rfl)
    rw [hn]
    clear hn
    go_wp2_with fail
    go_loopw [18] (fun i wr => ∃ (k : Nat) (u : Value), k ≤ n ∧ i = .int .i64 (k : Int) ∧ Blk wr R 32 #[.slice ua rs.length uc, .slice none 0 0, .slice none 0 0, u, .slice pa rs.length pc, .int .i64 0] ∧ DesksAt (w.heap.size + 2) wr u (List.replicate k (true, -1, 0)) ∧ NewOff w.heap.size rs wr R (.slice ua rs.length uc) (.slice pa rs.length pc) u qs ∧ Blk wr (w.heap.size + 1) 32 #[.slice none 0 0, .slice none 0 0, .slice none 0 0, .slice none 0 0, .slice none 0 0, .int .i64 0] ∧ Below w.heap.size w wr) (fun i _ => n - (intOf i).toNat)
    case atStart => exact ⟨0, .slice none 0 0, Nat.zero_le _, by simp, (unhide HC).km, recs_nil _ _, (unhide HC).off, (unhide HC).kr, (unhide HC).bel⟩
    case round =>
      obtain ⟨k, u, hk, rfl, km, hd, hoff, hkr, hbb⟩ := hrel
      obtain ⟨da, dc, rfl⟩ := RecAt.shape hd
      rw [List.length_replicate] at km hd hoff
      have KM := hide km
      have HD := hide hd
      have HF := hide hoff
      have kr := hide hkr
      have BB := hide hbb
      clear km hd hoff hkr hbb HC
      have m3 := (unhide KM).cell (i := 3) (v := .slice da k dc) rfl
      have n3 := (unhide KM).free 3
      have hRlt := (unhide KM).lt
      have hRo := (unhide HF).rlo
      by_cases hlt : k < n
      · have hsx := (unhide BB).size
        have hkn : ((k : Int) < (n : Int)) := by omega
        have hbase : w.heap.size + 2 ≤ wr.heap.size := by omega
        obtain ⟨u9, w9, hrun9, hown9, hg9, hat9⟩ := run_append_recs tyD (w := wr.alloc (.cells #[.bool true, .int .i64 (-1), .int .i64 0] 54)) (t := 29) (ty := 29) (base := w.heap.size + 2) Tryz.underlying29 (RecAt.later (unhide HD) ((Below.refl _ _).alloc (Nat.le_refl _) _)) (recs_one (w := wr) (g := wr.heap.size) (c := 1) ((true, -1, 0) : DeskV) rfl (Nat.le_refl _) (by omega)) (by simp; omega) (by simp; omega)
        obtain ⟨da9, dc9, rfl⟩ := RecAt.shape hown9
        have hlen9 : (List.replicate k ((true, -1, 0) : DeskV) ++ [(true, -1, 0)]).length = k + 1 := by simp
        rw [hlen9] at hrun9 hown9 hat9
        have hrep : List.replicate k ((true, -1, 0) : DeskV) ++ [(true, -1, 0)] = List.replicate (k + 1) (true, -1, 0) := by rw [List.replicate_succ']
        rw [hrep] at hown9
        have HR9 := hide hrun9
        have HO9 := hide hown9
        have hRd : (Value.slice da k dc).ownBlock ≠ some R := (unhide HF).rd
        have hgo : ∀ i, (Value.slice da k dc).ownBlock = some i → w.heap.size + 2 ≤ i := fun i e => (RecAt.lt (unhide HD) e).1
        have hb9 : Below (w.heap.size + 2) wr w9 := ((Below.refl _ _).alloc hbase _).trans ((Below.refl _ _).grown hg9 (by simp; omega) hgo)
        have KM9 := (((unhide KM).alloc (.cells #[.bool true, .int .i64 (-1), .int .i64 0] 54)).same (hg9.block R (by simp; omega) (fun e => hRd e.symm)))
        have t3 := KM9.cell (i := 3) (v := .slice da k dc) rfl
        have s3 := KM9.free 3
        have HF9 := hide ((unhide HF).grow hg9 hat9)
        have HKM9 := hide (KM9.set 3 (.slice da9 (k + 1) dc9))
        have Hb9 := hide hb9
        clear hrun9 hown9 hg9 hat9 KM9 hrep hlen9 hgo
        go_wp2_with (at_builtin; refine wpList_append_run rfl (.tmp 21) (.tmp 23) 29 rfl rfl rfl (unhide HR9) ?_)
        go_wp2_with fail
        go_roundw
        case rel =>
          refine ⟨k + 1, .slice da9 (k + 1) dc9, by omega, by go_num, unhide HKM9, ?_, (unhide HF9).set_R _ _, ?_, ?_⟩
          · exact RecAt.same (unhide HO9) fun i hi => heap_setCell_other _ _ _ _ (fun e => by have := (unhide HF9).rd; rw [hi] at this; exact this (by rw [e]))
          · exact ((unhide kr).below (unhide Hb9) (by omega)).other (by show w.heap.size + 1 ≠ R; omega) _
          · exact ((unhide BB).trans ((unhide Hb9).mono (by omega))).setCell (by show _ ≤ R; omega) _
        case measure => simp [intOf]; omega
      · obtain rfl : k = n := by omega
        have m0 := (unhide KM).cell (i := 0) (v := .slice ua rs.length uc) rfl
        have m1 := (unhide KM).cell (i := 1) (v := .slice none 0 0) rfl
        have m2 := (unhide KM).cell (i := 2) (v := .slice none 0 0) rfl
        have m4 := (unhide KM).cell (i := 4) (v := .slice pa rs.length pc) rfl
        have m5 := (unhide KM).cell (i := 5) (v := .int .i64 0) rfl
        have o0 := (unhide kr).cell (i := 0) (v := .slice none 0 0) rfl
        have o1 := (unhide kr).cell (i := 1) (v := .slice none 0 0) rfl
        have o2 := (unhide kr).cell (i := 2) (v := .slice none 0 0) rfl
        have o3 := (unhide kr).cell (i := 3) (v := .slice none 0 0) rfl
        have o4 := (unhide kr).cell (i := 4) (v := .slice none 0 0) rfl
        have o5 := (unhide kr).cell (i := 5) (v := .int .i64 0) rfl
        have f0 := (unhide kr).free 0
        have f1 := (unhide kr).free 1
        have f2 := (unhide kr).free 2
        have f3 := (unhide kr).free 3
        have f4 := (unhide kr).free 4
        have f5 := (unhide kr).free 5
        go_wp2_with fail
        refine bodyPost_ret (v := .tuple #[.agg #[.slice ua rs.length uc, .slice none 0 0, .slice none 0 0, .slice da k dc, .slice pa rs.length pc, .int .i64 0], .bool true]) (by simp [results, Tryz.results24, go_sem, *]) rfl ⟨?_, ?_⟩
        · rw [unhide HnM]
          refine ⟨_, _, _, _, _, qs, rfl, ?_⟩
          iterate 6 (refine FullSmy.set_off ?_ (fun i e => by have := ((unhide HF).full (unhide HD)).own e; omega) _ _)
          exact ((unhide HF).full (unhide HD)).mono (by omega)
        · iterate 6 (refine Below.setCell ?_ (by show _ ≤ w.heap.size + 1; omega) _)
          exact unhide BB

end Go.Proofs.YtmhagllddhjgmaaGreat

