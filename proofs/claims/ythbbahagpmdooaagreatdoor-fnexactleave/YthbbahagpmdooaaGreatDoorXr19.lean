/- What the proof rests on, part 19: lists and numbers, how they lie in memory, and contracts of the calls. No condition but those that a theorem names. -/
import Derived.Test.YthbbahagpmdooaaGreatDoorXr01
import Derived.Test.YthbbahagpmdooaaGreatDoorXr02
import Derived.Test.YthbbahagpmdooaaGreatDoorXr03
import Derived.Test.YthbbahagpmdooaaGreatDoorXr04
import Derived.Test.YthbbahagpmdooaaGreatDoorXr05
import Derived.Test.YthbbahagpmdooaaGreatDoorXr06
import Derived.Test.YthbbahagpmdooaaGreatDoorXr07
import Derived.Test.YthbbahagpmdooaaGreatDoorXr08
import Derived.Test.YthbbahagpmdooaaGreatDoorXr09
import Derived.Test.YthbbahagpmdooaaGreatDoorXr10
import Derived.Test.YthbbahagpmdooaaGreatDoorXr11
import Derived.Test.YthbbahagpmdooaaGreatDoorXr12
import Derived.Test.YthbbahagpmdooaaGreatDoorXr13
import Derived.Test.YthbbahagpmdooaaGreatDoorXr14
import Derived.Test.YthbbahagpmdooaaGreatDoorXr16
import Derived.Test.YthbbahagpmdooaaGreatDoorXr18
import Derived.Deep.DeepCutAuto
import Derived.WalkMore
import Derived.Below
import Derived.ChangeKeysEq
import Derived.Laws.StructEq
import Derived.WalkKit
import Derived.ProofKit
import Derived.OpenShut
import Derived.Outline
import Derived.Deep.RegionHeld3
import Derived.Deep.DrawnRows
import Derived.BigRegion
import Derived.Deep.RegionLawGrows
import Derived.Lib.QuietBelow
import Derived.Deep.RegionWith
import Derived.Deep.QuietTactic
import Derived.BigQuiet
import Derived.Laws.OwnMore
import Derived.OwnWalk
import Derived.Maps.AppendAt
import Derived.Lib.SmallJoins
import Derived.Deep.Fields
import Derived.Deep.Slices
import Derived.OrdersHeld
import Derived.Deep.RegionHeldLaw
/- Whose turn it is: the model's l12Turn, in a smithy that the call made. Conditions: those that each theorem names. -/
namespace Go.Proofs.YthbbahagpmdooaaGreatDoor
open Go.ChangeShapes Go.WideShapes Go.ChangeAt Go.RowKit Go.Sort
set_option linter.unusedVariables false
set_option linter.unusedSimpArgs false

theorem Two.ents {p q : Option Nat} {w w' : World} {B : Nat} {v : Value} {ps : List PaceV} (h : EntsAt B w v ps) (ht : Two p q w w') (hp : ∀ k, p = some k → k < B) (hq : ∀ k, q = some k → k < B) : EntsAt B w' v ps :=
  EntsAt.same h fun k e => ht.block k (h.lt e).2 (fun e' => by have := hp k e'; have := (h.lt e).1; omega) (fun e' => by have := hq k e'; have := (h.lt e).1; omega)
theorem Two.cell {p q : Option Nat} {w w' : World} (h : Two p q w w') {a : Addr} (ha : a.block < w.heap.size) (hp : p ≠ some a.block) (hq : q ≠ some a.block) : w'.cell? a = w.cell? a := World.cell?_of_block (w := w) (h.block a.block ha hp hq)
theorem take_one {q : List PaceV} {j : Nat} (hj : j < q.length) : q.take (j + 1) = q.take j ++ [paceAt q j] := by
  rw [List.take_succ_eq_append_getElem hj]; unfold paceAt; simp [List.getD, hj]

theorem turnB_nil {m : SmyV} {b : Nat} (h : atV m.smiths b m.smiths.length = []) : turnB m b = { m with desks := m.desks.set b ((recAt m.desks b).1, -1, (recAt m.desks b).2.2) } := by
  unfold turnB; rw [h]
theorem turnB_cons {m : SmyV} {b : Nat} {e : PaceV} {t : List PaceV} (h : atV m.smiths b m.smiths.length = e :: t) : turnB m b = { m with smiths := (waitAll m.smiths (e :: t)).set e.2.toNat (stS (recAt (waitAll m.smiths (e :: t)) e.2.toNat) 3), desks := m.desks.set b ((recAt m.desks b).1, e.2, markedV (recAt m.desks b).2.2 e.1) } := by
  unfold turnB; rw [h]

set_option maxRecDepth 100000 in
set_option maxHeartbeats 16000000 in
theorem l12Turn_any {w : World} {R n₀ : Nat} {v0 v1 v2 v3 v4 : Value} {m : SmyV} {qs : List (RoomV × Value)} (kb : Blk w R 32 #[v0, v1, v2, v3, v4, .int .i64 m.now]) (hf : FullSmy n₀ w v0 v1 v2 v3 v4 m qs) (h2 : v2.ownBlock ≠ some R) (h3 : v3.ownBlock ≠ some R) (hl : m.smiths.length ≤ 800) (hd : m.desks.length ≤ 1000) :
    Calls Tryz.prog 120 #[.pointer (some ⟨R, 0, none⟩)] w fun e w' => e = .returned (.tuple #[]) ∧ FullSmy n₀ w' v0 v1 v2 v3 v4 (turnV m) qs ∧ Two v2.ownBlock v3.ownBlock w w' := by
  obtain ⟨a2, p2, rfl⟩ := RecAt.shape hf.smiths
  obtain ⟨a3, p3, rfl⟩ := RecAt.shape hf.desks
  by_cases hnd : m.desks.length = 0
  · have hz : turnV m = m := by unfold turnV; rw [hnd]; rfl
    have c3 := kb.cell (i := 3) (v := .slice a3 m.desks.length p3) rfl
    have HF := hide hf
    rw [hz]
    have hz0 : ¬ (0 : Int) < (m.desks.length : Int) := by omega
    clear hz hf kb hnd
    go_enter Tryz.func120, Tryz.ntmps120
    go_wp2_with fail
    go_loopw [2] (fun i wr => i = .int .i64 0 ∧ wr = w) (fun i _ => 0)
    case atStart => exact ⟨rfl, rfl⟩
    case round =>
      obtain ⟨rfl, hwr⟩ := hrel
      subst hwr
      go_wp2_with fail
      go_end0
      exact ⟨rfl, unhide HF, Two.refl _ _ _⟩
  obtain ⟨g3, rfl, hg3, hg3w, _, _⟩ := RecAt.view encDesk_len (by omega) hf.desks rfl (by omega)
  have Kb := hide kb
  have H2 := hide h2
  have H3 : Hid (g3 ≠ R) := hide (fun e => h3 (by rw [e]; rfl))
  have HF := hide hf
  have L2 : Hid (∀ i, (Value.slice a2 m.smiths.length p2).ownBlock = some i → i < w.heap.size) := hide (fun i e => (RecAt.lt hf.smiths e).2)
  clear kb h2 h3 hf
  go_enter Tryz.func120, Tryz.ntmps120
  go_wp2_with fail
  go_loopw [2] (fun i wr => ∃ k : Nat, k ≤ m.desks.length ∧ i = .int .i64 k ∧ FullSmy n₀ wr v0 v1 (.slice a2 m.smiths.length p2) (.slice (some ⟨g3, 0, none⟩) m.desks.length p3) v4 (turnK m k) qs ∧ Two (Value.slice a2 m.smiths.length p2).ownBlock (some g3) w wr) (fun i _ => m.desks.length - (intOf i).toNat)
  case atStart => exact ⟨0, Nat.zero_le _, rfl, unhide HF, Two.refl _ _ _⟩
  case round =>
    obtain ⟨k, hk, rfl, hf1, htw⟩ := hrel
    obtain ⟨e1, e2, e3, e4, e5, e6⟩ := turnK_same m k
    have Tw := hide htw
    have hgw : g3 < wr.heap.size := Nat.lt_of_lt_of_le hg3w htw.size
    have hszr := htw.size
    have hkb1 := (unhide Kb).two htw (unhide H2) (fun e => unhide H3 (by cases e; rfl))
    have K1 := hide hkb1
    clear htw hkb1
    by_cases hlt : k < m.desks.length
    rotate_left
    · obtain rfl : k = m.desks.length := by omega
      have c3 := (unhide K1).cell (i := 3) (v := .slice (some ⟨g3, 0, none⟩) m.desks.length p3) rfl
      have hno : ¬ ((m.desks.length : Nat) : Int) < (m.desks.length : Int) := by omega
      have HF1 := hide hf1
      clear hf1
      go_wp2_with fail
      go_end0
      exact ⟨rfl, unhide HF1, unhide Tw⟩
    have hstep : turnK m (k + 1) = turnB (turnK m k) k := rfl
    generalize turnK m k = m1 at *
    have Hstep := hide hstep
    clear hstep
    have c0 := (unhide K1).cell (i := 0) (v := v0) rfl
    have c1 := (unhide K1).cell (i := 1) (v := v1) rfl
    have c2 := (unhide K1).cell (i := 2) (v := .slice a2 m.smiths.length p2) rfl
    have c3 := (unhide K1).cell (i := 3) (v := .slice (some ⟨g3, 0, none⟩) m.desks.length p3) rfl
    have c4 := (unhide K1).cell (i := 4) (v := v4) rfl
    have c5 := (unhide K1).cell (i := 5) (v := .int .i64 m.now) rfl
    have hat := l11At_any (k : Int) hf1.smy (by rw [e5]; exact hl)
    rw [e4, e5] at hat
    have Hat := hide hat
    have HF1 := hide hf1
    clear hat hf1
    go_wp2_with fail
    refine (unhide Hat).mono ?_
    rintro e w1 ⟨v', rfl, he, hb⟩
    clear c0 c1 c2 c3 c4 c5 Hat
    have hmem := atV_mem m1.smiths (k : Int)
    have hlq := atV_len m1.smiths (k : Int) m.smiths.length
    have HN : Hid (atV m1.smiths (k : Int) m.smiths.length = [] → turnB m1 k = { m1 with desks := m1.desks.set k ((recAt m1.desks k).1, -1, (recAt m1.desks k).2.2) }) := hide (fun h => turnB_nil (by rw [e5]; exact h))
    have HC : Hid (∀ e t, atV m1.smiths (k : Int) m.smiths.length = e :: t → turnB m1 k = { m1 with smiths := (waitAll m1.smiths (e :: t)).set e.2.toNat (stS (recAt (waitAll m1.smiths (e :: t)) e.2.toNat) 3), desks := m1.desks.set k ((recAt m1.desks k).1, e.2, markedV (recAt m1.desks k).2.2 e.1) }) := hide (fun e t h => turnB_cons (by rw [e5]; exact h))
    have hmq : ∀ x ∈ atV m1.smiths (k : Int) m.smiths.length, ∃ j : Nat, j < m.smiths.length ∧ x.2 = (j : Int) := fun x hx => by
      obtain ⟨j, hj, _, _, rfl⟩ := (hmem x m.smiths.length).1 hx
      exact ⟨j, hj, rfl⟩
    have Hm := hide hmq
    clear hmem hmq
    generalize atV m1.smiths (k : Int) m.smiths.length = q at *
    obtain ⟨qa, qc, rfl⟩ := EntsAt.shape he
    have HE := hide he
    replace HF1 := hide ((unhide HF1).below hb)
    replace K1 := hide ((unhide K1).below hb (unhide K1).lt)
    replace Tw := hide ((unhide Tw).trans (Two.of_below hb))
    have hgw1 : g3 < w1.heap.size := Nat.lt_of_lt_of_le hgw hb.size
    have hwr1 := hb.size
    clear he hb
    obtain ⟨⟨o, wh, mk⟩, hrk⟩ : ∃ d, recAt m1.desks k = d := ⟨_, rfl⟩
    rw [hrk] at HN HC
    simp only at HN HC
    have Hrk := hide hrk
    have hkd : k < m1.desks.length := by omega
    have hset : ∀ d, recAt (m1.desks.set k d) k = d := fun d => by rw [recAt_set hkd, if_pos rfl]
    have Hset := hide hset
    clear hset
    -- Who = -1
    obtain ⟨_, hga, _, _, hc3, hz3⟩ := RecAt.view encDesk_len (by omega) (unhide HF1).desks e6.symm (by omega)
    cases hga
    have d1 := hc3 k (by omega) 1 _ rfl
    rw [hrk] at d1
    have f1 := hz3 (k * 3 + 1)
    have c3 := (unhide K1).cell (i := 3) (v := .slice (some ⟨g3, 0, none⟩) m.desks.length p3) rfl
    have hput := (unhide HF1).putD e6.symm (j := k) (i := 1) (by omega) (by omega) (.int .i64 (-1)) (o, -1, mk) (by rw [hrk]; rfl)
    have HF2 := hide hput
    have hns : Two (Value.slice a2 m.smiths.length p2).ownBlock (some g3) w1 (w1.setCell ⟨g3, k * 3 + 1, none⟩ (.int .i64 (-1))) := Two.of_set w1 (.inr rfl) _ _
    have K2 := hide ((unhide K1).two hns (unhide H2) (fun e => unhide H3 (by cases e; rfl)))
    have Tw2 := hide ((unhide Tw).trans hns)
    have hlow2 : ∀ i, (Value.slice a2 m.smiths.length p2).ownBlock = some i → i < wr.heap.size := fun i e => Nat.lt_of_lt_of_le (unhide L2 i e) hszr
    have Low2 := hide hlow2
    have HE2 := hide (Two.ents (unhide HE) hns hlow2 (fun i e => by cases e; exact hgw))
    clear hput hns hlow2 hc3 hz3 hrk
    go_upto_region 5 with fail
    clear d1 f1 c3 K1 Tw HE HF1
    generalize w1.setCell ⟨g3, k * 3 + 1, none⟩ (.int .i64 (-1)) = X at *
    have hsm : ∀ i, i ∈ [0] → True := fun _ _ => trivial
    clear hsm
    go_wp2_with fail
    go_loopw [4] (fun i wi => ∃ j : Nat, j ≤ q.length ∧ i = .int .i64 j ∧ FullSmy n₀ wi v0 v1 (.slice a2 m.smiths.length p2) (.slice (some ⟨g3, 0, none⟩) m.desks.length p3) v4 { m1 with smiths := waitAll m1.smiths (q.take j), desks := m1.desks.set k (o, -1, mk) } qs ∧ Two (Value.slice a2 m.smiths.length p2).ownBlock (some g3) X wi) (fun i _ => q.length - (intOf i).toNat)
    case atStart => exact ⟨0, Nat.zero_le _, rfl, by simpa [waitAll] using unhide HF2, Two.refl _ _ _⟩
    case round =>
      obtain ⟨wi, rfl⟩ : ∃ x, x = wr := ⟨wr, rfl⟩
      obtain ⟨j, hj, rfl, hf3, htw3⟩ := hrel
      have HF3 := hide hf3
      have Tw3 := hide htw3
      have K3 := hide ((unhide K2).two htw3 (unhide H2) (fun e => unhide H3 (by cases e; rfl)))
      have HE3 := hide (Two.ents (unhide HE2) htw3 (unhide Low2) (fun i e => by cases e; exact hgw))
      clear hf3 htw3
      by_cases hjl : j < q.length
      · obtain ⟨_, _, hqe, _, _, hr⟩ := EntsAt.paces (unhide HE3)
        cases hqe
        rcases hr with e0 | ⟨eb, eo, rfl, hbw, hcl⟩
        · rw [e0] at hjl; simp at hjl
        obtain ⟨c0, c1⟩ := hcl j hjl
        obtain ⟨i0, hi0, hie⟩ := unhide Hm _ (paceAt_mem hjl)
        rw [hie] at c1
        have Htk : Hid (waitAll m1.smiths (q.take (j + 1)) = (waitAll m1.smiths (q.take j)).set i0 (stS (recAt (waitAll m1.smiths (q.take j)) i0) 2)) := hide (by rw [take_one hjl, waitAll_snoc, hie]; simp)
        have hwl : (waitAll m1.smiths (q.take j)).length = m.smiths.length := by rw [waitAll_len, e5]
        obtain ⟨g2, rfl, hg2, hg2w, hc2, hz2⟩ := RecAt.view encSmith_len (by omega) (unhide HF3).smiths hwl.symm (by show 0 < (waitAll m1.smiths (q.take j)).length; omega)
        have s0 := hc2 i0 (by show i0 < (waitAll m1.smiths (q.take j)).length; omega) 0 _ rfl
        have f0 := hz2 (i0 * 11)
        have hput := (unhide HF3).putS hwl.symm (j := i0) (i := 0) (by show i0 < (waitAll m1.smiths (q.take j)).length; omega) (by omega) (.int .i64 2) (stS (recAt (waitAll m1.smiths (q.take j)) i0) 2) rfl
        simp only [Nat.add_zero] at s0 hput
        have HF4 := hide hput
        have c2 := (unhide K3).cell (i := 2) (v := .slice (some ⟨g2, 0, none⟩) m.smiths.length p2) rfl
        clear hcl hc2 hz2 hput hie c0 hwl
        have hi1 : (i0 : Int) < (m.smiths.length : Int) := by omega
        go_wp2_with fail
        refine wp_region_last (S := fun w' => w'.cell? ⟨R, 2, none⟩ = some (.slice (some ⟨g2, 0, none⟩) m.smiths.length p2) ∧ w'.cell? ⟨eb, eo + j * 2 + 1, none⟩ = some (.int .i64 (i0 : Int))) (by kernel_rfl) (List.cons_ne_nil _ _) (by kernel_rfl) ⟨c2, c1⟩ (fun hHeld => ?_)
        simp only [List.dropLast_cons_cons, List.dropLast_singleton, List.length_cons, List.length_nil, Nat.zero_add, Nat.reduceAdd]
        (refine wpAnyH_take (i := 0) (v := ?_) rfl (by kernel_rfl) (by kernel_rfl) (by kernel_rfl) (fun _ _ _ h => h) (Or.inl ⟨by rfl, ?_⟩) (by assumption) ?_; rotate_left; (intro W9 hSw; (try dsimp only at hSw); go_simp; (try with_reducible rfl)); (try simp only [Act.put, List.setIfInBounds_toArray, List.set_cons_zero, List.set_cons_succ]))
        (refine wpAnyH_take (i := 1) (v := ?_) rfl (by kernel_rfl) (by kernel_rfl) (by kernel_rfl) (fun _ _ _ h => h) (Or.inl ⟨by rfl, ?_⟩) (by assumption) ?_; rotate_left; (intro W9 hSw; (try dsimp only at hSw); go_simp; (try with_reducible rfl)); (try simp only [Act.put, List.setIfInBounds_toArray, List.set_cons_zero, List.set_cons_succ]))
        (refine wpAnyH_take (i := 2) (v := ?_) rfl (by kernel_rfl) (by kernel_rfl) (by kernel_rfl) (fun _ _ _ h => h) (Or.inl ⟨by rfl, ?_⟩) (by assumption) ?_; rotate_left; (intro W9 hSw; (try dsimp only at hSw); go_simp; (try with_reducible rfl)); (try simp only [Act.put, List.setIfInBounds_toArray, List.set_cons_zero, List.set_cons_succ]))
        (refine wpAnyH_take (i := 3) (v := ?_) rfl (by kernel_rfl) (by kernel_rfl) (by kernel_rfl) (fun _ _ _ h => h) (Or.inl ⟨by rfl, ?_⟩) (by assumption) ?_; rotate_left; (intro W9 hSw; (try dsimp only at hSw); go_simp; (try with_reducible rfl)); (try simp only [Act.put, List.setIfInBounds_toArray, List.set_cons_zero, List.set_cons_succ]))
        (refine wpAnyH_take (i := 4) (v := ?_) rfl (by kernel_rfl) (by kernel_rfl) (by kernel_rfl) (fun _ _ _ h => h) (Or.inl ⟨by rfl, ?_⟩) (by assumption) ?_; rotate_left; (intro W9 hSw; (try dsimp only at hSw); go_simp; (try with_reducible rfl)); (try simp only [Act.put, List.setIfInBounds_toArray, List.set_cons_zero, List.set_cons_succ]))
        (refine wpAnyH_take (i := 5) (v := ?_) rfl (by kernel_rfl) (by kernel_rfl) (by kernel_rfl) (fun _ _ _ h => h) (Or.inl ⟨by rfl, ?_⟩) (by assumption) ?_; rotate_left; (intro W9 hSw; (try dsimp only at hSw); go_simp; (try with_reducible rfl)); (try simp only [Act.put, List.setIfInBounds_toArray, List.set_cons_zero, List.set_cons_succ]))
        (refine wpAnyH_take (i := 6) (v := ?_) rfl (by kernel_rfl) (by kernel_rfl) (by kernel_rfl) (fun _ _ _ h => h) (Or.inl ⟨by rfl, ?_⟩) (by assumption) ?_; rotate_left; (intro W9 hSw; (try dsimp only at hSw); go_simp; (try with_reducible rfl)); (try simp only [Act.put, List.setIfInBounds_toArray, List.set_cons_zero, List.set_cons_succ]))
        (refine wpAnyH_take (i := 7) (v := ?_) rfl (by kernel_rfl) (by kernel_rfl) (by kernel_rfl) (fun _ _ _ h => h) (Or.inl ⟨by rfl, ?_⟩) (by assumption) ?_; rotate_left; (intro W9 hSw; (try dsimp only at hSw); go_simp; (try with_reducible rfl)); (try simp only [Act.put, List.setIfInBounds_toArray, List.set_cons_zero, List.set_cons_succ]))
        (refine wpAnyH_take (i := 8) (v := ?_) rfl (by kernel_rfl) (by kernel_rfl) (by kernel_rfl) (fun _ _ _ h => h) (Or.inl ⟨by rfl, ?_⟩) (by assumption) ?_; rotate_left; (intro W9 hSw; (try dsimp only at hSw); go_simp; (try with_reducible rfl)); (try simp only [Act.put, List.setIfInBounds_toArray, List.set_cons_zero, List.set_cons_succ]))
        (refine wpAnyH_take (i := 9) (v := ?_) rfl (by kernel_rfl) (by kernel_rfl) (by kernel_rfl) (fun _ _ _ h => h) (Or.inl ⟨by rfl, ?_⟩) (by assumption) ?_; rotate_left; (intro W9 hSw; (try dsimp only at hSw); go_simp; (try with_reducible rfl)); (try simp only [Act.put, List.setIfInBounds_toArray, List.set_cons_zero, List.set_cons_succ]))
        (refine wpAnyH_take (i := 10) (v := ?_) rfl (by kernel_rfl) (by kernel_rfl) (by kernel_rfl) (fun _ _ _ h => h) (Or.inl ⟨by rfl, ?_⟩) (by assumption) ?_; rotate_left; (intro W9 hSw; (try dsimp only at hSw); go_simp; (try with_reducible rfl)); (try simp only [Act.put, List.setIfInBounds_toArray, List.set_cons_zero, List.set_cons_succ]))
        refine wpAnyH_done (by kernel_rfl) ?_ _
        refine tailQ_run rfl rfl ?_
        go_simp
        clear hHeld
        go_wp2_with fail
        go_roundw
        case rel => exact ⟨j + 1, by omega, by go_num, by rw [unhide Htk]; exact (unhide HF4).below (Below.refl _ _).drew, ((unhide Tw3).trans (Two.of_set _ (.inl rfl) _ _)).trans (Two.of_below (Below.refl _ _).drew)⟩
        case measure => simp [intOf]; omega
      · obtain rfl : j = q.length := by omega
        rw [List.take_length] at HF3
        cases q with
        | nil =>
          clear HC
          go_wp2_with fail
          go_roundw
          case rel => exact ⟨k + 1, by omega, by go_num, by rw [unhide Hstep, unhide HN rfl]; exact unhide HF3, (unhide Tw2).trans (unhide Tw3)⟩
          case measure => simp [intOf]; omega
        | cons e t =>
          obtain ⟨_, _, hqe, _, _, hr⟩ := EntsAt.paces (unhide HE3)
          cases hqe
          rcases hr with e0 | ⟨eb, eo, rfl, hbw, hcl⟩
          · cases e0
          obtain ⟨c0, c1⟩ := hcl 0 (by simp)
          obtain ⟨i0, hi0, hie⟩ := unhide Hm e (by simp)
          have hp0 : paceAt (e :: t) 0 = e := rfl
          rw [hp0] at c0 c1
          rw [hie] at c1
          simp only [Nat.zero_mul, Nat.add_zero] at c0 c1
          have hcons := unhide HC e t rfl
          rw [hie] at hcons
          simp only [show ((i0 : Int)).toNat = i0 by simp] at hcons
          have Hcons := hide hcons
          obtain ⟨hd0, hhd⟩ : ∃ x, e.1 = x := ⟨_, rfl⟩
          rw [hhd] at c0 Hcons
          clear hcons hhd hie hp0 hcl HN HC
          have hwl : (waitAll m1.smiths (e :: t)).length = m.smiths.length := by rw [waitAll_len, e5]
          obtain ⟨g2, rfl, hg2, hg2w, _, _⟩ := RecAt.view encSmith_len (by omega) (unhide HF3).smiths hwl.symm (by show 0 < (waitAll m1.smiths (e :: t)).length; omega)
          have hD1 : (m1.desks.set k (o, -1, mk)).length = m.desks.length := by simp [e6]
          have hD2 : ∀ d, (m1.desks.set k d).length = m.desks.length := fun d => by simp [e6]
          have heb := (EntsAt.lt (unhide HE3) (k := eb) rfl).1
          have hg2r := unhide Low2 g2 rfl
          have hlen : (e :: t).length = t.length + 1 := rfl
          have hlpos : (0 : Int) < ((t.length + 1 : Nat) : Int) := by omega
          rw [hlen] at *
          obtain ⟨_, hga, _, _, hcd, hzd⟩ := RecAt.view encDesk_len (by omega) (unhide HF3).desks hD1.symm (by show 0 < (m1.desks.set k (o, -1, mk)).length; omega)
          cases hga
          have d1 := hcd k (by show k < (m1.desks.set k (o, -1, mk)).length; omega) 1 _ rfl
          have f1 := hzd (k * 3 + 1)
          have c3 := (unhide K3).cell (i := 3) (v := .slice (some ⟨g3, 0, none⟩) m.desks.length p3) rfl
          have hne2 : (Value.slice (some ⟨g2, 0, none⟩) m.smiths.length p2).ownBlock ≠ some eb := fun e9 => by have e8 : g2 = eb := Option.some.inj e9; omega
          have hne3 : (some g3 : Option Nat) ≠ some eb := fun e9 => by have e8 : g3 = eb := Option.some.inj e9; omega
          have hput1 := (unhide HF3).putD hD1.symm (j := k) (i := 1) (by show k < (m1.desks.set k (o, -1, mk)).length; omega) (by omega) (.int .i64 (i0 : Int)) (o, (i0 : Int), mk) (by show encDesk (o, (i0 : Int), mk) = (encDesk (recAt (m1.desks.set k (o, -1, mk)) k)).set 1 _; rw [unhide Hset]; rfl)
          simp only [List.set_set] at hput1
          have HF4 : Hid (FullSmy n₀ (wi.setCell ⟨g3, k * 3 + 1, none⟩ (.int .i64 (i0 : Int))).drew v0 v1 (.slice (some ⟨g2, 0, none⟩) m.smiths.length p2) (.slice (some ⟨g3, 0, none⟩) m.desks.length p3) v4 { m1 with smiths := waitAll m1.smiths (e :: t), desks := m1.desks.set k (o, (i0 : Int), mk) } qs) := hide (hput1.below (Below.refl _ _).drew)
          have T4 : Two (Value.slice (some ⟨g2, 0, none⟩) m.smiths.length p2).ownBlock (some g3) wi (wi.setCell ⟨g3, k * 3 + 1, none⟩ (.int .i64 (i0 : Int))).drew := (Two.of_set wi (.inr rfl) _ _).trans (Two.of_below (Below.refl _ _).drew)
          have K4 := hide ((unhide K3).two T4 (unhide H2) (fun e9 => unhide H3 (by cases e9; rfl)))
          have x0 := (T4.cell (a := ⟨eb, eo, none⟩) hbw hne2 hne3).trans c0
          have x1 := (T4.cell (a := ⟨eb, eo + 1, none⟩) hbw hne2 hne3).trans c1
          have hbw4 : eb < ((wi.setCell ⟨g3, k * 3 + 1, none⟩ (.int .i64 (i0 : Int))).drew).heap.size := Nat.lt_of_lt_of_le hbw T4.size
          replace Tw3 := hide ((unhide Tw3).trans T4)
          clear hput1 T4 hcd hzd HE3 HF3
          go_wp2_with fail
          refine wp_region_last (S := fun w' => w'.cell? ⟨R, 3, none⟩ = some (.slice (some ⟨g3, 0, none⟩) m.desks.length p3) ∧ w'.cell? ⟨eb, eo + 1, none⟩ = some (.int .i64 (i0 : Int))) (by kernel_rfl) (List.cons_ne_nil _ _) (by kernel_rfl) ⟨c3, c1⟩ (fun hHeld => ?_)
          simp only [List.dropLast_cons_cons, List.dropLast_singleton, List.length_cons, List.length_nil, Nat.zero_add, Nat.reduceAdd]
          (refine wpAnyH_take (i := 0) (v := ?_) rfl (by kernel_rfl) (by kernel_rfl) (by kernel_rfl) (fun _ _ _ h => h) (Or.inl ⟨by rfl, ?_⟩) (by assumption) ?_; rotate_left; (intro W9 hSw; (try dsimp only at hSw); go_simp; (try with_reducible rfl)); (try simp only [Act.put, List.setIfInBounds_toArray, List.set_cons_zero, List.set_cons_succ]))
          (refine wpAnyH_take (i := 1) (v := ?_) rfl (by kernel_rfl) (by kernel_rfl) (by kernel_rfl) (fun _ _ _ h => h) (Or.inl ⟨by rfl, ?_⟩) (by assumption) ?_; rotate_left; (intro W9 hSw; (try dsimp only at hSw); go_simp; (try with_reducible rfl)); (try simp only [Act.put, List.setIfInBounds_toArray, List.set_cons_zero, List.set_cons_succ]))
          (refine wpAnyH_take (i := 2) (v := ?_) rfl (by kernel_rfl) (by kernel_rfl) (by kernel_rfl) (fun _ _ _ h => h) (Or.inl ⟨by rfl, ?_⟩) (by assumption) ?_; rotate_left; (intro W9 hSw; (try dsimp only at hSw); go_simp; (try with_reducible rfl)); (try simp only [Act.put, List.setIfInBounds_toArray, List.set_cons_zero, List.set_cons_succ]))
          (refine wpAnyH_take (i := 3) (v := ?_) rfl (by kernel_rfl) (by kernel_rfl) (by kernel_rfl) (fun _ _ _ h => h) (Or.inl ⟨by rfl, ?_⟩) (by assumption) ?_; rotate_left; (intro W9 hSw; (try dsimp only at hSw); go_simp; (try with_reducible rfl)); (try simp only [Act.put, List.setIfInBounds_toArray, List.set_cons_zero, List.set_cons_succ]))
          (refine wpAnyH_take (i := 4) (v := ?_) rfl (by kernel_rfl) (by kernel_rfl) (by kernel_rfl) (fun _ _ _ h => h) (Or.inl ⟨by rfl, ?_⟩) (by assumption) ?_; rotate_left; (intro W9 hSw; (try dsimp only at hSw); go_simp; (try with_reducible rfl)); (try simp only [Act.put, List.setIfInBounds_toArray, List.set_cons_zero, List.set_cons_succ]))
          (refine wpAnyH_take (i := 5) (v := ?_) rfl (by kernel_rfl) (by kernel_rfl) (by kernel_rfl) (fun _ _ _ h => h) (Or.inl ⟨by rfl, ?_⟩) (by assumption) ?_; rotate_left; (intro W9 hSw; (try dsimp only at hSw); go_simp; (try with_reducible rfl)); (try simp only [Act.put, List.setIfInBounds_toArray, List.set_cons_zero, List.set_cons_succ]))
          (refine wpAnyH_take (i := 6) (v := ?_) rfl (by kernel_rfl) (by kernel_rfl) (by kernel_rfl) (fun _ _ _ h => h) (Or.inl ⟨by rfl, ?_⟩) (by assumption) ?_; rotate_left; (intro W9 hSw; (try dsimp only at hSw); go_simp; (try with_reducible rfl)); (try simp only [Act.put, List.setIfInBounds_toArray, List.set_cons_zero, List.set_cons_succ]))
          (refine wpAnyH_take (i := 7) (v := ?_) rfl (by kernel_rfl) (by kernel_rfl) (by kernel_rfl) (fun _ _ _ h => h) (Or.inl ⟨by rfl, ?_⟩) (by assumption) ?_; rotate_left; (intro W9 hSw; (try dsimp only at hSw); go_simp; (try with_reducible rfl)); (try simp only [Act.put, List.setIfInBounds_toArray, List.set_cons_zero, List.set_cons_succ]))
          (refine wpAnyH_take (i := 8) (v := ?_) rfl (by kernel_rfl) (by kernel_rfl) (by kernel_rfl) (fun _ _ _ h => h) (Or.inl ⟨by rfl, ?_⟩) (by assumption) ?_; rotate_left; (intro W9 hSw; (try dsimp only at hSw); go_simp; (try with_reducible rfl)); (try simp only [Act.put, List.setIfInBounds_toArray, List.set_cons_zero, List.set_cons_succ]))
          (refine wpAnyH_take (i := 9) (v := ?_) rfl (by kernel_rfl) (by kernel_rfl) (by kernel_rfl) (fun _ _ _ h => h) (Or.inl ⟨by rfl, ?_⟩) (by assumption) ?_; rotate_left; (intro W9 hSw; (try dsimp only at hSw); go_simp; (try with_reducible rfl)); (try simp only [Act.put, List.setIfInBounds_toArray, List.set_cons_zero, List.set_cons_succ]))
          (refine wpAnyH_take (i := 10) (v := ?_) rfl (by kernel_rfl) (by kernel_rfl) (by kernel_rfl) (fun _ _ _ h => h) (Or.inl ⟨by rfl, ?_⟩) (by assumption) ?_; rotate_left; (intro W9 hSw; (try dsimp only at hSw); go_simp; (try with_reducible rfl)); (try simp only [Act.put, List.setIfInBounds_toArray, List.set_cons_zero, List.set_cons_succ]))
          refine wpAnyH_done (by kernel_rfl) ?_ _
          refine tailQ_run rfl rfl ?_
          go_simp
          clear hHeld
          clear d1 f1 c3 c0 c1 hbw K3
          generalize (wi.setCell ⟨g3, k * 3 + 1, none⟩ (.int .i64 (i0 : Int))).drew = Y at *
          -- the mark
          obtain ⟨_, hga, _, _, hcd, hzd⟩ := RecAt.view encDesk_len (by omega) (unhide HF4).desks (hD2 _).symm (by show 0 < (m1.desks.set k _).length; rw [hD2]; omega)
          cases hga
          have d2 := hcd k (by show k < (m1.desks.set k _).length; rw [hD2]; omega) 2 _ rfl
          have d2' : Y.cell? ⟨g3, k * 3 + 2, none⟩ = some (.int .i64 mk) := by
            have h9 : recAt (m1.desks.set k (o, (i0 : Int), mk)) k = (o, (i0 : Int), mk) := unhide Hset _
            rw [show (({ m1 with smiths := waitAll m1.smiths (e :: t), desks := m1.desks.set k (o, (i0 : Int), mk) } : SmyV)).desks = m1.desks.set k (o, (i0 : Int), mk) from rfl, h9] at d2
            exact d2
          have f2 := hzd (k * 3 + 2)
          have c3 := (unhide K4).cell (i := 3) (v := .slice (some ⟨g3, 0, none⟩) m.desks.length p3) rfl
          have hput2 := (unhide HF4).putD (hD2 _).symm (j := k) (i := 2) (by show k < (m1.desks.set k _).length; rw [hD2]; omega) (by omega) (.int .i64 (markedV mk hd0)) (o, (i0 : Int), markedV mk hd0) (by show encDesk (o, (i0 : Int), markedV mk hd0) = (encDesk (recAt (m1.desks.set k (o, (i0 : Int), mk)) k)).set 2 _; rw [unhide Hset]; rfl)
          simp only [List.set_set] at hput2
          have HF5 : Hid (FullSmy n₀ (Y.setCell ⟨g3, k * 3 + 2, none⟩ (.int .i64 (markedV mk hd0))).drew v0 v1 (.slice (some ⟨g2, 0, none⟩) m.smiths.length p2) (.slice (some ⟨g3, 0, none⟩) m.desks.length p3) v4 { m1 with smiths := waitAll m1.smiths (e :: t), desks := m1.desks.set k (o, (i0 : Int), markedV mk hd0) } qs) := hide (hput2.below (Below.refl _ _).drew)
          have T5 : Two (Value.slice (some ⟨g2, 0, none⟩) m.smiths.length p2).ownBlock (some g3) Y (Y.setCell ⟨g3, k * 3 + 2, none⟩ (.int .i64 (markedV mk hd0))).drew := (Two.of_set Y (.inr rfl) _ _).trans (Two.of_below (Below.refl _ _).drew)
          have K5 := hide ((unhide K4).two T5 (unhide H2) (fun e9 => unhide H3 (by cases e9; rfl)))
          have y1 := (T5.cell (a := ⟨eb, eo + 1, none⟩) hbw4 hne2 hne3).trans x1
          replace Tw3 := hide ((unhide Tw3).trans T5)
          clear hput2 T5 hcd hzd HF4 d2
          go_wp2_with fail
          refine wp_region_last (S := fun w' => w'.cell? ⟨R, 3, none⟩ = some (.slice (some ⟨g3, 0, none⟩) m.desks.length p3) ∧ w'.cell? ⟨g3, k * 3 + 2, none⟩ = some (.int .i64 mk) ∧ w'.cell? ⟨eb, eo, none⟩ = some (.int .i64 hd0)) (by kernel_rfl) (List.cons_ne_nil _ _) (by kernel_rfl) ⟨c3, d2', x0⟩ (fun hHeld => ?_)
          simp only [List.dropLast_cons_cons, List.dropLast_singleton, List.length_cons, List.length_nil, Nat.zero_add, Nat.reduceAdd]
          (refine wpAnyH_take (i := 0) (v := ?_) rfl (by kernel_rfl) (by kernel_rfl) (by kernel_rfl) (fun _ _ _ h => h) (Or.inl ⟨by rfl, ?_⟩) (by assumption) ?_; rotate_left; (intro W9 hSw; (try dsimp only at hSw); go_simp; (try with_reducible rfl)); (try simp only [Act.put, List.setIfInBounds_toArray, List.set_cons_zero, List.set_cons_succ]))
          (refine wpAnyH_take (i := 1) (v := ?_) rfl (by kernel_rfl) (by kernel_rfl) (by kernel_rfl) (fun _ _ _ h => h) (Or.inl ⟨by rfl, ?_⟩) (by assumption) ?_; rotate_left; (intro W9 hSw; (try dsimp only at hSw); go_simp; (try with_reducible rfl)); (try simp only [Act.put, List.setIfInBounds_toArray, List.set_cons_zero, List.set_cons_succ]))
          (refine wpAnyH_take (i := 2) (v := ?_) rfl (by kernel_rfl) (by kernel_rfl) (by kernel_rfl) (fun _ _ _ h => h) (Or.inl ⟨by rfl, ?_⟩) (by assumption) ?_; rotate_left; (intro W9 hSw; (try dsimp only at hSw); go_simp; (try with_reducible rfl)); (try simp only [Act.put, List.setIfInBounds_toArray, List.set_cons_zero, List.set_cons_succ]))
          (refine wpAnyH_take (i := 3) (v := ?_) rfl (by kernel_rfl) (by kernel_rfl) (by kernel_rfl) (fun _ _ _ h => h) (Or.inl ⟨by rfl, ?_⟩) (by assumption) ?_; rotate_left; (intro W9 hSw; (try dsimp only at hSw); go_simp; (try with_reducible rfl)); (try simp only [Act.put, List.setIfInBounds_toArray, List.set_cons_zero, List.set_cons_succ]))
          (refine wpAnyH_take (i := 4) (v := ?_) rfl (by kernel_rfl) (by kernel_rfl) (by kernel_rfl) (fun _ _ _ h => h) (Or.inl ⟨by rfl, ?_⟩) (by assumption) ?_; rotate_left; (intro W9 hSw; (try dsimp only at hSw); go_simp; (try with_reducible rfl)); (try simp only [Act.put, List.setIfInBounds_toArray, List.set_cons_zero, List.set_cons_succ]))
          (refine wpAnyH_take (i := 5) (v := ?_) rfl (by kernel_rfl) (by kernel_rfl) (by kernel_rfl) (fun _ _ _ h => h) (Or.inl ⟨by rfl, ?_⟩) (by assumption) ?_; rotate_left; (intro W9 hSw; (try dsimp only at hSw); go_simp; (try with_reducible rfl)); (try simp only [Act.put, List.setIfInBounds_toArray, List.set_cons_zero, List.set_cons_succ]))
          (refine wpAnyH_take (i := 6) (v := ?_) rfl (by kernel_rfl) (by kernel_rfl) (by kernel_rfl) (fun _ _ _ h => h) (Or.inl ⟨by rfl, ?_⟩) (by assumption) ?_; rotate_left; (intro W9 hSw; (try dsimp only at hSw); go_simp; (try with_reducible rfl)); (try simp only [Act.put, List.setIfInBounds_toArray, List.set_cons_zero, List.set_cons_succ]))
          (refine wpAnyH_take (i := 7) (v := ?_) rfl (by kernel_rfl) (by kernel_rfl) (by kernel_rfl) (fun _ _ _ h => h) (Or.inl ⟨by rfl, ?_⟩) (by assumption) ?_; rotate_left; (intro W9 hSw; (try dsimp only at hSw); go_simp; (try with_reducible rfl)); (try simp only [Act.put, List.setIfInBounds_toArray, List.set_cons_zero, List.set_cons_succ]))
          (refine wpAnyH_take (i := 8) (v := ?_) rfl (by kernel_rfl) (by kernel_rfl) (by kernel_rfl) (fun _ _ _ h => h) (Or.inl ⟨by rfl, ?_⟩) (by assumption) ?_; rotate_left; (intro W9 hSw; (try dsimp only at hSw); go_simp; (try with_reducible rfl)); (try simp only [Act.put, List.setIfInBounds_toArray, List.set_cons_zero, List.set_cons_succ]))
          (refine wpAnyH_take (i := 9) (v := ?_) rfl (by kernel_rfl) (by kernel_rfl) (by kernel_rfl) (fun _ _ _ h => h) (Or.inl ⟨by rfl, ?_⟩) (by assumption) ?_; rotate_left; (intro W9 hSw; (try dsimp only at hSw); go_simp; (try with_reducible rfl)); (try simp only [Act.put, List.setIfInBounds_toArray, List.set_cons_zero, List.set_cons_succ]))
          (refine wpAnyH_take (i := 10) (v := ?_) rfl (by kernel_rfl) (by kernel_rfl) (by kernel_rfl) (fun _ _ _ h => h) (Or.inl ⟨by rfl, ?_⟩) (by assumption) ?_; rotate_left; (intro W9 hSw; (try dsimp only at hSw); go_simp; (try with_reducible rfl)); (try simp only [Act.put, List.setIfInBounds_toArray, List.set_cons_zero, List.set_cons_succ]))
          (refine wpAnyH_take (i := 11) (v := ?_) rfl (by kernel_rfl) (by kernel_rfl) (by kernel_rfl) (fun _ _ _ h => h) (Or.inl ⟨by rfl, ?_⟩) (by assumption) ?_; rotate_left; (intro W9 hSw; (try dsimp only at hSw); go_simp; (try with_reducible rfl)); (try simp only [Act.put, List.setIfInBounds_toArray, List.set_cons_zero, List.set_cons_succ]))
          (refine wpAnyH_take (i := 12) (v := ?_) rfl (by kernel_rfl) (by kernel_rfl) (by kernel_rfl) (fun _ _ _ h => h) (Or.inl ⟨by rfl, ?_⟩) (by assumption) ?_; rotate_left; (intro W9 hSw; (try dsimp only at hSw); go_simp; (try with_reducible rfl)); (try simp only [Act.put, List.setIfInBounds_toArray, List.set_cons_zero, List.set_cons_succ]))
          (refine wpAnyH_take (i := 13) (v := ?_) rfl (by kernel_rfl) (by kernel_rfl) (by kernel_rfl) (fun _ _ _ h => h) (Or.inl ⟨by rfl, ?_⟩) (by assumption) ?_; rotate_left; (intro W9 hSw; (try dsimp only at hSw); go_simp; (try with_reducible rfl)); (try simp only [Act.put, List.setIfInBounds_toArray, List.set_cons_zero, List.set_cons_succ]))
          (refine wpAnyH_take (i := 14) (v := ?_) rfl (by kernel_rfl) (by kernel_rfl) (by kernel_rfl) (fun _ _ _ h => h) (Or.inl ⟨by rfl, ?_⟩) (by assumption) ?_; rotate_left; (intro W9 hSw; (try dsimp only at hSw); go_simp; (try with_reducible rfl)); (try simp only [Act.put, List.setIfInBounds_toArray, List.set_cons_zero, List.set_cons_succ]))
          (refine wpAnyH_take (i := 15) (v := ?_) rfl (by kernel_rfl) (by kernel_rfl) (by kernel_rfl) (fun _ _ _ h => h) (Or.inl ⟨by rfl, ?_⟩) (by assumption) ?_; rotate_left; (intro W9 hSw; (try dsimp only at hSw); go_simp; (try with_reducible rfl)); (try simp only [Act.put, List.setIfInBounds_toArray, List.set_cons_zero, List.set_cons_succ]))
          (refine wpAnyH_take (i := 16) (v := ?_) rfl (by kernel_rfl) (by kernel_rfl) (by kernel_rfl) (fun _ _ _ h => h) (Or.inl ⟨by rfl, ?_⟩) (by assumption) ?_; rotate_left; (intro W9 hSw; (try dsimp only at hSw); go_simp; (try with_reducible rfl)); (try simp only [Act.put, List.setIfInBounds_toArray, List.set_cons_zero, List.set_cons_succ]))
          refine wpAnyH_ready (rs := [17]) (by kernel_rfl) (by simp) ?_
          refine AllReadyH.cons rfl (fun K hK => ?_) AllReadyH.nil
          go_simp
          refine (specMarked_any mk hd0 _).mono ?_
          rintro e9 w9 ⟨rfl, hw9⟩
          subst w9
          refine hK.out _ _ hHeld (fun hHeld => ?_)
          clear hK K
          (try simp only [Act.put, List.setIfInBounds_toArray, List.set_cons_zero, List.set_cons_succ])
          (refine wpAnyH_take (i := 18) (v := ?_) rfl (by kernel_rfl) (by kernel_rfl) (by kernel_rfl) (fun _ _ _ h => h) (Or.inl ⟨by rfl, ?_⟩) (by assumption) ?_; rotate_left; (intro W9 hSw; (try dsimp only at hSw); go_simp; (try with_reducible rfl)); (try simp only [Act.put, List.setIfInBounds_toArray, List.set_cons_zero, List.set_cons_succ]))
          (refine wpAnyH_take (i := 19) (v := ?_) rfl (by kernel_rfl) (by kernel_rfl) (by kernel_rfl) (fun _ _ _ h => h) (Or.inl ⟨by rfl, ?_⟩) (by assumption) ?_; rotate_left; (intro W9 hSw; (try dsimp only at hSw); go_simp; (try with_reducible rfl)); (try simp only [Act.put, List.setIfInBounds_toArray, List.set_cons_zero, List.set_cons_succ]))
          refine wpAnyH_done (by kernel_rfl) ?_ _
          refine tailQ_run rfl rfl ?_
          go_simp
          clear hHeld
          clear d2' f2 c3 x0 x1 hbw4 K4
          generalize (Y.setCell ⟨g3, k * 3 + 2, none⟩ (.int .i64 (markedV mk hd0))).drew = Z at *
          -- it works
          obtain ⟨_, hga, _, _, hc2, hz2⟩ := RecAt.view encSmith_len (by omega) (unhide HF5).smiths hwl.symm (by show 0 < (waitAll m1.smiths (e :: t)).length; omega)
          cases hga
          have s0 := hc2 i0 (by show i0 < (waitAll m1.smiths (e :: t)).length; omega) 0 _ rfl
          have f0 := hz2 (i0 * 11)
          have c2 := (unhide K5).cell (i := 2) (v := .slice (some ⟨g2, 0, none⟩) m.smiths.length p2) rfl
          have hput3 := (unhide HF5).putS hwl.symm (j := i0) (i := 0) (by show i0 < (waitAll m1.smiths (e :: t)).length; omega) (by omega) (.int .i64 3) (stS (recAt (waitAll m1.smiths (e :: t)) i0) 3) rfl
          simp only [Nat.add_zero] at s0 hput3
          have HF6 := hide hput3
          have hi1 : (i0 : Int) < (m.smiths.length : Int) := by omega
          clear hput3 hc2 hz2 HF5
          go_wp2_with fail
          refine wp_region_last (S := fun w' => w'.cell? ⟨R, 2, none⟩ = some (.slice (some ⟨g2, 0, none⟩) m.smiths.length p2) ∧ w'.cell? ⟨eb, eo + 1, none⟩ = some (.int .i64 (i0 : Int))) (by kernel_rfl) (List.cons_ne_nil _ _) (by kernel_rfl) ⟨c2, y1⟩ (fun hHeld => ?_)
          simp only [List.dropLast_cons_cons, List.dropLast_singleton, List.length_cons, List.length_nil, Nat.zero_add, Nat.reduceAdd]
          (refine wpAnyH_take (i := 0) (v := ?_) rfl (by kernel_rfl) (by kernel_rfl) (by kernel_rfl) (fun _ _ _ h => h) (Or.inl ⟨by rfl, ?_⟩) (by assumption) ?_; rotate_left; (intro W9 hSw; (try dsimp only at hSw); go_simp; (try with_reducible rfl)); (try simp only [Act.put, List.setIfInBounds_toArray, List.set_cons_zero, List.set_cons_succ]))
          (refine wpAnyH_take (i := 1) (v := ?_) rfl (by kernel_rfl) (by kernel_rfl) (by kernel_rfl) (fun _ _ _ h => h) (Or.inl ⟨by rfl, ?_⟩) (by assumption) ?_; rotate_left; (intro W9 hSw; (try dsimp only at hSw); go_simp; (try with_reducible rfl)); (try simp only [Act.put, List.setIfInBounds_toArray, List.set_cons_zero, List.set_cons_succ]))
          (refine wpAnyH_take (i := 2) (v := ?_) rfl (by kernel_rfl) (by kernel_rfl) (by kernel_rfl) (fun _ _ _ h => h) (Or.inl ⟨by rfl, ?_⟩) (by assumption) ?_; rotate_left; (intro W9 hSw; (try dsimp only at hSw); go_simp; (try with_reducible rfl)); (try simp only [Act.put, List.setIfInBounds_toArray, List.set_cons_zero, List.set_cons_succ]))
          (refine wpAnyH_take (i := 3) (v := ?_) rfl (by kernel_rfl) (by kernel_rfl) (by kernel_rfl) (fun _ _ _ h => h) (Or.inl ⟨by rfl, ?_⟩) (by assumption) ?_; rotate_left; (intro W9 hSw; (try dsimp only at hSw); go_simp; (try with_reducible rfl)); (try simp only [Act.put, List.setIfInBounds_toArray, List.set_cons_zero, List.set_cons_succ]))
          (refine wpAnyH_take (i := 4) (v := ?_) rfl (by kernel_rfl) (by kernel_rfl) (by kernel_rfl) (fun _ _ _ h => h) (Or.inl ⟨by rfl, ?_⟩) (by assumption) ?_; rotate_left; (intro W9 hSw; (try dsimp only at hSw); go_simp; (try with_reducible rfl)); (try simp only [Act.put, List.setIfInBounds_toArray, List.set_cons_zero, List.set_cons_succ]))
          (refine wpAnyH_take (i := 5) (v := ?_) rfl (by kernel_rfl) (by kernel_rfl) (by kernel_rfl) (fun _ _ _ h => h) (Or.inl ⟨by rfl, ?_⟩) (by assumption) ?_; rotate_left; (intro W9 hSw; (try dsimp only at hSw); go_simp; (try with_reducible rfl)); (try simp only [Act.put, List.setIfInBounds_toArray, List.set_cons_zero, List.set_cons_succ]))
          (refine wpAnyH_take (i := 6) (v := ?_) rfl (by kernel_rfl) (by kernel_rfl) (by kernel_rfl) (fun _ _ _ h => h) (Or.inl ⟨by rfl, ?_⟩) (by assumption) ?_; rotate_left; (intro W9 hSw; (try dsimp only at hSw); go_simp; (try with_reducible rfl)); (try simp only [Act.put, List.setIfInBounds_toArray, List.set_cons_zero, List.set_cons_succ]))
          (refine wpAnyH_take (i := 7) (v := ?_) rfl (by kernel_rfl) (by kernel_rfl) (by kernel_rfl) (fun _ _ _ h => h) (Or.inl ⟨by rfl, ?_⟩) (by assumption) ?_; rotate_left; (intro W9 hSw; (try dsimp only at hSw); go_simp; (try with_reducible rfl)); (try simp only [Act.put, List.setIfInBounds_toArray, List.set_cons_zero, List.set_cons_succ]))
          (refine wpAnyH_take (i := 8) (v := ?_) rfl (by kernel_rfl) (by kernel_rfl) (by kernel_rfl) (fun _ _ _ h => h) (Or.inl ⟨by rfl, ?_⟩) (by assumption) ?_; rotate_left; (intro W9 hSw; (try dsimp only at hSw); go_simp; (try with_reducible rfl)); (try simp only [Act.put, List.setIfInBounds_toArray, List.set_cons_zero, List.set_cons_succ]))
          (refine wpAnyH_take (i := 9) (v := ?_) rfl (by kernel_rfl) (by kernel_rfl) (by kernel_rfl) (fun _ _ _ h => h) (Or.inl ⟨by rfl, ?_⟩) (by assumption) ?_; rotate_left; (intro W9 hSw; (try dsimp only at hSw); go_simp; (try with_reducible rfl)); (try simp only [Act.put, List.setIfInBounds_toArray, List.set_cons_zero, List.set_cons_succ]))
          refine wpAnyH_done (by kernel_rfl) ?_ _
          refine tailQ_run rfl rfl ?_
          go_simp
          clear hHeld
          go_wp2_with fail
          go_roundw
          case rel => exact ⟨k + 1, by omega, by go_num, by rw [unhide Hstep, unhide Hcons]; exact (unhide HF6).below (Below.refl _ _).drew, ((unhide Tw2).trans (unhide Tw3)).trans ((Two.of_set _ (.inl rfl) _ _).trans (Two.of_below (Below.refl _ _).drew))⟩
          case measure => simp [intOf]; omega

end Go.Proofs.YthbbahagpmdooaaGreatDoor

/- A smithy's own memory stays where another block is written; the smithy with nothing in it. Conditions: those that each theorem names. -/
namespace Go.Proofs.YthbbahagpmdooaaGreatDoor
open Go.ChangeShapes Go.WideShapes Go.ChangeAt Go.RowKit Go.Sort
set_option linter.unusedVariables false

theorem FullSmy.set_off {n₀ : Nat} {w : World} {v0 v1 v2 v3 v4 : Value} {m : SmyV} {qs : List (RoomV × Value)} (h : FullSmy n₀ w v0 v1 v2 v3 v4 m qs) {g : Nat} (ho : ∀ k, (v0.ownBlock = some k ∨ (∃ q ∈ qs, q.2.ownBlock = some k) ∨ v1.ownBlock = some k ∨ v2.ownBlock = some k ∨ v3.ownBlock = some k ∨ v4.ownBlock = some k) → k ≠ g) (o : Nat) (u : Value) : FullSmy n₀ (w.setCell ⟨g, o, none⟩ u) v0 v1 v2 v3 v4 m qs := by
  have hne : ∀ k, k ≠ g → (w.setCell ⟨g, o, none⟩ u).heap[k]? = w.heap[k]? := fun k hk => heap_setCell_other w _ k u hk
  exact ⟨h.hall.same2 fun k e => hne k (ho k (by rcases e with e | e; exact .inl e; exact .inr (.inl e))), h.rooms, RecAt.same h.guilds fun k e => hne k (ho k (.inr (.inr (.inl e)))), RecAt.same h.smiths fun k e => hne k (ho k (.inr (.inr (.inr (.inl e))))), RecAt.same h.desks fun k e => hne k (ho k (.inr (.inr (.inr (.inr (.inl e)))))), RecAt.same h.paces fun k e => hne k (ho k (.inr (.inr (.inr (.inr (.inr e)))))), h.h1, h.h2, h.h3, h.h4, h.a12, h.a13, h.a14, h.a23, h.a24, h.a34⟩
theorem full_zero (n₀ : Nat) (w : World) : FullSmy n₀ w (.slice none 0 0) (.slice none 0 0) (.slice none 0 0) (.slice none 0 0) (.slice none 0 0) zeroM [] := by
  have hz : Off2 (.slice none 0 0) (.slice none 0 0) := fun b e => by cases e
  exact ⟨OwnHall.nil _ _, rfl, World.ownsRow_nil _ _ _ _, World.ownsRow_nil _ _ _ _, World.ownsRow_nil _ _ _ _, World.ownsRow_nil _ _ _ _, ⟨hz, fun q hq => by cases hq⟩, ⟨hz, fun q hq => by cases hq⟩, ⟨hz, fun q hq => by cases hq⟩, ⟨hz, fun q hq => by cases hq⟩, hz, hz, hz, hz, hz, hz⟩

end Go.Proofs.YthbbahagpmdooaaGreatDoor

/- Behind all that is done (l15Done), who sits down (l15Sit), who is put at another bench (l16Put), what is refused (l15Bad): the model's, in a smithy that the call made. Conditions: those that each theorem names. -/
namespace Go.Proofs.YthbbahagpmdooaaGreatDoor
open Go.ChangeShapes Go.WideShapes Go.ChangeAt Go.RowKit Go.Sort
set_option linter.unusedVariables false
set_option linter.unusedSimpArgs false

theorem Two.set_new {p q : Option Nat} {w w' : World} (h : Two p q w w') {g : Nat} (hg : w.heap.size ≤ g) (o : Nat) (u : Value) : Two p q w (w'.setCell ⟨g, o, none⟩ u) :=
  ⟨h.os, h.tape, h.output, by simpa using h.size, fun i hi hp hq => (heap_setCell_other w' _ i u (by show i ≠ g; omega)).trans (h.block i hi hp hq)⟩
/-- Each block of it is below the heap's end. -/
theorem FullSmy.lt {n₀ : Nat} {w : World} {v0 v1 v2 v3 v4 : Value} {m : SmyV} {qs : List (RoomV × Value)} (h : FullSmy n₀ w v0 v1 v2 v3 v4 m qs) {k : Nat} (e : v0.ownBlock = some k ∨ (∃ q ∈ qs, q.2.ownBlock = some k) ∨ v1.ownBlock = some k ∨ v2.ownBlock = some k ∨ v3.ownBlock = some k ∨ v4.ownBlock = some k) : n₀ ≤ k ∧ k < w.heap.size := by
  rcases e with e | e | e | e | e | e
  · exact h.hall.lt (.inl e)
  · exact h.hall.lt (.inr e)
  · exact RecAt.lt h.guilds e
  · exact RecAt.lt h.smiths e
  · exact RecAt.lt h.desks e
  · exact RecAt.lt h.paces e

set_option maxRecDepth 100000 in
set_option maxHeartbeats 4000000 in
theorem l15Done_any {w : World} {R n₀ : Nat} {v0 v1 v2 v3 v4 : Value} {m : SmyV} {qs : List (RoomV × Value)} (kb : Blk w R 32 #[v0, v1, v2, v3, v4, .int .i64 m.now]) (hf : FullSmy n₀ w v0 v1 v2 v3 v4 m qs) (h2 : v2.ownBlock ≠ some R) (h3 : v3.ownBlock ≠ some R) (hl : m.smiths.length ≤ 800) (hd : m.desks.length ≤ 1000) :
    Calls Tryz.prog 48 #[.pointer (some ⟨R, 0, none⟩)] w fun e w' => e = .returned (.tuple #[.agg #[v0, v1, v2, v3, v4, .int .i64 m.now], .int .i64 0]) ∧ FullSmy n₀ w' v0 v1 v2 v3 v4 (turnV m) qs ∧ Two v2.ownBlock v3.ownBlock w w' := by
  have hfl := fun k e => (hf.lt (k := k) e).2
  obtain ⟨a0, p0, rfl⟩ := hf.hall.shape
  obtain ⟨a1, p1, rfl⟩ := RecAt.shape hf.guilds
  obtain ⟨a2, p2, rfl⟩ := RecAt.shape hf.smiths
  obtain ⟨a3, p3, rfl⟩ := RecAt.shape hf.desks
  obtain ⟨a4, p4, rfl⟩ := RecAt.shape hf.paces
  have Kb := hide kb
  have HF := hide hf
  have H2 := hide h2
  have H3 := hide h3
  have HL := hide hfl
  have hR := kb.lt
  clear kb hf h2 h3 hfl
  go_enter Tryz.func48, Tryz.ntmps48
  go_wp2_with fail
  have Ba : Below w.heap.size w (w.alloc (.cells #[.slice none 0 0, .slice none 0 0, .slice none 0 0, .slice none 0 0, .slice none 0 0, .int .i64 0] 32)) := (Below.refl _ _).alloc (Nat.le_refl _) _
  have kz := Blk.new w 32 #[.slice none 0 0, .slice none 0 0, .slice none 0 0, .slice none 0 0, .slice none 0 0, .int .i64 0]
  refine (l12Turn_any ((unhide Kb).below Ba hR) ((unhide HF).below Ba) (unhide H2) (unhide H3) hl hd).mono ?_
  rintro e w1 ⟨rfl, hf1, ht1⟩
  have T1 := (Two.of_below Ba).trans ht1
  have kb1 := (unhide Kb).two T1 (unhide H2) (unhide H3)
  have hnz : ∀ k, (_ ∨ _ ∨ _ ∨ _ ∨ _ ∨ _) → k ≠ w.heap.size := fun k e => by have := unhide HL k e; omega
  have kz1 := kz.two ht1 (fun e => hnz _ (.inr (.inr (.inr (.inl e)))) rfl) (fun e => hnz _ (.inr (.inr (.inr (.inr (.inl e))))) rfl)
  have c0 := kb1.cell (i := 0) (v := .slice a0 qs.length p0) rfl
  have c1 := kb1.cell (i := 1) (v := .slice a1 m.guilds.length p1) rfl
  have c2 := kb1.cell (i := 2) (v := .slice a2 m.smiths.length p2) rfl
  have c3 := kb1.cell (i := 3) (v := .slice a3 m.desks.length p3) rfl
  have c4 := kb1.cell (i := 4) (v := .slice a4 m.paces.length p4) rfl
  have c5 := kb1.cell (i := 5) (v := .int .i64 m.now) rfl
  have o0 := kz1.cell (i := 0) (v := .slice none 0 0) rfl
  have f0 := kz1.free 0
  have o1 := kz1.cell (i := 1) (v := .slice none 0 0) rfl
  have f1 := kz1.free 1
  have o2 := kz1.cell (i := 2) (v := .slice none 0 0) rfl
  have f2 := kz1.free 2
  have o3 := kz1.cell (i := 3) (v := .slice none 0 0) rfl
  have f3 := kz1.free 3
  have o4 := kz1.cell (i := 4) (v := .slice none 0 0) rfl
  have f4 := kz1.free 4
  have o5 := kz1.cell (i := 5) (v := .int .i64 0) rfl
  have f5 := kz1.free 5
  have HF1 := hide hf1
  have TT := hide T1
  have HN := hide hnz
  clear hf1 ht1 T1 kb1 kz1 kz Ba hnz
  go_wp2_with fail
  refine bodyPost_ret (v := .tuple #[.agg #[.slice a0 qs.length p0, .slice a1 m.guilds.length p1, .slice a2 m.smiths.length p2, .slice a3 m.desks.length p3, .slice a4 m.paces.length p4, .int .i64 m.now], .int .i64 0]) (by simp [results, Tryz.results48, go_sem, *]) rfl ⟨rfl, ?_, ?_⟩
  · iterate 6 (refine FullSmy.set_off ?_ (unhide HN) _ _)
    exact unhide HF1
  · iterate 6 (refine Two.set_new ?_ (Nat.le_refl _) _ _)
    exact unhide TT

set_option maxRecDepth 100000 in
theorem l15Bad_any {w : World} {v0 v1 v2 v3 v4 : Value} {m : SmyV} (h : Smy w v0 v1 v2 v3 v4 m) :
    Calls Tryz.prog 43 #[.agg #[v0, v1, v2, v3, v4, .int .i64 m.now]] w fun e w' => e = .returned (.tuple #[.agg #[.slice none 0 0, .slice none 0 0, .slice none 0 0, .slice none 0 0, .slice none 0 0, .int .i64 0], .int .i64 3]) ∧ Below w.heap.size w w' := by
  obtain ⟨a0, p0, rfl, _, _⟩ := IsRooms.shape h.rooms
  obtain ⟨a1, p1, rfl, _, _⟩ := IsRec.shape h.guilds
  obtain ⟨a2, p2, rfl, _, _⟩ := IsRec.shape h.smiths
  obtain ⟨a3, p3, rfl, _, _⟩ := IsRec.shape h.desks
  obtain ⟨a4, p4, rfl, _, _⟩ := IsRec.shape h.paces
  clear h
  go_enter Tryz.func43, Tryz.ntmps43
  go_wp2_with fail
  exact bodyPost_ret (v := .tuple #[.agg #[.slice none 0 0, .slice none 0 0, .slice none 0 0, .slice none 0 0, .slice none 0 0, .int .i64 0], .int .i64 3]) (by simp [results, Tryz.results43, go_sem]) rfl ⟨rfl, ((Below.refl _ _).alloc (Nat.le_refl _) _).alloc (by simp) _⟩

end Go.Proofs.YthbbahagpmdooaaGreatDoor

/- What a change hands back: a smithy in memory of its own, and a code; the smithy with nothing in it; the model's l11Who. Condition: the smithy can be read. -/
namespace Go.Proofs.YthbbahagpmdooaaGreatDoor
open Go.ChangeShapes Go.WideShapes Go.ChangeAt Go.RowKit Go.Sort
set_option linter.unusedVariables false

def GotM (n₀ : Nat) (M : SmyV) (c : Int) (e : Ending) (w' : World) : Prop :=
  ∃ u0 u1 u2 u3 u4 qs, e = .returned (.tuple #[.agg #[u0, u1, u2, u3, u4, .int .i64 M.now], .int .i64 c]) ∧ FullSmy n₀ w' u0 u1 u2 u3 u4 M qs
set_option maxHeartbeats 2000000 in
theorem l11Who_q {w : World} {v0 v1 v2 v3 v4 : Value} {m : SmyV} {who : Int} {q : Bool} (hq : whoB m who = q) (h : Smy w v0 v1 v2 v3 v4 m) :
    Calls Tryz.prog 61 #[.agg #[v0, v1, v2, v3, v4, .int .i64 m.now], .int .i64 who] w fun e w' => e = .returned (.bool q) ∧ Below w.heap.size w w' := by
  subst hq
  obtain ⟨a0, p0, rfl, _, _⟩ := IsRooms.shape h.rooms
  obtain ⟨a1, p1, rfl, _, _⟩ := IsRec.shape h.guilds
  obtain ⟨a2, p2, rfl, hc2, hm2, r2⟩ := h.smiths
  obtain ⟨a3, p3, rfl, _, _⟩ := IsRec.shape h.desks
  obtain ⟨a4, p4, rfl, _, _⟩ := IsRec.shape h.paces
  clear h
  have Ba : Hid (Below w.heap.size w (w.alloc (.cells #[.slice a0 m.rooms.length p0, .slice a1 m.guilds.length p1, .slice a2 m.smiths.length p2, .slice a3 m.desks.length p3, .slice a4 m.paces.length p4, .int .i64 m.now] 32))) := hide ((Below.refl _ _).alloc (Nat.le_refl _) _)
  cases hi : inB who 0 ((m.smiths.length : Int) - 1)
  · have hw : whoB m who = false := by unfold whoB; rw [hi]; rfl
    have Hi := hide hi
    rw [hw]
    clear hi hw r2
    go_enter Tryz.func61, Tryz.ntmps61
    go_wp2_with (go_at_call 56; refine (l1In_any _ _ _ _).mono ?_; rw [unhide Hi]; rintro e w' ⟨rfl, h9⟩; subst w')
    go_ret
    exact ⟨rfl, unhide Ba⟩
  · obtain ⟨i0, i1⟩ := inB_of hi
    obtain ⟨k, rfl⟩ : ∃ k : Nat, who = k := ⟨who.toNat, by omega⟩
    have hk : k < m.smiths.length := by omega
    have hw : whoB m (k : Int) = !((recAt m.smiths k).1 == 0) := by unfold whoB; rw [hi]; simp
    rcases r2 with e0 | ⟨sb, off, rfl, hbw, hcl⟩
    · rw [e0] at hk; simp at hk
    obtain ⟨d0, _⟩ := smith_cells hcl hk
    have Hi := hide hi
    rw [hw]
    clear hi hw hcl
    have hk1 : (k : Int) < (m.smiths.length : Int) := by omega
    generalize (recAt m.smiths k).1 = st at *
    go_enter Tryz.func61, Tryz.ntmps61
    go_wp2_with (go_at_call 56; refine (l1In_any _ _ _ _).mono ?_; rw [unhide Hi]; rintro e w' ⟨rfl, h9⟩; subst w')
    go_ret
    exact ⟨rfl, unhide Ba⟩

end Go.Proofs.YthbbahagpmdooaaGreatDoor

/- Contracts of FirstIn, the program's and the model's: each returns what the lists say and writes into no memory that was there. Condition: the slices can be read. -/
namespace Go.Proofs.YthbbahagpmdooaaGreatDoor
open Go.ChangeShapes Go.WideShapes Go.ChangeAt Go.RowKit Go.Sort
set_option linter.unusedVariables false

theorem firstV_no {ps : List PaceV} (h : (queueB ps && decide (0 < ps.length)) = false) : firstV ps = ((0, 0), false) := by unfold firstV; rw [h]; rfl
theorem firstV_yes {ps : List PaceV} (h : queueB ps = true) (hl : 0 < ps.length) : firstV ps = (paceAt ps 0, true) := by unfold firstV; rw [h, decide_eq_true hl]; rfl

set_option maxHeartbeats 1000000 in
theorem implFirstIn_any {w : World} {v : Value} {ps : List PaceV} (h : IsPaces w v ps) :
    Calls Tryz.prog 215 #[v] w fun e w' => e = .returned (.tuple #[.agg #[.int .i64 (firstV ps).1.1, .int .i64 (firstV ps).1.2], .bool (firstV ps).2]) ∧ Below w.heap.size w w' := by
  have Hv := hide h
  obtain ⟨a, cap, rfl, hc, hm, hr⟩ := h
  cases hq : queueB ps
  · rw [firstV_no (by rw [hq]; rfl)]
    clear hr
    go_enter Tryz.func215, Tryz.ntmps215
    go_wp2_with fail
    refine (implQueueOk_any ((unhide Hv).below ((Below.refl _ _).alloc (Nat.le_refl _) _))).mono ?_
    rw [hq]
    rintro e w1 ⟨rfl, hb⟩
    have Hb := hide hb
    have hsz := hb.size
    simp at hsz
    obtain ⟨k1, k2⟩ := bcell hb
    clear hb
    go_wp2_with fail
    exact bodyPost_ret (v := .tuple #[.agg #[.int .i64 0, .int .i64 0], .bool false]) (by simp [results, Tryz.results215, go_sem, k1]) rfl ⟨rfl, ((((Below.refl _ _).alloc (Nat.le_refl _) _).trans ((unhide Hb).mono (by simp))).setCell (by simp) _).setCell (by simp) _⟩
  · rcases hr with hr | ⟨b, off, rfl, hbw, hcl⟩
    · subst hr
      rw [firstV_no (by simp)]
      go_enter Tryz.func215, Tryz.ntmps215
      go_wp2_with fail
      refine (implQueueOk_any ((unhide Hv).below ((Below.refl _ _).alloc (Nat.le_refl _) _))).mono ?_
      rw [hq]
      rintro e w1 ⟨rfl, hb⟩
      have Hb := hide hb
      have hsz := hb.size
      simp at hsz
      obtain ⟨k1, k2⟩ := bcell hb
      clear hb
      go_wp2_with fail
      exact bodyPost_ret (v := .tuple #[.agg #[.int .i64 0, .int .i64 0], .bool false]) (by simp [results, Tryz.results215, go_sem, k1]) rfl ⟨rfl, ((((Below.refl _ _).alloc (Nat.le_refl _) _).trans ((unhide Hb).mono (by simp))).setCell (by simp) _).setCell (by simp) _⟩
    · by_cases hl : 0 < ps.length
      · rw [firstV_yes hq hl]
        obtain ⟨c0, c1⟩ := hcl 0 hl
        simp only [Nat.zero_mul, Nat.add_zero] at c0 c1
        generalize paceAt ps 0 = p at *
        obtain ⟨f, z⟩ := p
        simp only at c0 c1
        have hl2 : (ps.length == 0) = false := beq_eq_false_iff_ne.2 (by omega)
        have hl3 : ((ps.length : Int) == 0) = false := beq_eq_false_iff_ne.2 (by omega)
        have hne : b ≠ w.heap.size := Nat.ne_of_lt hbw
        clear hcl
        go_enter Tryz.func215, Tryz.ntmps215
        go_wp2_with fail
        refine (implQueueOk_any ((unhide Hv).below ((Below.refl _ _).alloc (Nat.le_refl _) _))).mono ?_
        rw [hq]
        rintro e w1 ⟨rfl, hb⟩
        have Hb := hide hb
        have hsz := hb.size
        simp at hsz
        have c0' := (hb.cell (p := ⟨b, off, none⟩) (by simp; omega)).trans ((World.cell?_alloc_old _ _ _ hne).trans c0)
        have c1' := (hb.cell (p := ⟨b, off + 1, none⟩) (by simp; omega)).trans ((World.cell?_alloc_old _ _ _ hne).trans c1)
        obtain ⟨k1, k2⟩ := bcell hb
        clear hb c0 c1
        go_wp2_with fail
        exact bodyPost_ret (v := .tuple #[.agg #[.int .i64 f, .int .i64 z], .bool true]) (by simp [results, Tryz.results215, go_sem, k1]) rfl ⟨rfl, ((((Below.refl _ _).alloc (Nat.le_refl _) _).trans ((unhide Hb).mono (by simp))).setCell (by simp) _).setCell (by simp) _⟩
      · obtain rfl : ps = [] := List.eq_nil_of_length_eq_zero (by omega)
        rw [firstV_no (by simp)]
        clear hcl
        go_enter Tryz.func215, Tryz.ntmps215
        go_wp2_with fail
        refine (implQueueOk_any ((unhide Hv).below ((Below.refl _ _).alloc (Nat.le_refl _) _))).mono ?_
        rw [hq]
        rintro e w1 ⟨rfl, hb⟩
        have Hb := hide hb
        have hsz := hb.size
        simp at hsz
        obtain ⟨k1, k2⟩ := bcell hb
        clear hb
        go_wp2_with fail
        exact bodyPost_ret (v := .tuple #[.agg #[.int .i64 0, .int .i64 0], .bool false]) (by simp [results, Tryz.results215, go_sem, k1]) rfl ⟨rfl, ((((Below.refl _ _).alloc (Nat.le_refl _) _).trans ((unhide Hb).mono (by simp))).setCell (by simp) _).setCell (by simp) _⟩

end Go.Proofs.YthbbahagpmdooaaGreatDoor

