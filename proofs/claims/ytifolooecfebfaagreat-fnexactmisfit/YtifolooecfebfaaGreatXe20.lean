/- What the proof rests on, part 20: lists and numbers, how they lie in memory, and contracts of the calls. No condition but those that a theorem names. -/
import Derived.Test.YtifolooecfebfaaGreatXe01
import Derived.Test.YtifolooecfebfaaGreatXe02
import Derived.Test.YtifolooecfebfaaGreatXe03
import Derived.Test.YtifolooecfebfaaGreatXe04
import Derived.Test.YtifolooecfebfaaGreatXe05
import Derived.Test.YtifolooecfebfaaGreatXe06
import Derived.Test.YtifolooecfebfaaGreatXe07
import Derived.Test.YtifolooecfebfaaGreatXe08
import Derived.Test.YtifolooecfebfaaGreatXe09
import Derived.Test.YtifolooecfebfaaGreatXe10
import Derived.Test.YtifolooecfebfaaGreatXe12
import Derived.Test.YtifolooecfebfaaGreatXe13
import Derived.Test.YtifolooecfebfaaGreatXe14
import Derived.Test.YtifolooecfebfaaGreatXe16
import Derived.Test.YtifolooecfebfaaGreatXe17
import Derived.Deep.DeepCutAuto
import Derived.WalkMore
import Derived.Below
import Derived.ChangeKeysEq
import Derived.Laws.StructEq
import GoSem.Claim
import GoSem.ClaimJoined
import GoSem.ClaimMapViews
import Derived.JoinedTies
import Derived.KernelRfl
import Derived.RowKit
import Derived.WalkKit
import Derived.ProofKit
import Derived.OpenShut
import Derived.Outline
import Derived.Lib.QuietBelow
import Derived.Deep.RegionHeld3
import Derived.Deep.DrawnRows
import Derived.BigRegion
import Derived.Deep.RegionLawGrows
import Derived.Deep.RegionWith
import Derived.Deep.QuietTactic
import Derived.BigQuiet
import Derived.Laws.OwnMore
import Derived.OwnWalk
import Derived.Maps.AppendAt
import Derived.Lib.SmallJoins
import Derived.Deep.Fields
import Derived.Deep.Slices
import Derived.OrdersHeld
import Derived.Deep.RegionHeldLaw
/- Whose turn it is: the model's l12Turn, in a smithy that the call made. Conditions: those that each theorem names. -/
namespace Go.Proofs.YtifolooecfebfaaGreat
open Go.ChangeShapes Go.WideShapes Go.ChangeAt Go.RowKit Go.Sort
set_option linter.unusedVariables false
set_option linter.unusedSimpArgs false

theorem Two.ents {p q : Option Nat} {w w' : World} {B : Nat} {v : Value} {ps : List PaceV} (h : EntsAt B w v ps) (ht : Two p q w w') (hp : ∀ k, p = some k → k < B) (hq : ∀ k, q = some k → k < B) : EntsAt B w' v ps :=
  EntsAt.same h fun k e => ht.block k (h.lt e).2 (fun e' => by have := hp k e'; have := (h.lt e).1; omega) (fun e' => by have := hq k e'; have := (h.lt e).1; omega)
theorem Two.cell {p q : Option Nat} {w w' : World} (h : Two p q w w') {a : Addr} (ha : a.block < w.heap.size) (hp : p ≠ some a.block) (hq : q ≠ some a.block) : w'.cell? a = w.cell? a := World.cell?_of_block (w := w) (h.block a.block ha hp hq)
theorem take_one {q : List PaceV} {j : Nat} (hj : j < q.length) : q.take (j + 1) = q.take j ++ [paceAt q j] := by
  rw [List.take_succ_eq_append_getElem hj]; unfold paceAt; simp [List.getD, hj]

theorem turnB_nil {m : SmyV} {b : Nat} (h : atV m.smiths b m.smiths.length = []) : turnB m b = { m with desks := m.desks.set b ((recAt m.desks b).1, -1, (recAt m.desks b).2.2) } := by
  unfold turnB; rw [h]
theorem turnB_cons {m : SmyV} {b : Nat} {e : PaceV} {t : List PaceV} (h : atV m.smiths b m.smiths.length = e :: t) : turnB m b = { m with smiths := (waitAll m.smiths (e :: t)).set e.2.toNat (stS (recAt (waitAll m.smiths (e :: t)) e.2.toNat) 3), desks := m.desks.set b ((recAt m.desks b).1, e.2, markedV (recAt m.desks b).2.2 e.1) } := by
  unfold turnB; rw [h]

set_option maxRecDepth 100000 in
set_option maxHeartbeats 16000000 in
theorem l12Turn_any {w : World} {R n₀ : Nat} {v0 v1 v2 v3 v4 : Value} {m : SmyV} {qs : List (RoomV × Value)} (kb : Blk w R 32 #[v0, v1, v2, v3, v4, .int .i64 m.now]) (hf : FullSmy n₀ w v0 v1 v2 v3 v4 m qs) (h2 : v2.ownBlock ≠ some R) (h3 : v3.ownBlock ≠ some R) (hl : m.smiths.length ≤ 800) (hd : m.desks.length ≤ 1000) :
    Calls Tryz.prog 47 #[.pointer (some ⟨R, 0, none⟩)] w fun e w' => e = .returned (.tuple #[]) ∧ FullSmy n₀ w' v0 v1 v2 v3 v4 (turnV m) qs ∧ Two v2.ownBlock v3.ownBlock w w' := by
  obtain ⟨a2, p2, rfl⟩ := RecAt.shape hf.smiths
  obtain ⟨a3, p3, rfl⟩ := RecAt.shape hf.desks
  by_cases hnd : m.desks.length = 0
  · have hz : turnV m = m := by unfold turnV; rw [hnd]; rfl
    have c3 := kb.cell (i := 3) (v := .slice a3 m.desks.length p3) rfl
    have HF := hide hf
    rw [hz]
    have hz0 : ¬ (0 : Int) < (m.desks.length : Int) := by omega
    clear hz hf kb hnd
    go_enter Tryz.func47, Tryz.ntmps47
    go_wp2_with fail
    go_loopw [2] (fun i wr => i = .int .i64 0 ∧ wr = w) (fun i _ => 0)
    case atStart => exact ⟨rfl, rfl⟩
    case round =>
      obtain ⟨rfl, hwr⟩ := hrel
      subst hwr
      go_wp2_with fail
      go_end0
      exact ⟨rfl, unhide HF, Two.refl _ _ _⟩
  obtain ⟨g3, rfl, hg3, hg3w, _, _⟩ := RecAt.view encDesk_len (by omega) hf.desks rfl (by omega)
  have Kb := hide kb
  have H2 := hide h2
  have H3 : Hid (g3 ≠ R) := hide (fun e => h3 (by rw [e]; rfl))
  have HF := hide hf
  have L2 : Hid (∀ i, (Value.slice a2 m.smiths.length p2).ownBlock = some i → i < w.heap.size) := hide (fun i e => (RecAt.lt hf.smiths e).2)
  clear kb h2 h3 hf
  go_enter Tryz.func47, Tryz.ntmps47
  go_wp2_with fail
  go_loopw [2] (fun i wr => ∃ k : Nat, k ≤ m.desks.length ∧ i = .int .i64 k ∧ FullSmy n₀ wr v0 v1 (.slice a2 m.smiths.length p2) (.slice (some ⟨g3, 0, none⟩) m.desks.length p3) v4 (turnK m k) qs ∧ Two (Value.slice a2 m.smiths.length p2).ownBlock (some g3) w wr) (fun i _ => m.desks.length - (intOf i).toNat)
  case atStart => exact ⟨0, Nat.zero_le _, rfl, unhide HF, Two.refl _ _ _⟩
  case round =>
    obtain ⟨k, hk, rfl, hf1, htw⟩ := hrel
    obtain ⟨e1, e2, e3, e4, e5, e6⟩ := turnK_same m k
    have Tw := hide htw
    have hgw : g3 < wr.heap.size := Nat.lt_of_lt_of_le hg3w htw.size
    have hszr := htw.size
    have hkb1 := (unhide Kb).two htw (unhide H2) (fun e => unhide H3 (by cases e; rfl))
    have K1 := hide hkb1
    clear htw hkb1
    by_cases hlt : k < m.desks.length
    rotate_left
    · obtain rfl : k = m.desks.length := by omega
      have c3 := (unhide K1).cell (i := 3) (v := .slice (some ⟨g3, 0, none⟩) m.desks.length p3) rfl
      have hno : ¬ ((m.desks.length : Nat) : Int) < (m.desks.length : Int) := by omega
      have HF1 := hide hf1
      clear hf1
      go_wp2_with fail
      go_end0
      exact ⟨rfl, unhide HF1, unhide Tw⟩
    have hstep : turnK m (k + 1) = turnB (turnK m k) k := rfl
    generalize turnK m k = m1 at *
    have Hstep := hide hstep
    clear hstep
    have c0 := (unhide K1).cell (i := 0) (v := v0) rfl
    have c1 := (unhide K1).cell (i := 1) (v := v1) rfl
    have c2 := (unhide K1).cell (i := 2) (v := .slice a2 m.smiths.length p2) rfl
    have c3 := (unhide K1).cell (i := 3) (v := .slice (some ⟨g3, 0, none⟩) m.desks.length p3) rfl
    have c4 := (unhide K1).cell (i := 4) (v := v4) rfl
    have c5 := (unhide K1).cell (i := 5) (v := .int .i64 m.now) rfl
    have hat := l11At_any (k : Int) hf1.smy (by rw [e5]; exact hl)
    rw [e4, e5] at hat
    have Hat := hide hat
    have HF1 := hide hf1
    clear hat hf1
    go_wp2_with fail
    refine (unhide Hat).mono ?_
    rintro e w1 ⟨v', rfl, he, hb⟩
    clear c0 c1 c2 c3 c4 c5 Hat
    have hmem := atV_mem m1.smiths (k : Int)
    have hlq := atV_len m1.smiths (k : Int) m.smiths.length
    have HN : Hid (atV m1.smiths (k : Int) m.smiths.length = [] → turnB m1 k = { m1 with desks := m1.desks.set k ((recAt m1.desks k).1, -1, (recAt m1.desks k).2.2) }) := hide (fun h => turnB_nil (by rw [e5]; exact h))
    have HC : Hid (∀ e t, atV m1.smiths (k : Int) m.smiths.length = e :: t → turnB m1 k = { m1 with smiths := (waitAll m1.smiths (e :: t)).set e.2.toNat (stS (recAt (waitAll m1.smiths (e :: t)) e.2.toNat) 3), desks := m1.desks.set k ((recAt m1.desks k).1, e.2, markedV (recAt m1.desks k).2.2 e.1) }) := hide (fun e t h => turnB_cons (by rw [e5]; exact h))
    have hmq : ∀ x ∈ atV m1.smiths (k : Int) m.smiths.length, ∃ j : Nat, j < m.smiths.length ∧ x.2 = (j : Int) := fun x hx => by
      obtain ⟨j, hj, _, _, rfl⟩ := (hmem x m.smiths.length).1 hx
      exact ⟨j, hj, rfl⟩
    have Hm := hide hmq
    clear hmem hmq
    generalize atV m1.smiths (k : Int) m.smiths.length = q at *
    obtain ⟨qa, qc, rfl⟩ := EntsAt.shape he
    have HE := hide he
    replace HF1 := hide ((unhide HF1).below hb)
    replace K1 := hide ((unhide K1).below hb (unhide K1).lt)
    replace Tw := hide ((unhide Tw).trans (Two.of_below hb))
    have hgw1 : g3 < w1.heap.size := Nat.lt_of_lt_of_le hgw hb.size
    have hwr1 := hb.size
    clear he hb
    obtain ⟨⟨o, wh, mk⟩, hrk⟩ : ∃ d, recAt m1.desks k = d := ⟨_, rfl⟩
    rw [hrk] at HN HC
    simp only at HN HC
    have Hrk := hide hrk
    have hkd : k < m1.desks.length := by omega
    have hset : ∀ d, recAt (m1.desks.set k d) k = d := fun d => by rw [recAt_set hkd, if_pos rfl]
    have Hset := hide hset
    clear hset
    -- Who = -1
    obtain ⟨_, hga, _, _, hc3, hz3⟩ := RecAt.view encDesk_len (by omega) (unhide HF1).desks e6.symm (by omega)
    cases hga
    have d1 := hc3 k (by omega) 1 _ rfl
    rw [hrk] at d1
    have f1 := hz3 (k * 3 + 1)
    have c3 := (unhide K1).cell (i := 3) (v := .slice (some ⟨g3, 0, none⟩) m.desks.length p3) rfl
    have hput := (unhide HF1).putD e6.symm (j := k) (i := 1) (by omega) (by omega) (.int .i64 (-1)) (o, -1, mk) (by rw [hrk]; rfl)
    have HF2 := hide hput
    have hns : Two (Value.slice a2 m.smiths.length p2).ownBlock (some g3) w1 (w1.setCell ⟨g3, k * 3 + 1, none⟩ (.int .i64 (-1))) := Two.of_set w1 (.inr rfl) _ _
    have K2 := hide ((unhide K1).two hns (unhide H2) (fun e => unhide H3 (by cases e; rfl)))
    have Tw2 := hide ((unhide Tw).trans hns)
    have hlow2 : ∀ i, (Value.slice a2 m.smiths.length p2).ownBlock = some i → i < wr.heap.size := fun i e => Nat.lt_of_lt_of_le (unhide L2 i e) hszr
    have Low2 := hide hlow2
    have HE2 := hide (Two.ents (unhide HE) hns hlow2 (fun i e => by cases e; exact hgw))
    clear hput hns hlow2 hc3 hz3 hrk
    go_upto_region 5 with fail
    clear d1 f1 c3 K1 Tw HE HF1
    generalize w1.setCell ⟨g3, k * 3 + 1, none⟩ (.int .i64 (-1)) = X at *
    have hsm : ∀ i, i ∈ [0] → True := fun _ _ => trivial
    clear hsm
    go_wp2_with fail
    go_loopw [4] (fun i wi => ∃ j : Nat, j ≤ q.length ∧ i = .int .i64 j ∧ FullSmy n₀ wi v0 v1 (.slice a2 m.smiths.length p2) (.slice (some ⟨g3, 0, none⟩) m.desks.length p3) v4 { m1 with smiths := waitAll m1.smiths (q.take j), desks := m1.desks.set k (o, -1, mk) } qs ∧ Two (Value.slice a2 m.smiths.length p2).ownBlock (some g3) X wi) (fun i _ => q.length - (intOf i).toNat)
    case atStart => exact ⟨0, Nat.zero_le _, rfl, by simpa [waitAll] using unhide HF2, Two.refl _ _ _⟩
    case round =>
      obtain ⟨wi, rfl⟩ : ∃ x, x = wr := ⟨wr, rfl⟩
      obtain ⟨j, hj, rfl, hf3, htw3⟩ := hrel
      have HF3 := hide hf3
      have Tw3 := hide htw3
      have K3 := hide ((unhide K2).two htw3 (unhide H2) (fun e => unhide H3 (by cases e; rfl)))
      have HE3 := hide (Two.ents (unhide HE2) htw3 (unhide Low2) (fun i e => by cases e; exact hgw))
      clear hf3 htw3
      by_cases hjl : j < q.length
      · obtain ⟨_, _, hqe, _, _, hr⟩ := EntsAt.paces (unhide HE3)
        cases hqe
        rcases hr with e0 | ⟨eb, eo, rfl, hbw, hcl⟩
        · rw [e0] at hjl; simp at hjl
        obtain ⟨c0, c1⟩ := hcl j hjl
        obtain ⟨i0, hi0, hie⟩ := unhide Hm _ (paceAt_mem hjl)
        rw [hie] at c1
        have Htk : Hid (waitAll m1.smiths (q.take (j + 1)) = (waitAll m1.smiths (q.take j)).set i0 (stS (recAt (waitAll m1.smiths (q.take j)) i0) 2)) := hide (by rw [take_one hjl, waitAll_snoc, hie]; simp)
        have hwl : (waitAll m1.smiths (q.take j)).length = m.smiths.length := by rw [waitAll_len, e5]
        obtain ⟨g2, rfl, hg2, hg2w, hc2, hz2⟩ := RecAt.view encSmith_len (by omega) (unhide HF3).smiths hwl.symm (by show 0 < (waitAll m1.smiths (q.take j)).length; omega)
        have s0 := hc2 i0 (by show i0 < (waitAll m1.smiths (q.take j)).length; omega) 0 _ rfl
        have f0 := hz2 (i0 * 11)
        have hput := (unhide HF3).putS hwl.symm (j := i0) (i := 0) (by show i0 < (waitAll m1.smiths (q.take j)).length; omega) (by omega) (.int .i64 2) (stS (recAt (waitAll m1.smiths (q.take j)) i0) 2) rfl
        simp only [Nat.add_zero] at s0 hput
        have HF4 := hide hput
        have c2 := (unhide K3).cell (i := 2) (v := .slice (some ⟨g2, 0, none⟩) m.smiths.length p2) rfl
        clear hcl hc2 hz2 hput hie c0 hwl
        have hi1 : (i0 : Int) < (m.smiths.length : Int) := by omega
        go_wp2_with fail
        refine wp_region_last (S := fun w' => w'.cell? ⟨R, 2, none⟩ = some (.slice (some ⟨g2, 0, none⟩) m.smiths.length p2) ∧ w'.cell? ⟨eb, eo + j * 2 + 1, none⟩ = some (.int .i64 (i0 : Int))) (by kernel_rfl) (List.cons_ne_nil _ _) (by kernel_rfl) ⟨c2, c1⟩ (fun hHeld => ?_)
        simp only [List.dropLast_cons_cons, List.dropLast_singleton, List.length_cons, List.length_nil, Nat.zero_add, Nat.reduceAdd]
        (refine wpAnyH_take (i := 0) (v := ?_) rfl (by kernel_rfl) (by kernel_rfl) (by kernel_rfl) (fun _ _ _ h => h) (Or.inl ⟨by rfl, ?_⟩) (by assumption) ?_; rotate_left; (intro W9 hSw; (try dsimp only at hSw); go_simp; (try with_reducible rfl)); (try simp only [Act.put, List.setIfInBounds_toArray, List.set_cons_zero, List.set_cons_succ]))
        (refine wpAnyH_take (i := 1) (v := ?_) rfl (by kernel_rfl) (by kernel_rfl) (by kernel_rfl) (fun _ _ _ h => h) (Or.inl ⟨by rfl, ?_⟩) (by assumption) ?_; rotate_left; (intro W9 hSw; (try dsimp only at hSw); go_simp; (try with_reducible rfl)); (try simp only [Act.put, List.setIfInBounds_toArray, List.set_cons_zero, List.set_cons_succ]))
        (refine wpAnyH_take (i := 2) (v := ?_) rfl (by kernel_rfl) (by kernel_rfl) (by kernel_rfl) (fun _ _ _ h => h) (Or.inl ⟨by rfl, ?_⟩) (by assumption) ?_; rotate_left; (intro W9 hSw; (try dsimp only at hSw); go_simp; (try with_reducible rfl)); (try simp only [Act.put, List.setIfInBounds_toArray, List.set_cons_zero, List.set_cons_succ]))
        (refine wpAnyH_take (i := 3) (v := ?_) rfl (by kernel_rfl) (by kernel_rfl) (by kernel_rfl) (fun _ _ _ h => h) (Or.inl ⟨by rfl, ?_⟩) (by assumption) ?_; rotate_left; (intro W9 hSw; (try dsimp only at hSw); go_simp; (try with_reducible rfl)); (try simp only [Act.put, List.setIfInBounds_toArray, List.set_cons_zero, List.set_cons_succ]))
        (refine wpAnyH_take (i := 4) (v := ?_) rfl (by kernel_rfl) (by kernel_rfl) (by kernel_rfl) (fun _ _ _ h => h) (Or.inl ⟨by rfl, ?_⟩) (by assumption) ?_; rotate_left; (intro W9 hSw; (try dsimp only at hSw); go_simp; (try with_reducible rfl)); (try simp only [Act.put, List.setIfInBounds_toArray, List.set_cons_zero, List.set_cons_succ]))
        (refine wpAnyH_take (i := 5) (v := ?_) rfl (by kernel_rfl) (by kernel_rfl) (by kernel_rfl) (fun _ _ _ h => h) (Or.inl ⟨by rfl, ?_⟩) (by assumption) ?_; rotate_left; (intro W9 hSw; (try dsimp only at hSw); go_simp; (try with_reducible rfl)); (try simp only [Act.put, List.setIfInBounds_toArray, List.set_cons_zero, List.set_cons_succ]))
        (refine wpAnyH_take (i := 6) (v := ?_) rfl (by kernel_rfl) (by kernel_rfl) (by kernel_rfl) (fun _ _ _ h => h) (Or.inl ⟨by rfl, ?_⟩) (by assumption) ?_; rotate_left; (intro W9 hSw; (try dsimp only at hSw); go_simp; (try with_reducible rfl)); (try simp only [Act.put, List.setIfInBounds_toArray, List.set_cons_zero, List.set_cons_succ]))
        (refine wpAnyH_take (i := 7) (v := ?_) rfl (by kernel_rfl) (by kernel_rfl) (by kernel_rfl) (fun _ _ _ h => h) (Or.inl ⟨by rfl, ?_⟩) (by assumption) ?_; rotate_left; (intro W9 hSw; (try dsimp only at hSw); go_simp; (try with_reducible rfl)); (try simp only [Act.put, List.setIfInBounds_toArray, List.set_cons_zero, List.set_cons_succ]))
        (refine wpAnyH_take (i := 8) (v := ?_) rfl (by kernel_rfl) (by kernel_rfl) (by kernel_rfl) (fun _ _ _ h => h) (Or.inl ⟨by rfl, ?_⟩) (by assumption) ?_; rotate_left; (intro W9 hSw; (try dsimp only at hSw); go_simp; (try with_reducible rfl)); (try simp only [Act.put, List.setIfInBounds_toArray, List.set_cons_zero, List.set_cons_succ]))
        (refine wpAnyH_take (i := 9) (v := ?_) rfl (by kernel_rfl) (by kernel_rfl) (by kernel_rfl) (fun _ _ _ h => h) (Or.inl ⟨by rfl, ?_⟩) (by assumption) ?_; rotate_left; (intro W9 hSw; (try dsimp only at hSw); go_simp; (try with_reducible rfl)); (try simp only [Act.put, List.setIfInBounds_toArray, List.set_cons_zero, List.set_cons_succ]))
        (refine wpAnyH_take (i := 10) (v := ?_) rfl (by kernel_rfl) (by kernel_rfl) (by kernel_rfl) (fun _ _ _ h => h) (Or.inl ⟨by rfl, ?_⟩) (by assumption) ?_; rotate_left; (intro W9 hSw; (try dsimp only at hSw); go_simp; (try with_reducible rfl)); (try simp only [Act.put, List.setIfInBounds_toArray, List.set_cons_zero, List.set_cons_succ]))
        refine wpAnyH_done (by kernel_rfl) ?_ _
        refine tailQ_run rfl rfl ?_
        go_simp
        clear hHeld
        go_wp2_with fail
        go_roundw
        case rel => exact ⟨j + 1, by omega, by go_num, by rw [unhide Htk]; exact (unhide HF4).below (Below.refl _ _).drew, ((unhide Tw3).trans (Two.of_set _ (.inl rfl) _ _)).trans (Two.of_below (Below.refl _ _).drew)⟩
        case measure => simp [intOf]; omega
      · obtain rfl : j = q.length := by omega
        rw [List.take_length] at HF3
        cases q with
        | nil =>
          clear HC
          go_wp2_with fail
          go_roundw
          case rel => exact ⟨k + 1, by omega, by go_num, by rw [unhide Hstep, unhide HN rfl]; exact unhide HF3, (unhide Tw2).trans (unhide Tw3)⟩
          case measure => simp [intOf]; omega
        | cons e t =>
          obtain ⟨_, _, hqe, _, _, hr⟩ := EntsAt.paces (unhide HE3)
          cases hqe
          rcases hr with e0 | ⟨eb, eo, rfl, hbw, hcl⟩
          · cases e0
          obtain ⟨c0, c1⟩ := hcl 0 (by simp)
          obtain ⟨i0, hi0, hie⟩ := unhide Hm e (by simp)
          have hp0 : paceAt (e :: t) 0 = e := rfl
          rw [hp0] at c0 c1
          rw [hie] at c1
          simp only [Nat.zero_mul, Nat.add_zero] at c0 c1
          have hcons := unhide HC e t rfl
          rw [hie] at hcons
          simp only [show ((i0 : Int)).toNat = i0 by simp] at hcons
          have Hcons := hide hcons
          obtain ⟨hd0, hhd⟩ : ∃ x, e.1 = x := ⟨_, rfl⟩
          rw [hhd] at c0 Hcons
          clear hcons hhd hie hp0 hcl HN HC
          have hwl : (waitAll m1.smiths (e :: t)).length = m.smiths.length := by rw [waitAll_len, e5]
          obtain ⟨g2, rfl, hg2, hg2w, _, _⟩ := RecAt.view encSmith_len (by omega) (unhide HF3).smiths hwl.symm (by show 0 < (waitAll m1.smiths (e :: t)).length; omega)
          have hD1 : (m1.desks.set k (o, -1, mk)).length = m.desks.length := by simp [e6]
          have hD2 : ∀ d, (m1.desks.set k d).length = m.desks.length := fun d => by simp [e6]
          have heb := (EntsAt.lt (unhide HE3) (k := eb) rfl).1
          have hg2r := unhide Low2 g2 rfl
          have hlen : (e :: t).length = t.length + 1 := rfl
          have hlpos : (0 : Int) < ((t.length + 1 : Nat) : Int) := by omega
          rw [hlen] at *
          obtain ⟨_, hga, _, _, hcd, hzd⟩ := RecAt.view encDesk_len (by omega) (unhide HF3).desks hD1.symm (by show 0 < (m1.desks.set k (o, -1, mk)).length; omega)
          cases hga
          have d1 := hcd k (by show k < (m1.desks.set k (o, -1, mk)).length; omega) 1 _ rfl
          have f1 := hzd (k * 3 + 1)
          have c3 := (unhide K3).cell (i := 3) (v := .slice (some ⟨g3, 0, none⟩) m.desks.length p3) rfl
          have hne2 : (Value.slice (some ⟨g2, 0, none⟩) m.smiths.length p2).ownBlock ≠ some eb := fun e9 => by have e8 : g2 = eb := Option.some.inj e9; omega
          have hne3 : (some g3 : Option Nat) ≠ some eb := fun e9 => by have e8 : g3 = eb := Option.some.inj e9; omega
          have hput1 := (unhide HF3).putD hD1.symm (j := k) (i := 1) (by show k < (m1.desks.set k (o, -1, mk)).length; omega) (by omega) (.int .i64 (i0 : Int)) (o, (i0 : Int), mk) (by show encDesk (o, (i0 : Int), mk) = (encDesk (recAt (m1.desks.set k (o, -1, mk)) k)).set 1 _; rw [unhide Hset]; rfl)
          simp only [List.set_set] at hput1
          have HF4 : Hid (FullSmy n₀ (wi.setCell ⟨g3, k * 3 + 1, none⟩ (.int .i64 (i0 : Int))).drew v0 v1 (.slice (some ⟨g2, 0, none⟩) m.smiths.length p2) (.slice (some ⟨g3, 0, none⟩) m.desks.length p3) v4 { m1 with smiths := waitAll m1.smiths (e :: t), desks := m1.desks.set k (o, (i0 : Int), mk) } qs) := hide (hput1.below (Below.refl _ _).drew)
          have T4 : Two (Value.slice (some ⟨g2, 0, none⟩) m.smiths.length p2).ownBlock (some g3) wi (wi.setCell ⟨g3, k * 3 + 1, none⟩ (.int .i64 (i0 : Int))).drew := (Two.of_set wi (.inr rfl) _ _).trans (Two.of_below (Below.refl _ _).drew)
          have K4 := hide ((unhide K3).two T4 (unhide H2) (fun e9 => unhide H3 (by cases e9; rfl)))
          have x0 := (T4.cell (a := ⟨eb, eo, none⟩) hbw hne2 hne3).trans c0
          have x1 := (T4.cell (a := ⟨eb, eo + 1, none⟩) hbw hne2 hne3).trans c1
          have hbw4 : eb < ((wi.setCell ⟨g3, k * 3 + 1, none⟩ (.int .i64 (i0 : Int))).drew).heap.size := Nat.lt_of_lt_of_le hbw T4.size
          replace Tw3 := hide ((unhide Tw3).trans T4)
          clear hput1 T4 hcd hzd HE3 HF3
          go_wp2_with fail
          refine wp_region_last (S := fun w' => w'.cell? ⟨R, 3, none⟩ = some (.slice (some ⟨g3, 0, none⟩) m.desks.length p3) ∧ w'.cell? ⟨eb, eo + 1, none⟩ = some (.int .i64 (i0 : Int))) (by kernel_rfl) (List.cons_ne_nil _ _) (by kernel_rfl) ⟨c3, c1⟩ (fun hHeld => ?_)
          simp only [List.dropLast_cons_cons, List.dropLast_singleton, List.length_cons, List.length_nil, Nat.zero_add, Nat.reduceAdd]
          (refine wpAnyH_take (i := 0) (v := ?_) rfl (by kernel_rfl) (by kernel_rfl) (by kernel_rfl) (fun _ _ _ h => h) (Or.inl ⟨by rfl, ?_⟩) (by assumption) ?_; rotate_left; (intro W9 hSw; (try dsimp only at hSw); go_simp; (try with_reducible rfl)); (try simp only [Act.put, List.setIfInBounds_toArray, List.set_cons_zero, List.set_cons_succ]))
          (refine wpAnyH_take (i := 1) (v := ?_) rfl (by kernel_rfl) (by kernel_rfl) (by kernel_rfl) (fun _ _ _ h => h) (Or.inl ⟨by rfl, ?_⟩) (by assumption) ?_; rotate_left; (intro W9 hSw; (try dsimp only at hSw); go_simp; (try with_reducible rfl)); (try simp only [Act.put, List.setIfInBounds_toArray, List.set_cons_zero, List.set_cons_succ]))
          (refine wpAnyH_take (i := 2) (v := ?_) rfl (by kernel_rfl) (by kernel_rfl) (by kernel_rfl) (fun _ _ _ h => h) (Or.inl ⟨by rfl, ?_⟩) (by assumption) ?_; rotate_left; (intro W9 hSw; (try dsimp only at hSw); go_simp; (try with_reducible rfl)); (try simp only [Act.put, List.setIfInBounds_toArray, List.set_cons_zero, List.set_cons_succ]))
          (refine wpAnyH_take (i := 3) (v := ?_) rfl (by kernel_rfl) (by kernel_rfl) (by kernel_rfl) (fun _ _ _ h => h) (Or.inl ⟨by rfl, ?_⟩) (by assumption) ?_; rotate_left; (intro W9 hSw; (try dsimp only at hSw); go_simp; (try with_reducible rfl)); (try simp only [Act.put, List.setIfInBounds_toArray, List.set_cons_zero, List.set_cons_succ]))
          (refine wpAnyH_take (i := 4) (v := ?_) rfl (by kernel_rfl) (by kernel_rfl) (by kernel_rfl) (fun _ _ _ h => h) (Or.inl ⟨by rfl, ?_⟩) (by assumption) ?_; rotate_left; (intro W9 hSw; (try dsimp only at hSw); go_simp; (try with_reducible rfl)); (try simp only [Act.put, List.setIfInBounds_toArray, List.set_cons_zero, List.set_cons_succ]))
          (refine wpAnyH_take (i := 5) (v := ?_) rfl (by kernel_rfl) (by kernel_rfl) (by kernel_rfl) (fun _ _ _ h => h) (Or.inl ⟨by rfl, ?_⟩) (by assumption) ?_; rotate_left; (intro W9 hSw; (try dsimp only at hSw); go_simp; (try with_reducible rfl)); (try simp only [Act.put, List.setIfInBounds_toArray, List.set_cons_zero, List.set_cons_succ]))
          (refine wpAnyH_take (i := 6) (v := ?_) rfl (by kernel_rfl) (by kernel_rfl) (by kernel_rfl) (fun _ _ _ h => h) (Or.inl ⟨by rfl, ?_⟩) (by assumption) ?_; rotate_left; (intro W9 hSw; (try dsimp only at hSw); go_simp; (try with_reducible rfl)); (try simp only [Act.put, List.setIfInBounds_toArray, List.set_cons_zero, List.set_cons_succ]))
          (refine wpAnyH_take (i := 7) (v := ?_) rfl (by kernel_rfl) (by kernel_rfl) (by kernel_rfl) (fun _ _ _ h => h) (Or.inl ⟨by rfl, ?_⟩) (by assumption) ?_; rotate_left; (intro W9 hSw; (try dsimp only at hSw); go_simp; (try with_reducible rfl)); (try simp only [Act.put, List.setIfInBounds_toArray, List.set_cons_zero, List.set_cons_succ]))
          (refine wpAnyH_take (i := 8) (v := ?_) rfl (by kernel_rfl) (by kernel_rfl) (by kernel_rfl) (fun _ _ _ h => h) (Or.inl ⟨by rfl, ?_⟩) (by assumption) ?_; rotate_left; (intro W9 hSw; (try dsimp only at hSw); go_simp; (try with_reducible rfl)); (try simp only [Act.put, List.setIfInBounds_toArray, List.set_cons_zero, List.set_cons_succ]))
          (refine wpAnyH_take (i := 9) (v := ?_) rfl (by kernel_rfl) (by kernel_rfl) (by kernel_rfl) (fun _ _ _ h => h) (Or.inl ⟨by rfl, ?_⟩) (by assumption) ?_; rotate_left; (intro W9 hSw; (try dsimp only at hSw); go_simp; (try with_reducible rfl)); (try simp only [Act.put, List.setIfInBounds_toArray, List.set_cons_zero, List.set_cons_succ]))
          (refine wpAnyH_take (i := 10) (v := ?_) rfl (by kernel_rfl) (by kernel_rfl) (by kernel_rfl) (fun _ _ _ h => h) (Or.inl ⟨by rfl, ?_⟩) (by assumption) ?_; rotate_left; (intro W9 hSw; (try dsimp only at hSw); go_simp; (try with_reducible rfl)); (try simp only [Act.put, List.setIfInBounds_toArray, List.set_cons_zero, List.set_cons_succ]))
          refine wpAnyH_done (by kernel_rfl) ?_ _
          refine tailQ_run rfl rfl ?_
          go_simp
          clear hHeld
          clear d1 f1 c3 c0 c1 hbw K3
          generalize (wi.setCell ⟨g3, k * 3 + 1, none⟩ (.int .i64 (i0 : Int))).drew = Y at *
          -- the mark
          obtain ⟨_, hga, _, _, hcd, hzd⟩ := RecAt.view encDesk_len (by omega) (unhide HF4).desks (hD2 _).symm (by show 0 < (m1.desks.set k _).length; rw [hD2]; omega)
          cases hga
          have d2 := hcd k (by show k < (m1.desks.set k _).length; rw [hD2]; omega) 2 _ rfl
          have d2' : Y.cell? ⟨g3, k * 3 + 2, none⟩ = some (.int .i64 mk) := by
            have h9 : recAt (m1.desks.set k (o, (i0 : Int), mk)) k = (o, (i0 : Int), mk) := unhide Hset _
            rw [show (({ m1 with smiths := waitAll m1.smiths (e :: t), desks := m1.desks.set k (o, (i0 : Int), mk) } : SmyV)).desks = m1.desks.set k (o, (i0 : Int), mk) from rfl, h9] at d2
            exact d2
          have f2 := hzd (k * 3 + 2)
          have c3 := (unhide K4).cell (i := 3) (v := .slice (some ⟨g3, 0, none⟩) m.desks.length p3) rfl
          have hput2 := (unhide HF4).putD (hD2 _).symm (j := k) (i := 2) (by show k < (m1.desks.set k _).length; rw [hD2]; omega) (by omega) (.int .i64 (markedV mk hd0)) (o, (i0 : Int), markedV mk hd0) (by show encDesk (o, (i0 : Int), markedV mk hd0) = (encDesk (recAt (m1.desks.set k (o, (i0 : Int), mk)) k)).set 2 _; rw [unhide Hset]; rfl)
          simp only [List.set_set] at hput2
          have HF5 : Hid (FullSmy n₀ (Y.setCell ⟨g3, k * 3 + 2, none⟩ (.int .i64 (markedV mk hd0))).drew v0 v1 (.slice (some ⟨g2, 0, none⟩) m.smiths.length p2) (.slice (some ⟨g3, 0, none⟩) m.desks.length p3) v4 { m1 with smiths := waitAll m1.smiths (e :: t), desks := m1.desks.set k (o, (i0 : Int), markedV mk hd0) } qs) := hide (hput2.below (Below.refl _ _).drew)
          have T5 : Two (Value.slice (some ⟨g2, 0, none⟩) m.smiths.length p2).ownBlock (some g3) Y (Y.setCell ⟨g3, k * 3 + 2, none⟩ (.int .i64 (markedV mk hd0))).drew := (Two.of_set Y (.inr rfl) _ _).trans (Two.of_below (Below.refl _ _).drew)
          have K5 := hide ((unhide K4).two T5 (unhide H2) (fun e9 => unhide H3 (by cases e9; rfl)))
          have y1 := (T5.cell (a := ⟨eb, eo + 1, none⟩) hbw4 hne2 hne3).trans x1
          replace Tw3 := hide ((unhide Tw3).trans T5)
          clear hput2 T5 hcd hzd HF4 d2
          go_wp2_with fail
          refine wp_region_last (S := fun w' => w'.cell? ⟨R, 3, none⟩ = some (.slice (some ⟨g3, 0, none⟩) m.desks.length p3) ∧ w'.cell? ⟨g3, k * 3 + 2, none⟩ = some (.int .i64 mk) ∧ w'.cell? ⟨eb, eo, none⟩ = some (.int .i64 hd0)) (by kernel_rfl) (List.cons_ne_nil _ _) (by kernel_rfl) ⟨c3, d2', x0⟩ (fun hHeld => ?_)
          simp only [List.dropLast_cons_cons, List.dropLast_singleton, List.length_cons, List.length_nil, Nat.zero_add, Nat.reduceAdd]
          (refine wpAnyH_take (i := 0) (v := ?_) rfl (by kernel_rfl) (by kernel_rfl) (by kernel_rfl) (fun _ _ _ h => h) (Or.inl ⟨by rfl, ?_⟩) (by assumption) ?_; rotate_left; (intro W9 hSw; (try dsimp only at hSw); go_simp; (try with_reducible rfl)); (try simp only [Act.put, List.setIfInBounds_toArray, List.set_cons_zero, List.set_cons_succ]))
          (refine wpAnyH_take (i := 1) (v := ?_) rfl (by kernel_rfl) (by kernel_rfl) (by kernel_rfl) (fun _ _ _ h => h) (Or.inl ⟨by rfl, ?_⟩) (by assumption) ?_; rotate_left; (intro W9 hSw; (try dsimp only at hSw); go_simp; (try with_reducible rfl)); (try simp only [Act.put, List.setIfInBounds_toArray, List.set_cons_zero, List.set_cons_succ]))
          (refine wpAnyH_take (i := 2) (v := ?_) rfl (by kernel_rfl) (by kernel_rfl) (by kernel_rfl) (fun _ _ _ h => h) (Or.inl ⟨by rfl, ?_⟩) (by assumption) ?_; rotate_left; (intro W9 hSw; (try dsimp only at hSw); go_simp; (try with_reducible rfl)); (try simp only [Act.put, List.setIfInBounds_toArray, List.set_cons_zero, List.set_cons_succ]))
          (refine wpAnyH_take (i := 3) (v := ?_) rfl (by kernel_rfl) (by kernel_rfl) (by kernel_rfl) (fun _ _ _ h => h) (Or.inl ⟨by rfl, ?_⟩) (by assumption) ?_; rotate_left; (intro W9 hSw; (try dsimp only at hSw); go_simp; (try with_reducible rfl)); (try simp only [Act.put, List.setIfInBounds_toArray, List.set_cons_zero, List.set_cons_succ]))
          (refine wpAnyH_take (i := 4) (v := ?_) rfl (by kernel_rfl) (by kernel_rfl) (by kernel_rfl) (fun _ _ _ h => h) (Or.inl ⟨by rfl, ?_⟩) (by assumption) ?_; rotate_left; (intro W9 hSw; (try dsimp only at hSw); go_simp; (try with_reducible rfl)); (try simp only [Act.put, List.setIfInBounds_toArray, List.set_cons_zero, List.set_cons_succ]))
          (refine wpAnyH_take (i := 5) (v := ?_) rfl (by kernel_rfl) (by kernel_rfl) (by kernel_rfl) (fun _ _ _ h => h) (Or.inl ⟨by rfl, ?_⟩) (by assumption) ?_; rotate_left; (intro W9 hSw; (try dsimp only at hSw); go_simp; (try with_reducible rfl)); (try simp only [Act.put, List.setIfInBounds_toArray, List.set_cons_zero, List.set_cons_succ]))
          (refine wpAnyH_take (i := 6) (v := ?_) rfl (by kernel_rfl) (by kernel_rfl) (by kernel_rfl) (fun _ _ _ h => h) (Or.inl ⟨by rfl, ?_⟩) (by assumption) ?_; rotate_left; (intro W9 hSw; (try dsimp only at hSw); go_simp; (try with_reducible rfl)); (try simp only [Act.put, List.setIfInBounds_toArray, List.set_cons_zero, List.set_cons_succ]))
          (refine wpAnyH_take (i := 7) (v := ?_) rfl (by kernel_rfl) (by kernel_rfl) (by kernel_rfl) (fun _ _ _ h => h) (Or.inl ⟨by rfl, ?_⟩) (by assumption) ?_; rotate_left; (intro W9 hSw; (try dsimp only at hSw); go_simp; (try with_reducible rfl)); (try simp only [Act.put, List.setIfInBounds_toArray, List.set_cons_zero, List.set_cons_succ]))
          (refine wpAnyH_take (i := 8) (v := ?_) rfl (by kernel_rfl) (by kernel_rfl) (by kernel_rfl) (fun _ _ _ h => h) (Or.inl ⟨by rfl, ?_⟩) (by assumption) ?_; rotate_left; (intro W9 hSw; (try dsimp only at hSw); go_simp; (try with_reducible rfl)); (try simp only [Act.put, List.setIfInBounds_toArray, List.set_cons_zero, List.set_cons_succ]))
          (refine wpAnyH_take (i := 9) (v := ?_) rfl (by kernel_rfl) (by kernel_rfl) (by kernel_rfl) (fun _ _ _ h => h) (Or.inl ⟨by rfl, ?_⟩) (by assumption) ?_; rotate_left; (intro W9 hSw; (try dsimp only at hSw); go_simp; (try with_reducible rfl)); (try simp only [Act.put, List.setIfInBounds_toArray, List.set_cons_zero, List.set_cons_succ]))
          (refine wpAnyH_take (i := 10) (v := ?_) rfl (by kernel_rfl) (by kernel_rfl) (by kernel_rfl) (fun _ _ _ h => h) (Or.inl ⟨by rfl, ?_⟩) (by assumption) ?_; rotate_left; (intro W9 hSw; (try dsimp only at hSw); go_simp; (try with_reducible rfl)); (try simp only [Act.put, List.setIfInBounds_toArray, List.set_cons_zero, List.set_cons_succ]))
          (refine wpAnyH_take (i := 11) (v := ?_) rfl (by kernel_rfl) (by kernel_rfl) (by kernel_rfl) (fun _ _ _ h => h) (Or.inl ⟨by rfl, ?_⟩) (by assumption) ?_; rotate_left; (intro W9 hSw; (try dsimp only at hSw); go_simp; (try with_reducible rfl)); (try simp only [Act.put, List.setIfInBounds_toArray, List.set_cons_zero, List.set_cons_succ]))
          (refine wpAnyH_take (i := 12) (v := ?_) rfl (by kernel_rfl) (by kernel_rfl) (by kernel_rfl) (fun _ _ _ h => h) (Or.inl ⟨by rfl, ?_⟩) (by assumption) ?_; rotate_left; (intro W9 hSw; (try dsimp only at hSw); go_simp; (try with_reducible rfl)); (try simp only [Act.put, List.setIfInBounds_toArray, List.set_cons_zero, List.set_cons_succ]))
          (refine wpAnyH_take (i := 13) (v := ?_) rfl (by kernel_rfl) (by kernel_rfl) (by kernel_rfl) (fun _ _ _ h => h) (Or.inl ⟨by rfl, ?_⟩) (by assumption) ?_; rotate_left; (intro W9 hSw; (try dsimp only at hSw); go_simp; (try with_reducible rfl)); (try simp only [Act.put, List.setIfInBounds_toArray, List.set_cons_zero, List.set_cons_succ]))
          (refine wpAnyH_take (i := 14) (v := ?_) rfl (by kernel_rfl) (by kernel_rfl) (by kernel_rfl) (fun _ _ _ h => h) (Or.inl ⟨by rfl, ?_⟩) (by assumption) ?_; rotate_left; (intro W9 hSw; (try dsimp only at hSw); go_simp; (try with_reducible rfl)); (try simp only [Act.put, List.setIfInBounds_toArray, List.set_cons_zero, List.set_cons_succ]))
          (refine wpAnyH_take (i := 15) (v := ?_) rfl (by kernel_rfl) (by kernel_rfl) (by kernel_rfl) (fun _ _ _ h => h) (Or.inl ⟨by rfl, ?_⟩) (by assumption) ?_; rotate_left; (intro W9 hSw; (try dsimp only at hSw); go_simp; (try with_reducible rfl)); (try simp only [Act.put, List.setIfInBounds_toArray, List.set_cons_zero, List.set_cons_succ]))
          (refine wpAnyH_take (i := 16) (v := ?_) rfl (by kernel_rfl) (by kernel_rfl) (by kernel_rfl) (fun _ _ _ h => h) (Or.inl ⟨by rfl, ?_⟩) (by assumption) ?_; rotate_left; (intro W9 hSw; (try dsimp only at hSw); go_simp; (try with_reducible rfl)); (try simp only [Act.put, List.setIfInBounds_toArray, List.set_cons_zero, List.set_cons_succ]))
          refine wpAnyH_ready (rs := [17]) (by kernel_rfl) (by simp) ?_
          refine AllReadyH.cons rfl (fun K hK => ?_) AllReadyH.nil
          go_simp
          refine (specMarked_any mk hd0 _).mono ?_
          rintro e9 w9 ⟨rfl, hw9⟩
          subst w9
          refine hK.out _ _ hHeld (fun hHeld => ?_)
          clear hK K
          (try simp only [Act.put, List.setIfInBounds_toArray, List.set_cons_zero, List.set_cons_succ])
          (refine wpAnyH_take (i := 18) (v := ?_) rfl (by kernel_rfl) (by kernel_rfl) (by kernel_rfl) (fun _ _ _ h => h) (Or.inl ⟨by rfl, ?_⟩) (by assumption) ?_; rotate_left; (intro W9 hSw; (try dsimp only at hSw); go_simp; (try with_reducible rfl)); (try simp only [Act.put, List.setIfInBounds_toArray, List.set_cons_zero, List.set_cons_succ]))
          (refine wpAnyH_take (i := 19) (v := ?_) rfl (by kernel_rfl) (by kernel_rfl) (by kernel_rfl) (fun _ _ _ h => h) (Or.inl ⟨by rfl, ?_⟩) (by assumption) ?_; rotate_left; (intro W9 hSw; (try dsimp only at hSw); go_simp; (try with_reducible rfl)); (try simp only [Act.put, List.setIfInBounds_toArray, List.set_cons_zero, List.set_cons_succ]))
          refine wpAnyH_done (by kernel_rfl) ?_ _
          refine tailQ_run rfl rfl ?_
          go_simp
          clear hHeld
          clear d2' f2 c3 x0 x1 hbw4 K4
          generalize (Y.setCell ⟨g3, k * 3 + 2, none⟩ (.int .i64 (markedV mk hd0))).drew = Z at *
          -- it works
          obtain ⟨_, hga, _, _, hc2, hz2⟩ := RecAt.view encSmith_len (by omega) (unhide HF5).smiths hwl.symm (by show 0 < (waitAll m1.smiths (e :: t)).length; omega)
          cases hga
          have s0 := hc2 i0 (by show i0 < (waitAll m1.smiths (e :: t)).length; omega) 0 _ rfl
          have f0 := hz2 (i0 * 11)
          have c2 := (unhide K5).cell (i := 2) (v := .slice (some ⟨g2, 0, none⟩) m.smiths.length p2) rfl
          have hput3 := (unhide HF5).putS hwl.symm (j := i0) (i := 0) (by show i0 < (waitAll m1.smiths (e :: t)).length; omega) (by omega) (.int .i64 3) (stS (recAt (waitAll m1.smiths (e :: t)) i0) 3) rfl
          simp only [Nat.add_zero] at s0 hput3
          have HF6 := hide hput3
          have hi1 : (i0 : Int) < (m.smiths.length : Int) := by omega
          clear hput3 hc2 hz2 HF5
          go_wp2_with fail
          refine wp_region_last (S := fun w' => w'.cell? ⟨R, 2, none⟩ = some (.slice (some ⟨g2, 0, none⟩) m.smiths.length p2) ∧ w'.cell? ⟨eb, eo + 1, none⟩ = some (.int .i64 (i0 : Int))) (by kernel_rfl) (List.cons_ne_nil _ _) (by kernel_rfl) ⟨c2, y1⟩ (fun hHeld => ?_)
          simp only [List.dropLast_cons_cons, List.dropLast_singleton, List.length_cons, List.length_nil, Nat.zero_add, Nat.reduceAdd]
          (refine wpAnyH_take (i := 0) (v := ?_) rfl (by kernel_rfl) (by kernel_rfl) (by kernel_rfl) (fun _ _ _ h => h) (Or.inl ⟨by rfl, ?_⟩) (by assumption) ?_; rotate_left; (intro W9 hSw; (try dsimp only at hSw); go_simp; (try with_reducible rfl)); (try simp only [Act.put, List.setIfInBounds_toArray, List.set_cons_zero, List.set_cons_succ]))
          (refine wpAnyH_take (i := 1) (v := ?_) rfl (by kernel_rfl) (by kernel_rfl) (by kernel_rfl) (fun _ _ _ h => h) (Or.inl ⟨by rfl, ?_⟩) (by assumption) ?_; rotate_left; (intro W9 hSw; (try dsimp only at hSw); go_simp; (try with_reducible rfl)); (try simp only [Act.put, List.setIfInBounds_toArray, List.set_cons_zero, List.set_cons_succ]))
          (refine wpAnyH_take (i := 2) (v := ?_) rfl (by kernel_rfl) (by kernel_rfl) (by kernel_rfl) (fun _ _ _ h => h) (Or.inl ⟨by rfl, ?_⟩) (by assumption) ?_; rotate_left; (intro W9 hSw; (try dsimp only at hSw); go_simp; (try with_reducible rfl)); (try simp only [Act.put, List.setIfInBounds_toArray, List.set_cons_zero, List.set_cons_succ]))
          (refine wpAnyH_take (i := 3) (v := ?_) rfl (by kernel_rfl) (by kernel_rfl) (by kernel_rfl) (fun _ _ _ h => h) (Or.inl ⟨by rfl, ?_⟩) (by assumption) ?_; rotate_left; (intro W9 hSw; (try dsimp only at hSw); go_simp; (try with_reducible rfl)); (try simp only [Act.put, List.setIfInBounds_toArray, List.set_cons_zero, List.set_cons_succ]))
          (refine wpAnyH_take (i := 4) (v := ?_) rfl (by kernel_rfl) (by kernel_rfl) (by kernel_rfl) (fun _ _ _ h => h) (Or.inl ⟨by rfl, ?_⟩) (by assumption) ?_; rotate_left; (intro W9 hSw; (try dsimp only at hSw); go_simp; (try with_reducible rfl)); (try simp only [Act.put, List.setIfInBounds_toArray, List.set_cons_zero, List.set_cons_succ]))
          (refine wpAnyH_take (i := 5) (v := ?_) rfl (by kernel_rfl) (by kernel_rfl) (by kernel_rfl) (fun _ _ _ h => h) (Or.inl ⟨by rfl, ?_⟩) (by assumption) ?_; rotate_left; (intro W9 hSw; (try dsimp only at hSw); go_simp; (try with_reducible rfl)); (try simp only [Act.put, List.setIfInBounds_toArray, List.set_cons_zero, List.set_cons_succ]))
          (refine wpAnyH_take (i := 6) (v := ?_) rfl (by kernel_rfl) (by kernel_rfl) (by kernel_rfl) (fun _ _ _ h => h) (Or.inl ⟨by rfl, ?_⟩) (by assumption) ?_; rotate_left; (intro W9 hSw; (try dsimp only at hSw); go_simp; (try with_reducible rfl)); (try simp only [Act.put, List.setIfInBounds_toArray, List.set_cons_zero, List.set_cons_succ]))
          (refine wpAnyH_take (i := 7) (v := ?_) rfl (by kernel_rfl) (by kernel_rfl) (by kernel_rfl) (fun _ _ _ h => h) (Or.inl ⟨by rfl, ?_⟩) (by assumption) ?_; rotate_left; (intro W9 hSw; (try dsimp only at hSw); go_simp; (try with_reducible rfl)); (try simp only [Act.put, List.setIfInBounds_toArray, List.set_cons_zero, List.set_cons_succ]))
          (refine wpAnyH_take (i := 8) (v := ?_) rfl (by kernel_rfl) (by kernel_rfl) (by kernel_rfl) (fun _ _ _ h => h) (Or.inl ⟨by rfl, ?_⟩) (by assumption) ?_; rotate_left; (intro W9 hSw; (try dsimp only at hSw); go_simp; (try with_reducible rfl)); (try simp only [Act.put, List.setIfInBounds_toArray, List.set_cons_zero, List.set_cons_succ]))
          (refine wpAnyH_take (i := 9) (v := ?_) rfl (by kernel_rfl) (by kernel_rfl) (by kernel_rfl) (fun _ _ _ h => h) (Or.inl ⟨by rfl, ?_⟩) (by assumption) ?_; rotate_left; (intro W9 hSw; (try dsimp only at hSw); go_simp; (try with_reducible rfl)); (try simp only [Act.put, List.setIfInBounds_toArray, List.set_cons_zero, List.set_cons_succ]))
          refine wpAnyH_done (by kernel_rfl) ?_ _
          refine tailQ_run rfl rfl ?_
          go_simp
          clear hHeld
          go_wp2_with fail
          go_roundw
          case rel => exact ⟨k + 1, by omega, by go_num, by rw [unhide Hstep, unhide Hcons]; exact (unhide HF6).below (Below.refl _ _).drew, ((unhide Tw2).trans (unhide Tw3)).trans ((Two.of_set _ (.inl rfl) _ _).trans (Two.of_below (Below.refl _ _).drew))⟩
          case measure => simp [intOf]; omega

end Go.Proofs.YtifolooecfebfaaGreat

/- Behind all that is done (l15Done), who sits down (l15Sit), who is put at another bench (l16Put), what is refused (l15Bad): the model's, in a smithy that the call made. Conditions: those that each theorem names. -/
namespace Go.Proofs.YtifolooecfebfaaGreat
open Go.ChangeShapes Go.WideShapes Go.ChangeAt Go.RowKit Go.Sort
set_option linter.unusedVariables false
set_option linter.unusedSimpArgs false

set_option maxRecDepth 100000 in
set_option maxHeartbeats 4000000 in
theorem l16Put_any {w : World} {R n₀ : Nat} {v0 v1 v2 v3 v4 : Value} {m : SmyV} {qs : List (RoomV × Value)} (kb : Blk w R 32 #[v0, v1, v2, v3, v4, .int .i64 m.now]) (hf : FullSmy n₀ w v0 v1 v2 v3 v4 m qs) (h2 : v2.ownBlock ≠ some R) (h3 : v3.ownBlock ≠ some R) {k bn b : Nat} (hk : k < m.smiths.length) (hbn : (recAt m.smiths k).2.1 = (bn : Int)) (hbn1 : bn < m.desks.length) (hb : b < m.desks.length) :
    Calls Tryz.prog 46 #[.pointer (some ⟨R, 0, none⟩), .int .i64 (k : Int), .int .i64 (b : Int)] w fun e w' => e = .returned (.tuple #[]) ∧ FullSmy n₀ w' v0 v1 v2 v3 v4 (setS m k (putS m (recAt m.smiths k) b)) qs ∧ Two v2.ownBlock v3.ownBlock w w' := by
  obtain ⟨a2, p2, rfl⟩ := RecAt.shape hf.smiths
  obtain ⟨a3, p3, rfl⟩ := RecAt.shape hf.desks
  obtain ⟨g2, rfl, hg2, hg2w, hc2, hz2⟩ := RecAt.view encSmith_len (by omega) hf.smiths rfl (by omega)
  obtain ⟨g3, rfl, hg3, hg3w, hc3, hz3⟩ := RecAt.view encDesk_len (by omega) hf.desks rfl (by omega)
  have s1 := hc2 k hk 1 _ rfl
  have s7 := hc2 k hk 7 _ rfl
  have f1 := hz2 (k * 11 + 1)
  have f7 := hz2 (k * 11 + 7)
  have d1 := hc3 bn hbn1 2 _ rfl
  have d2 := hc3 b hb 2 _ rfl
  have c2 := kb.cell (i := 2) (v := .slice (some ⟨g2, 0, none⟩) m.smiths.length p2) rfl
  have c3 := kb.cell (i := 3) (v := .slice (some ⟨g3, 0, none⟩) m.desks.length p3) rfl
  have hmv : movedV (hadS (recAt m.smiths k)) (mark m (recAt m.smiths k).2.1) (mark m (b : Int)) = movedV (recAt m.smiths k).2.2.2.2.2.2.2.1 (recAt m.desks bn).2.2 (recAt m.desks b).2.2 := by unfold mark hadS; rw [hbn]; simp
  have hx1 : ∃ x1 : SmithV, x1 = ((recAt m.smiths k).1, (recAt m.smiths k).2.1, (recAt m.smiths k).2.2.1, (recAt m.smiths k).2.2.2.1, (recAt m.smiths k).2.2.2.2.1, (recAt m.smiths k).2.2.2.2.2.1, (recAt m.smiths k).2.2.2.2.2.2.1, movedV (recAt m.smiths k).2.2.2.2.2.2.2.1 (recAt m.desks bn).2.2 (recAt m.desks b).2.2, (recAt m.smiths k).2.2.2.2.2.2.2.2) := ⟨_, rfl⟩
  obtain ⟨x1, hx1⟩ := hx1
  have hp1 := hf.putS rfl (j := k) (i := 7) hk (by omega) (.int .i64 (movedV (recAt m.smiths k).2.2.2.2.2.2.2.1 (recAt m.desks bn).2.2 (recAt m.desks b).2.2)) x1 (by rw [hx1]; rfl)
  have hlen : (m.smiths.set k x1).length = m.smiths.length := by simp
  have hs1 : recAt (m.smiths.set k x1) k = x1 := by rw [recAt_set hk, if_pos rfl]
  have hp2 := hp1.putS hlen.symm (j := k) (i := 1) (by show k < (m.smiths.set k _).length; omega) (by omega) (.int .i64 (b : Int)) (putS m (recAt m.smiths k) b) (by show encSmith (putS m (recAt m.smiths k) b) = (encSmith (recAt (m.smiths.set k x1) k)).set 1 _; rw [hs1, hx1]; unfold putS; rw [hmv]; rfl)
  obtain ⟨_, hga, _, _, hc4, hz4⟩ := RecAt.view encSmith_len (by omega) hp1.smiths hlen.symm (by show 0 < (m.smiths.set k _).length; omega)
  cases hga
  have s2 := hc4 k (by show k < (m.smiths.set k _).length; omega) 1 _ rfl
  have f2 := hz4 (k * 11 + 1)
  simp only [List.set_set] at hp2
  have HP2 := hide hp2
  have hk1 : (k : Int) < (m.smiths.length : Int) := by omega
  have hbn2 : (bn : Int) < (m.desks.length : Int) := by omega
  have hb2 : (b : Int) < (m.desks.length : Int) := by omega
  rw [hbn] at s1
  clear hc2 hz2 hc3 hz3 hc4 hz4 hp1 hp2 hf kb hs1 hlen h2 h3 hmv hx1 hbn
  generalize (recAt m.smiths k).2.2.2.2.2.2.2.1 = hd0 at *
  generalize (recAt m.desks bn).2.2 = mk1 at *
  generalize (recAt m.desks b).2.2 = mk2 at *
  go_enter Tryz.func46, Tryz.ntmps46
  go_wp2_with fail
  refine wp_region_last (S := fun w' => w'.cell? ⟨g2, k * 11 + 7, none⟩ = some (.int .i64 hd0) ∧ w'.cell? ⟨R, 3, none⟩ = some (.slice (some ⟨g3, 0, none⟩) m.desks.length p3) ∧ w'.cell? ⟨g2, k * 11 + 1, none⟩ = some (.int .i64 (bn : Int)) ∧ w'.cell? ⟨g3, bn * 3 + 2, none⟩ = some (.int .i64 mk1) ∧ w'.cell? ⟨g3, b * 3 + 2, none⟩ = some (.int .i64 mk2)) (by kernel_rfl) (List.cons_ne_nil _ _) (by kernel_rfl) ⟨s7, c3, s1, d1, d2⟩ (fun hHeld => ?_)
  simp only [List.dropLast_cons_cons, List.dropLast_singleton, List.length_cons, List.length_nil, Nat.zero_add, Nat.reduceAdd]
  (refine wpAnyH_take (i := 0) (v := ?_) rfl (by kernel_rfl) (by kernel_rfl) (by kernel_rfl) (fun _ _ _ h => h) (Or.inl ⟨by rfl, ?_⟩) (by assumption) ?_; rotate_left; (intro W9 hSw; (try dsimp only at hSw); go_simp; (try with_reducible rfl)); (try simp only [Act.put, List.setIfInBounds_toArray, List.set_cons_zero, List.set_cons_succ]))
  (refine wpAnyH_take (i := 1) (v := ?_) rfl (by kernel_rfl) (by kernel_rfl) (by kernel_rfl) (fun _ _ _ h => h) (Or.inl ⟨by rfl, ?_⟩) (by assumption) ?_; rotate_left; (intro W9 hSw; (try dsimp only at hSw); go_simp; (try with_reducible rfl)); (try simp only [Act.put, List.setIfInBounds_toArray, List.set_cons_zero, List.set_cons_succ]))
  (refine wpAnyH_take (i := 2) (v := ?_) rfl (by kernel_rfl) (by kernel_rfl) (by kernel_rfl) (fun _ _ _ h => h) (Or.inl ⟨by rfl, ?_⟩) (by assumption) ?_; rotate_left; (intro W9 hSw; (try dsimp only at hSw); go_simp; (try with_reducible rfl)); (try simp only [Act.put, List.setIfInBounds_toArray, List.set_cons_zero, List.set_cons_succ]))
  (refine wpAnyH_take (i := 3) (v := ?_) rfl (by kernel_rfl) (by kernel_rfl) (by kernel_rfl) (fun _ _ _ h => h) (Or.inl ⟨by rfl, ?_⟩) (by assumption) ?_; rotate_left; (intro W9 hSw; (try dsimp only at hSw); go_simp; (try with_reducible rfl)); (try simp only [Act.put, List.setIfInBounds_toArray, List.set_cons_zero, List.set_cons_succ]))
  (refine wpAnyH_take (i := 4) (v := ?_) rfl (by kernel_rfl) (by kernel_rfl) (by kernel_rfl) (fun _ _ _ h => h) (Or.inl ⟨by rfl, ?_⟩) (by assumption) ?_; rotate_left; (intro W9 hSw; (try dsimp only at hSw); go_simp; (try with_reducible rfl)); (try simp only [Act.put, List.setIfInBounds_toArray, List.set_cons_zero, List.set_cons_succ]))
  (refine wpAnyH_take (i := 5) (v := ?_) rfl (by kernel_rfl) (by kernel_rfl) (by kernel_rfl) (fun _ _ _ h => h) (Or.inl ⟨by rfl, ?_⟩) (by assumption) ?_; rotate_left; (intro W9 hSw; (try dsimp only at hSw); go_simp; (try with_reducible rfl)); (try simp only [Act.put, List.setIfInBounds_toArray, List.set_cons_zero, List.set_cons_succ]))
  (refine wpAnyH_take (i := 6) (v := ?_) rfl (by kernel_rfl) (by kernel_rfl) (by kernel_rfl) (fun _ _ _ h => h) (Or.inl ⟨by rfl, ?_⟩) (by assumption) ?_; rotate_left; (intro W9 hSw; (try dsimp only at hSw); go_simp; (try with_reducible rfl)); (try simp only [Act.put, List.setIfInBounds_toArray, List.set_cons_zero, List.set_cons_succ]))
  (refine wpAnyH_take (i := 7) (v := ?_) rfl (by kernel_rfl) (by kernel_rfl) (by kernel_rfl) (fun _ _ _ h => h) (Or.inl ⟨by rfl, ?_⟩) (by assumption) ?_; rotate_left; (intro W9 hSw; (try dsimp only at hSw); go_simp; (try with_reducible rfl)); (try simp only [Act.put, List.setIfInBounds_toArray, List.set_cons_zero, List.set_cons_succ]))
  (refine wpAnyH_take (i := 8) (v := ?_) rfl (by kernel_rfl) (by kernel_rfl) (by kernel_rfl) (fun _ _ _ h => h) (Or.inl ⟨by rfl, ?_⟩) (by assumption) ?_; rotate_left; (intro W9 hSw; (try dsimp only at hSw); go_simp; (try with_reducible rfl)); (try simp only [Act.put, List.setIfInBounds_toArray, List.set_cons_zero, List.set_cons_succ]))
  (refine wpAnyH_take (i := 9) (v := ?_) rfl (by kernel_rfl) (by kernel_rfl) (by kernel_rfl) (fun _ _ _ h => h) (Or.inl ⟨by rfl, ?_⟩) (by assumption) ?_; rotate_left; (intro W9 hSw; (try dsimp only at hSw); go_simp; (try with_reducible rfl)); (try simp only [Act.put, List.setIfInBounds_toArray, List.set_cons_zero, List.set_cons_succ]))
  (refine wpAnyH_take (i := 10) (v := ?_) rfl (by kernel_rfl) (by kernel_rfl) (by kernel_rfl) (fun _ _ _ h => h) (Or.inl ⟨by rfl, ?_⟩) (by assumption) ?_; rotate_left; (intro W9 hSw; (try dsimp only at hSw); go_simp; (try with_reducible rfl)); (try simp only [Act.put, List.setIfInBounds_toArray, List.set_cons_zero, List.set_cons_succ]))
  (refine wpAnyH_take (i := 11) (v := ?_) rfl (by kernel_rfl) (by kernel_rfl) (by kernel_rfl) (fun _ _ _ h => h) (Or.inl ⟨by rfl, ?_⟩) (by assumption) ?_; rotate_left; (intro W9 hSw; (try dsimp only at hSw); go_simp; (try with_reducible rfl)); (try simp only [Act.put, List.setIfInBounds_toArray, List.set_cons_zero, List.set_cons_succ]))
  (refine wpAnyH_take (i := 12) (v := ?_) rfl (by kernel_rfl) (by kernel_rfl) (by kernel_rfl) (fun _ _ _ h => h) (Or.inl ⟨by rfl, ?_⟩) (by assumption) ?_; rotate_left; (intro W9 hSw; (try dsimp only at hSw); go_simp; (try with_reducible rfl)); (try simp only [Act.put, List.setIfInBounds_toArray, List.set_cons_zero, List.set_cons_succ]))
  (refine wpAnyH_take (i := 13) (v := ?_) rfl (by kernel_rfl) (by kernel_rfl) (by kernel_rfl) (fun _ _ _ h => h) (Or.inl ⟨by rfl, ?_⟩) (by assumption) ?_; rotate_left; (intro W9 hSw; (try dsimp only at hSw); go_simp; (try with_reducible rfl)); (try simp only [Act.put, List.setIfInBounds_toArray, List.set_cons_zero, List.set_cons_succ]))
  (refine wpAnyH_take (i := 14) (v := ?_) rfl (by kernel_rfl) (by kernel_rfl) (by kernel_rfl) (fun _ _ _ h => h) (Or.inl ⟨by rfl, ?_⟩) (by assumption) ?_; rotate_left; (intro W9 hSw; (try dsimp only at hSw); go_simp; (try with_reducible rfl)); (try simp only [Act.put, List.setIfInBounds_toArray, List.set_cons_zero, List.set_cons_succ]))
  (refine wpAnyH_take (i := 15) (v := ?_) rfl (by kernel_rfl) (by kernel_rfl) (by kernel_rfl) (fun _ _ _ h => h) (Or.inl ⟨by rfl, ?_⟩) (by assumption) ?_; rotate_left; (intro W9 hSw; (try dsimp only at hSw); go_simp; (try with_reducible rfl)); (try simp only [Act.put, List.setIfInBounds_toArray, List.set_cons_zero, List.set_cons_succ]))
  (refine wpAnyH_take (i := 16) (v := ?_) rfl (by kernel_rfl) (by kernel_rfl) (by kernel_rfl) (fun _ _ _ h => h) (Or.inl ⟨by rfl, ?_⟩) (by assumption) ?_; rotate_left; (intro W9 hSw; (try dsimp only at hSw); go_simp; (try with_reducible rfl)); (try simp only [Act.put, List.setIfInBounds_toArray, List.set_cons_zero, List.set_cons_succ]))
  (refine wpAnyH_take (i := 17) (v := ?_) rfl (by kernel_rfl) (by kernel_rfl) (by kernel_rfl) (fun _ _ _ h => h) (Or.inl ⟨by rfl, ?_⟩) (by assumption) ?_; rotate_left; (intro W9 hSw; (try dsimp only at hSw); go_simp; (try with_reducible rfl)); (try simp only [Act.put, List.setIfInBounds_toArray, List.set_cons_zero, List.set_cons_succ]))
  (refine wpAnyH_take (i := 18) (v := ?_) rfl (by kernel_rfl) (by kernel_rfl) (by kernel_rfl) (fun _ _ _ h => h) (Or.inl ⟨by rfl, ?_⟩) (by assumption) ?_; rotate_left; (intro W9 hSw; (try dsimp only at hSw); go_simp; (try with_reducible rfl)); (try simp only [Act.put, List.setIfInBounds_toArray, List.set_cons_zero, List.set_cons_succ]))
  (refine wpAnyH_take (i := 19) (v := ?_) rfl (by kernel_rfl) (by kernel_rfl) (by kernel_rfl) (fun _ _ _ h => h) (Or.inl ⟨by rfl, ?_⟩) (by assumption) ?_; rotate_left; (intro W9 hSw; (try dsimp only at hSw); go_simp; (try with_reducible rfl)); (try simp only [Act.put, List.setIfInBounds_toArray, List.set_cons_zero, List.set_cons_succ]))
  (refine wpAnyH_take (i := 20) (v := ?_) rfl (by kernel_rfl) (by kernel_rfl) (by kernel_rfl) (fun _ _ _ h => h) (Or.inl ⟨by rfl, ?_⟩) (by assumption) ?_; rotate_left; (intro W9 hSw; (try dsimp only at hSw); go_simp; (try with_reducible rfl)); (try simp only [Act.put, List.setIfInBounds_toArray, List.set_cons_zero, List.set_cons_succ]))
  (refine wpAnyH_take (i := 21) (v := ?_) rfl (by kernel_rfl) (by kernel_rfl) (by kernel_rfl) (fun _ _ _ h => h) (Or.inl ⟨by rfl, ?_⟩) (by assumption) ?_; rotate_left; (intro W9 hSw; (try dsimp only at hSw); go_simp; (try with_reducible rfl)); (try simp only [Act.put, List.setIfInBounds_toArray, List.set_cons_zero, List.set_cons_succ]))
  (refine wpAnyH_take (i := 22) (v := ?_) rfl (by kernel_rfl) (by kernel_rfl) (by kernel_rfl) (fun _ _ _ h => h) (Or.inl ⟨by rfl, ?_⟩) (by assumption) ?_; rotate_left; (intro W9 hSw; (try dsimp only at hSw); go_simp; (try with_reducible rfl)); (try simp only [Act.put, List.setIfInBounds_toArray, List.set_cons_zero, List.set_cons_succ]))
  (refine wpAnyH_take (i := 23) (v := ?_) rfl (by kernel_rfl) (by kernel_rfl) (by kernel_rfl) (fun _ _ _ h => h) (Or.inl ⟨by rfl, ?_⟩) (by assumption) ?_; rotate_left; (intro W9 hSw; (try dsimp only at hSw); go_simp; (try with_reducible rfl)); (try simp only [Act.put, List.setIfInBounds_toArray, List.set_cons_zero, List.set_cons_succ]))
  refine wpAnyH_ready (rs := [24]) (by kernel_rfl) (by simp) ?_
  refine AllReadyH.cons rfl (fun K hK => ?_) AllReadyH.nil
  go_simp
  refine (specMoved_any hd0 mk1 mk2 _).mono ?_
  rintro e9 w9 ⟨rfl, hw9⟩
  subst w9
  refine hK.out _ _ hHeld (fun hHeld => ?_)
  clear hK K
  (try simp only [Act.put, List.setIfInBounds_toArray, List.set_cons_zero, List.set_cons_succ])
  (refine wpAnyH_take (i := 25) (v := ?_) rfl (by kernel_rfl) (by kernel_rfl) (by kernel_rfl) (fun _ _ _ h => h) (Or.inl ⟨by rfl, ?_⟩) (by assumption) ?_; rotate_left; (intro W9 hSw; (try dsimp only at hSw); go_simp; (try with_reducible rfl)); (try simp only [Act.put, List.setIfInBounds_toArray, List.set_cons_zero, List.set_cons_succ]))
  (refine wpAnyH_take (i := 26) (v := ?_) rfl (by kernel_rfl) (by kernel_rfl) (by kernel_rfl) (fun _ _ _ h => h) (Or.inl ⟨by rfl, ?_⟩) (by assumption) ?_; rotate_left; (intro W9 hSw; (try dsimp only at hSw); go_simp; (try with_reducible rfl)); (try simp only [Act.put, List.setIfInBounds_toArray, List.set_cons_zero, List.set_cons_succ]))
  refine wpAnyH_done (by kernel_rfl) ?_ _
  refine tailQ_run rfl rfl ?_
  go_simp
  clear hHeld
  go_wp2_with fail
  go_end0
  exact ⟨rfl, (unhide HP2).below (Below.refl _ _).drew, ((Two.of_set w (.inl rfl) _ _).trans (Two.of_set _ (.inl rfl) _ _)).trans (Two.of_below (Below.refl _ _).drew)⟩

end Go.Proofs.YtifolooecfebfaaGreat

