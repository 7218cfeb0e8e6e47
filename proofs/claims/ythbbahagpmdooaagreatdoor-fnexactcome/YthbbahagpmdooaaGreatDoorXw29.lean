/- Part 29 of what the proof rests on. No condition but those that a theorem names. -/
import Derived.Test.YthbbahagpmdooaaGreatDoorXw08
import Derived.Test.YthbbahagpmdooaaGreatDoorXw28
set_option maxHeartbeats 8000000
set_option maxRecDepth 100000
namespace Go.Proofs.YthbbahagpmdooaaGreatDoor
open Go.ChangeShapes Go.WideShapes Go.ChangeAt Go.RowKit Go.Sort
set_option linter.unusedVariables false
set_option linter.unusedSimpArgs false
theorem Two.ents {p q : Option Nat} {w w' : World} {B : Nat} {v : Value} {ps : List PaceV} (h : EntsAt B w v ps) (ht : Two p q w w') (hp : ∀ k, p = some k → k < B) (hq : ∀ k, q = some k → k < B) : EntsAt B w' v ps :=
 EntsAt.same h fun k e => ht.block k (h.lt e).2 (fun e' => by have := hp k e'; have := (h.lt e).1; omega) (fun e' => by have := hq k e'; have := (h.lt e).1; omega)
theorem Two.cell {p q : Option Nat} {w w' : World} (h : Two p q w w') {a : Addr} (ha : a.block < w.heap.size) (hp : p ≠ some a.block) (hq : q ≠ some a.block) : w'.cell? a = w.cell? a := World.cell?_of_block (w := w) (h.block a.block ha hp hq)
theorem take_one {q : List PaceV} {j : Nat} (hj : j < q.length) : q.take (j + 1) = q.take j ++ [paceAt q j] := by
 rw [List.take_succ_eq_append_getElem hj]; unfold paceAt; simp [List.getD, hj]
theorem turnB_nil {m : SmyV} {b : Nat} (h : atV m.smiths b m.smiths.length = []) : turnB m b = { m with desks := m.desks.set b ((recAt m.desks b).1, -1, (recAt m.desks b).2.2) } := by
 unfold turnB; rw [h]
theorem turnB_cons {m : SmyV} {b : Nat} {e : PaceV} {t : List PaceV} (h : atV m.smiths b m.smiths.length = e :: t) : turnB m b = { m with smiths := (waitAll m.smiths (e :: t)).set e.2.toNat (stS (recAt (waitAll m.smiths (e :: t)) e.2.toNat) 3), desks := m.desks.set b ((recAt m.desks b).1, e.2, markedV (recAt m.desks b).2.2 e.1) } := by
 unfold turnB; rw [h]
theorem l12Turn_any {w : World} {R n₀ : Nat} {v0 v1 v2 v3 v4 : Value} {m : SmyV} {qs : List (RoomV × Value)} (kb : Blk w R 32 #[v0, v1, v2, v3, v4, .int .i64 m.now]) (hf : FullSmy n₀ w v0 v1 v2 v3 v4 m qs) (h2 : v2.ownBlock ≠ some R) (h3 : v3.ownBlock ≠ some R) (hl : m.smiths.length ≤ 800) (hd : m.desks.length ≤ 1000) :
  Calls Tryz.prog 120 #[.pointer (some ⟨R, 0, none⟩)] w fun e w' => e = .returned (.tuple #[]) ∧ FullSmy n₀ w' v0 v1 v2 v3 v4 (turnV m) qs ∧ Two v2.ownBlock v3.ownBlock w w' := by
 obtain ⟨a2, p2, rfl⟩ := RecAt.shape hf.smiths
 obtain ⟨a3, p3, rfl⟩ := RecAt.shape hf.desks
 by_cases hnd : m.desks.length = 0
 ·have hz : turnV m = m := by unfold turnV; rw [hnd]; rfl
  have c3 := kb.cell (i := 3) (v := .slice a3 m.desks.length p3) rfl
  have HF := hide hf
  rw [hz]
  have hz0 : ¬ (0 : Int) < (m.desks.length : Int) := by omega
  clear hz hf kb hnd
  go_enter Tryz.func120, Tryz.ntmps120
  go_wp2_with fail
  go_loopw [2] (fun i wr => i = .int .i64 0 ∧ wr = w) (fun i _ => 0)
  case atStart => exact ⟨rfl, rfl⟩
  case round =>
   obtain ⟨rfl, hwr⟩ := hrel
   subst hwr
   go_wp2_with fail
   go_end0
   exact ⟨rfl, uh HF, Two.refl _ _ _⟩
 obtain ⟨g3, rfl, hg3, hg3w, _, _⟩ := RecAt.view encDesk_len (by omega) hf.desks rfl (by omega)
 have Kb := hide kb
 have H2 := hide h2
 have H3 : Hid (g3 ≠ R) := hide (fun e => h3 (by rw [e]; rfl))
 have HF := hide hf
 have L2 : Hid (∀ i, (Value.slice a2 m.smiths.length p2).ownBlock = some i → i < w.heap.size) := hide (fun i e => (RecAt.lt hf.smiths e).2)
 clear kb h2 h3 hf
 go_enter Tryz.func120, Tryz.ntmps120
 go_wp2_with fail
 go_loopw [2] (fun i wr => ∃ k : Nat, k ≤ m.desks.length ∧ i = .int .i64 k ∧ FullSmy n₀ wr v0 v1 (.slice a2 m.smiths.length p2) (.slice (some ⟨g3, 0, none⟩) m.desks.length p3) v4 (turnK m k) qs ∧ Two (Value.slice a2 m.smiths.length p2).ownBlock (some g3) w wr) (fun i _ => m.desks.length - (intOf i).toNat)
 case atStart => exact ⟨0, Nat.zero_le _, rfl, uh HF, Two.refl _ _ _⟩
 case round =>
  obtain ⟨k, hk, rfl, hf1, htw⟩ := hrel
  obtain ⟨e1, e2, e3, e4, e5, e6⟩ := turnK_same m k
  have Tw := hide htw
  have hgw : g3 < wr.heap.size := Nat.lt_of_lt_of_le hg3w htw.size
  have hszr := htw.size
  have hkb1 := (uh Kb).two htw (uh H2) (fun e => uh H3 (by cases e; rfl))
  have K1 := hide hkb1
  clear htw hkb1
  by_cases hlt : k < m.desks.length
  rotate_left
  ·obtain rfl : k = m.desks.length := by omega
   have c3 := (uh K1).cell (i := 3) (v := .slice (some ⟨g3, 0, none⟩) m.desks.length p3) rfl
   have hno : ¬ ((m.desks.length : Nat) : Int) < (m.desks.length : Int) := by omega
   have HF1 := hide hf1
   clear hf1
   go_wp2_with fail
   go_end0
   exact ⟨rfl, uh HF1, uh Tw⟩
  have hstep : turnK m (k + 1) = turnB (turnK m k) k := rfl
  generalize turnK m k = m1 at *
  have Hstep := hide hstep
  clear hstep
  obtain ⟨c0, c1, c2, c3, c4, c5⟩ := (uh K1).c6
  have hat := l11At_any (k : Int) hf1.smy (by rw [e5]; exact hl)
  rw [e4, e5] at hat
  have Hat := hide hat
  have HF1 := hide hf1
  clear hat hf1
  go_wp2_with fail
  refine (uh Hat).mono ?_
  rintro e w1 ⟨v', rfl, he, hb⟩
  clear c0 c1 c2 c3 c4 c5 Hat
  have hmem := atV_mem m1.smiths (k : Int)
  have hlq := atV_len m1.smiths (k : Int) m.smiths.length
  have HN : Hid (atV m1.smiths (k : Int) m.smiths.length = [] → turnB m1 k = { m1 with desks := m1.desks.set k ((recAt m1.desks k).1, -1, (recAt m1.desks k).2.2) }) := hide (fun h => turnB_nil (by rw [e5]; exact h))
  have HC : Hid (∀ e t, atV m1.smiths (k : Int) m.smiths.length = e :: t → turnB m1 k = { m1 with smiths := (waitAll m1.smiths (e :: t)).set e.2.toNat (stS (recAt (waitAll m1.smiths (e :: t)) e.2.toNat) 3), desks := m1.desks.set k ((recAt m1.desks k).1, e.2, markedV (recAt m1.desks k).2.2 e.1) }) := hide (fun e t h => turnB_cons (by rw [e5]; exact h))
  have hmq : ∀ x ∈ atV m1.smiths (k : Int) m.smiths.length, ∃ j : Nat, j < m.smiths.length ∧ x.2 = (j : Int) := fun x hx => by
   obtain ⟨j, hj, _, _, rfl⟩ := (hmem x m.smiths.length).1 hx
   exact ⟨j, hj, rfl⟩
  have Hm := hide hmq
  clear hmem hmq
  generalize atV m1.smiths (k : Int) m.smiths.length = q at *
  obtain ⟨qa, qc, rfl⟩ := EntsAt.shape he
  have HE := hide he
  replace HF1 := hide ((uh HF1).below hb)
  replace K1 := bl K1 hb
  replace Tw := hide ((uh Tw).trans (Two.of_below hb))
  have hgw1 : g3 < w1.heap.size := Nat.lt_of_lt_of_le hgw hb.size
  have hwr1 := hb.size
  clear he hb
  obtain ⟨⟨o, wh, mk⟩, hrk⟩ : ∃ d, recAt m1.desks k = d := ⟨_, rfl⟩
  rw [hrk] at HN HC
  simp only at HN HC
  have Hrk := hide hrk
  have hkd : k < m1.desks.length := by omega
  have hset : ∀ d, recAt (m1.desks.set k d) k = d := fun d => by rw [recAt_set hkd, if_pos rfl]
  have Hset := hide hset
  clear hset
  obtain ⟨_, hga, _, _, hc3, hz3⟩ := RecAt.view encDesk_len (by omega) (uh HF1).desks e6.symm (by omega)
  cases hga
  have d1 := hc3 k (by omega) 1 _ rfl
  rw [hrk] at d1
  have f1 := hz3 (k * 3 + 1)
  have c3 := (uh K1).cell (i := 3) (v := .slice (some ⟨g3, 0, none⟩) m.desks.length p3) rfl
  have hput := (uh HF1).putD e6.symm (j := k) (i := 1) (by omega) (by omega) (.int .i64 (-1)) (o, -1, mk) (by rw [hrk]; rfl)
  have HF2 := hide hput
  have hns : Two (Value.slice a2 m.smiths.length p2).ownBlock (some g3) w1 (w1.setCell ⟨g3, k * 3 + 1, none⟩ (.int .i64 (-1))) := Two.of_set w1 (.inr rfl) _ _
  have K2 := hide ((uh K1).two hns (uh H2) (fun e => uh H3 (by cases e; rfl)))
  have Tw2 := hide ((uh Tw).trans hns)
  have hlow2 : ∀ i, (Value.slice a2 m.smiths.length p2).ownBlock = some i → i < wr.heap.size := fun i e => Nat.lt_of_lt_of_le (uh L2 i e) hszr
  have Low2 := hide hlow2
  have HE2 := hide (Two.ents (uh HE) hns hlow2 (fun i e => by cases e; exact hgw))
  clear hput hns hlow2 hc3 hz3 hrk
  go_upto_region 5 with fail
  clear d1 f1 c3 K1 Tw HE HF1
  generalize w1.setCell ⟨g3, k * 3 + 1, none⟩ (.int .i64 (-1)) = X at *
  have hsm : ∀ i, i ∈ [0] → True := fun _ _ => trivial
  clear hsm
  go_wp2_with fail
  go_loopw [4] (fun i wi => ∃ j : Nat, j ≤ q.length ∧ i = .int .i64 j ∧ FullSmy n₀ wi v0 v1 (.slice a2 m.smiths.length p2) (.slice (some ⟨g3, 0, none⟩) m.desks.length p3) v4 { m1 with smiths := waitAll m1.smiths (q.take j), desks := m1.desks.set k (o, -1, mk) } qs ∧ Two (Value.slice a2 m.smiths.length p2).ownBlock (some g3) X wi) (fun i _ => q.length - (intOf i).toNat)
  case atStart => exact ⟨0, Nat.zero_le _, rfl, by simpa [waitAll] using uh HF2, Two.refl _ _ _⟩
  case round =>
   obtain ⟨wi, rfl⟩ : ∃ x, x = wr := ⟨wr, rfl⟩
   obtain ⟨j, hj, rfl, hf3, htw3⟩ := hrel
   have HF3 := hide hf3
   have Tw3 := hide htw3
   have K3 := hide ((uh K2).two htw3 (uh H2) (fun e => uh H3 (by cases e; rfl)))
   have HE3 := hide (Two.ents (uh HE2) htw3 (uh Low2) (fun i e => by cases e; exact hgw))
   clear hf3 htw3
   by_cases hjl : j < q.length
   ·obtain ⟨_, _, hqe, _, _, hr⟩ := EntsAt.paces (uh HE3)
    cases hqe
    rcases hr with e0 | ⟨eb, eo, rfl, hbw, hcl⟩
    ·rw [e0] at hjl; simp at hjl
    obtain ⟨c0, c1⟩ := hcl j hjl
    obtain ⟨i0, hi0, hie⟩ := uh Hm _ (paceAt_mem hjl)
    rw [hie] at c1
    have Htk : Hid (waitAll m1.smiths (q.take (j + 1)) = (waitAll m1.smiths (q.take j)).set i0 (stS (recAt (waitAll m1.smiths (q.take j)) i0) 2)) := hide (by rw [take_one hjl, waitAll_snoc, hie]; simp)
    have hwl : (waitAll m1.smiths (q.take j)).length = m.smiths.length := by rw [waitAll_len, e5]
    obtain ⟨g2, rfl, hg2, hg2w, hc2, hz2⟩ := RecAt.view encSmith_len (by omega) (uh HF3).smiths hwl.symm (by show 0 < (waitAll m1.smiths (q.take j)).length; omega)
    have s0 := hc2 i0 (by show i0 < (waitAll m1.smiths (q.take j)).length; omega) 0 _ rfl
    have f0 := hz2 (i0 * 11)
    have hput := (uh HF3).putS hwl.symm (j := i0) (i := 0) (by show i0 < (waitAll m1.smiths (q.take j)).length; omega) (by omega) (.int .i64 2) (stS (recAt (waitAll m1.smiths (q.take j)) i0) 2) rfl
    simp only [Nat.add_zero] at s0 hput
    have HF4 := hide hput
    have c2 := (uh K3).cell (i := 2) (v := .slice (some ⟨g2, 0, none⟩) m.smiths.length p2) rfl
    clear hcl hc2 hz2 hput hie c0 hwl
    have hi1 : (i0 : Int) < (m.smiths.length : Int) := by omega
    go_wp2_with fail
    refine wp_region_last (S := fun w' => w'.cell? ⟨R, 2, none⟩ = some (.slice (some ⟨g2, 0, none⟩) m.smiths.length p2) ∧ w'.cell? ⟨eb, eo + j * 2 + 1, none⟩ = some (.int .i64 (i0 : Int))) (by kernel_rfl) (List.cons_ne_nil _ _) (by kernel_rfl) ⟨c2, c1⟩ (fun hHeld => ?_)
    simp only [List.dropLast_cons_cons, List.dropLast_singleton, List.length_cons, List.length_nil, Nat.zero_add, Nat.reduceAdd]
    (refine tk 0 rfl (by assumption) ?_; (try simp only [Act.put, sA, sZ, sS]))
    (refine tk 1 rfl (by assumption) ?_; (try simp only [Act.put, sA, sZ, sS]))
    (refine tk 2 rfl (by assumption) ?_; (try simp only [Act.put, sA, sZ, sS]))
    (refine tk 3 rfl (by assumption) ?_; (try simp only [Act.put, sA, sZ, sS]))
    (refine tk 4 rfl (by assumption) ?_; (try simp only [Act.put, sA, sZ, sS]))
    (refine tk 5 rfl (by assumption) ?_; (try simp only [Act.put, sA, sZ, sS]))
    (refine tk 6 rfl (by assumption) ?_; (try simp only [Act.put, sA, sZ, sS]))
    (refine tk 7 rfl (by assumption) ?_; (try simp only [Act.put, sA, sZ, sS]))
    (refine tk 8 rfl (by assumption) ?_; (try simp only [Act.put, sA, sZ, sS]))
    (refine tk 9 rfl (by assumption) ?_; (try simp only [Act.put, sA, sZ, sS]))
    (refine tk 10 rfl (by assumption) ?_; (try simp only [Act.put, sA, sZ, sS]))
    refine wpAnyH_done (by kernel_rfl) ?_ _
    refine tailQ_run rfl rfl ?_
    go_simp
    clear hHeld
    go_wp2_with fail
    go_roundw
    case rel => exact ⟨j + 1, by omega, by go_num, by rw [uh Htk]; exact (uh HF4).below (Below.refl _ _).drew, ((uh Tw3).trans (Two.of_set _ (.inl rfl) _ _)).trans (Two.of_below (Below.refl _ _).drew)⟩
    case measure => simp [intOf]; omega
   ·obtain rfl : j = q.length := by omega
    rw [List.take_length] at HF3
    cases q with
    | nil =>
     clear HC
     go_wp2_with fail
     go_roundw
     case rel => exact ⟨k + 1, by omega, by go_num, by rw [uh Hstep, uh HN rfl]; exact uh HF3, (uh Tw2).trans (uh Tw3)⟩
     case measure => simp [intOf]; omega
    | cons e t =>
     obtain ⟨_, _, hqe, _, _, hr⟩ := EntsAt.paces (uh HE3)
     cases hqe
     rcases hr with e0 | ⟨eb, eo, rfl, hbw, hcl⟩
     ·cases e0
     obtain ⟨c0, c1⟩ := hcl 0 (by simp)
     obtain ⟨i0, hi0, hie⟩ := uh Hm e (by simp)
     have hp0 : paceAt (e :: t) 0 = e := rfl
     rw [hp0] at c0 c1
     rw [hie] at c1
     simp only [Nat.zero_mul, Nat.add_zero] at c0 c1
     have hcons := uh HC e t rfl
     rw [hie] at hcons
     simp only [show ((i0 : Int)).toNat = i0 by simp] at hcons
     have Hcons := hide hcons
     obtain ⟨hd0, hhd⟩ : ∃ x, e.1 = x := ⟨_, rfl⟩
     rw [hhd] at c0 Hcons
     clear hcons hhd hie hp0 hcl HN HC
     have hwl : (waitAll m1.smiths (e :: t)).length = m.smiths.length := by rw [waitAll_len, e5]
     obtain ⟨g2, rfl, hg2, hg2w, _, _⟩ := RecAt.view encSmith_len (by omega) (uh HF3).smiths hwl.symm (by show 0 < (waitAll m1.smiths (e :: t)).length; omega)
     have hD1 : (m1.desks.set k (o, -1, mk)).length = m.desks.length := by simp [e6]
     have hD2 : ∀ d, (m1.desks.set k d).length = m.desks.length := fun d => by simp [e6]
     have heb := (EntsAt.lt (uh HE3) (k := eb) rfl).1
     have hg2r := uh Low2 g2 rfl
     have hlen : (e :: t).length = t.length + 1 := rfl
     have hlpos : (0 : Int) < ((t.length + 1 : Nat) : Int) := by omega
     rw [hlen] at *
     obtain ⟨_, hga, _, _, hcd, hzd⟩ := RecAt.view encDesk_len (by omega) (uh HF3).desks hD1.symm (by show 0 < (m1.desks.set k (o, -1, mk)).length; omega)
     cases hga
     have d1 := hcd k (by show k < (m1.desks.set k (o, -1, mk)).length; omega) 1 _ rfl
     have f1 := hzd (k * 3 + 1)
     have c3 := (uh K3).cell (i := 3) (v := .slice (some ⟨g3, 0, none⟩) m.desks.length p3) rfl
     have hne2 : (Value.slice (some ⟨g2, 0, none⟩) m.smiths.length p2).ownBlock ≠ some eb := fun e9 => by have e8 : g2 = eb := Option.some.inj e9; omega
     have hne3 : (some g3 : Option Nat) ≠ some eb := fun e9 => by have e8 : g3 = eb := Option.some.inj e9; omega
     have hput1 := (uh HF3).putD hD1.symm (j := k) (i := 1) (by show k < (m1.desks.set k (o, -1, mk)).length; omega) (by omega) (.int .i64 (i0 : Int)) (o, (i0 : Int), mk) (by show encDesk (o, (i0 : Int), mk) = (encDesk (recAt (m1.desks.set k (o, -1, mk)) k)).set 1 _; rw [uh Hset]; rfl)
     simp only [List.set_set] at hput1
     have HF4 : Hid (FullSmy n₀ (wi.setCell ⟨g3, k * 3 + 1, none⟩ (.int .i64 (i0 : Int))).drew v0 v1 (.slice (some ⟨g2, 0, none⟩) m.smiths.length p2) (.slice (some ⟨g3, 0, none⟩) m.desks.length p3) v4 { m1 with smiths := waitAll m1.smiths (e :: t), desks := m1.desks.set k (o, (i0 : Int), mk) } qs) := hide (hput1.below (Below.refl _ _).drew)
     have T4 : Two (Value.slice (some ⟨g2, 0, none⟩) m.smiths.length p2).ownBlock (some g3) wi (wi.setCell ⟨g3, k * 3 + 1, none⟩ (.int .i64 (i0 : Int))).drew := (Two.of_set wi (.inr rfl) _ _).trans (Two.of_below (Below.refl _ _).drew)
     have K4 := hide ((uh K3).two T4 (uh H2) (fun e9 => uh H3 (by cases e9; rfl)))
     have x0 := (T4.cell (a := ⟨eb, eo, none⟩) hbw hne2 hne3).trans c0
     have x1 := (T4.cell (a := ⟨eb, eo + 1, none⟩) hbw hne2 hne3).trans c1
     have hbw4 : eb < ((wi.setCell ⟨g3, k * 3 + 1, none⟩ (.int .i64 (i0 : Int))).drew).heap.size := Nat.lt_of_lt_of_le hbw T4.size
     replace Tw3 := hide ((uh Tw3).trans T4)
     clear hput1 T4 hcd hzd HE3 HF3
     go_wp2_with fail
     refine wp_region_last (S := fun w' => w'.cell? ⟨R, 3, none⟩ = some (.slice (some ⟨g3, 0, none⟩) m.desks.length p3) ∧ w'.cell? ⟨eb, eo + 1, none⟩ = some (.int .i64 (i0 : Int))) (by kernel_rfl) (List.cons_ne_nil _ _) (by kernel_rfl) ⟨c3, c1⟩ (fun hHeld => ?_)
     simp only [List.dropLast_cons_cons, List.dropLast_singleton, List.length_cons, List.length_nil, Nat.zero_add, Nat.reduceAdd]
     (refine tk 0 rfl (by assumption) ?_; (try simp only [Act.put, sA, sZ, sS]))
     (refine tk 1 rfl (by assumption) ?_; (try simp only [Act.put, sA, sZ, sS]))
     (refine tk 2 rfl (by assumption) ?_; (try simp only [Act.put, sA, sZ, sS]))
     (refine tk 3 rfl (by assumption) ?_; (try simp only [Act.put, sA, sZ, sS]))
     (refine tk 4 rfl (by assumption) ?_; (try simp only [Act.put, sA, sZ, sS]))
     (refine tk 5 rfl (by assumption) ?_; (try simp only [Act.put, sA, sZ, sS]))
     (refine tk 6 rfl (by assumption) ?_; (try simp only [Act.put, sA, sZ, sS]))
     (refine tk 7 rfl (by assumption) ?_; (try simp only [Act.put, sA, sZ, sS]))
     (refine tk 8 rfl (by assumption) ?_; (try simp only [Act.put, sA, sZ, sS]))
     (refine tk 9 rfl (by assumption) ?_; (try simp only [Act.put, sA, sZ, sS]))
     (refine tk 10 rfl (by assumption) ?_; (try simp only [Act.put, sA, sZ, sS]))
     refine wpAnyH_done (by kernel_rfl) ?_ _
     refine tailQ_run rfl rfl ?_
     go_simp
     clear hHeld
     clear d1 f1 c3 c0 c1 hbw K3
     generalize (wi.setCell ⟨g3, k * 3 + 1, none⟩ (.int .i64 (i0 : Int))).drew = Y at *
     obtain ⟨_, hga, _, _, hcd, hzd⟩ := RecAt.view encDesk_len (by omega) (uh HF4).desks (hD2 _).symm (by show 0 < (m1.desks.set k _).length; rw [hD2]; omega)
     cases hga
     have d2 := hcd k (by show k < (m1.desks.set k _).length; rw [hD2]; omega) 2 _ rfl
     have d2' : Y.cell? ⟨g3, k * 3 + 2, none⟩ = some (.int .i64 mk) := by
      have h9 : recAt (m1.desks.set k (o, (i0 : Int), mk)) k = (o, (i0 : Int), mk) := uh Hset _
      rw [show (({ m1 with smiths := waitAll m1.smiths (e :: t), desks := m1.desks.set k (o, (i0 : Int), mk) } : SmyV)).desks = m1.desks.set k (o, (i0 : Int), mk) from rfl, h9] at d2
      exact d2
     have f2 := hzd (k * 3 + 2)
     have c3 := (uh K4).cell (i := 3) (v := .slice (some ⟨g3, 0, none⟩) m.desks.length p3) rfl
     have hput2 := (uh HF4).putD (hD2 _).symm (j := k) (i := 2) (by show k < (m1.desks.set k _).length; rw [hD2]; omega) (by omega) (.int .i64 (markedV mk hd0)) (o, (i0 : Int), markedV mk hd0) (by show encDesk (o, (i0 : Int), markedV mk hd0) = (encDesk (recAt (m1.desks.set k (o, (i0 : Int), mk)) k)).set 2 _; rw [uh Hset]; rfl)
     simp only [List.set_set] at hput2
     have HF5 : Hid (FullSmy n₀ (Y.setCell ⟨g3, k * 3 + 2, none⟩ (.int .i64 (markedV mk hd0))).drew v0 v1 (.slice (some ⟨g2, 0, none⟩) m.smiths.length p2) (.slice (some ⟨g3, 0, none⟩) m.desks.length p3) v4 { m1 with smiths := waitAll m1.smiths (e :: t), desks := m1.desks.set k (o, (i0 : Int), markedV mk hd0) } qs) := hide (hput2.below (Below.refl _ _).drew)
     have T5 : Two (Value.slice (some ⟨g2, 0, none⟩) m.smiths.length p2).ownBlock (some g3) Y (Y.setCell ⟨g3, k * 3 + 2, none⟩ (.int .i64 (markedV mk hd0))).drew := (Two.of_set Y (.inr rfl) _ _).trans (Two.of_below (Below.refl _ _).drew)
     have K5 := hide ((uh K4).two T5 (uh H2) (fun e9 => uh H3 (by cases e9; rfl)))
     have y1 := (T5.cell (a := ⟨eb, eo + 1, none⟩) hbw4 hne2 hne3).trans x1
     replace Tw3 := hide ((uh Tw3).trans T5)
     clear hput2 T5 hcd hzd HF4 d2
     go_wp2_with fail
     refine wp_region_last (S := fun w' => w'.cell? ⟨R, 3, none⟩ = some (.slice (some ⟨g3, 0, none⟩) m.desks.length p3) ∧ w'.cell? ⟨g3, k * 3 + 2, none⟩ = some (.int .i64 mk) ∧ w'.cell? ⟨eb, eo, none⟩ = some (.int .i64 hd0)) (by kernel_rfl) (List.cons_ne_nil _ _) (by kernel_rfl) ⟨c3, d2', x0⟩ (fun hHeld => ?_)
     simp only [List.dropLast_cons_cons, List.dropLast_singleton, List.length_cons, List.length_nil, Nat.zero_add, Nat.reduceAdd]
     (refine tk 0 rfl (by assumption) ?_; (try simp only [Act.put, sA, sZ, sS]))
     (refine tk 1 rfl (by assumption) ?_; (try simp only [Act.put, sA, sZ, sS]))
     (refine tk 2 rfl (by assumption) ?_; (try simp only [Act.put, sA, sZ, sS]))
     (refine tk 3 rfl (by assumption) ?_; (try simp only [Act.put, sA, sZ, sS]))
     (refine tk 4 rfl (by assumption) ?_; (try simp only [Act.put, sA, sZ, sS]))
     (refine tk 5 rfl (by assumption) ?_; (try simp only [Act.put, sA, sZ, sS]))
     (refine tk 6 rfl (by assumption) ?_; (try simp only [Act.put, sA, sZ, sS]))
     (refine tk 7 rfl (by assumption) ?_; (try simp only [Act.put, sA, sZ, sS]))
     (refine tk 8 rfl (by assumption) ?_; (try simp only [Act.put, sA, sZ, sS]))
     (refine tk 9 rfl (by assumption) ?_; (try simp only [Act.put, sA, sZ, sS]))
     (refine tk 10 rfl (by assumption) ?_; (try simp only [Act.put, sA, sZ, sS]))
     (refine tk 11 rfl (by assumption) ?_; (try simp only [Act.put, sA, sZ, sS]))
     (refine tk 12 rfl (by assumption) ?_; (try simp only [Act.put, sA, sZ, sS]))
     (refine tk 13 rfl (by assumption) ?_; (try simp only [Act.put, sA, sZ, sS]))
     (refine tk 14 rfl (by assumption) ?_; (try simp only [Act.put, sA, sZ, sS]))
     (refine tk 15 rfl (by assumption) ?_; (try simp only [Act.put, sA, sZ, sS]))
     (refine tk 16 rfl (by assumption) ?_; (try simp only [Act.put, sA, sZ, sS]))
     refine rd 17 rfl (fun K hK => ?_)
     go_simp
     refine (specMarked_any mk hd0 _).mono ?_
     rintro e9 w9 ⟨rfl, hw9⟩
     subst w9
     refine hK.out _ _ hHeld (fun hHeld => ?_)
     clear hK K
     (try simp only [Act.put, sA, sZ, sS])
     (refine tk 18 rfl (by assumption) ?_; (try simp only [Act.put, sA, sZ, sS]))
     (refine tk 19 rfl (by assumption) ?_; (try simp only [Act.put, sA, sZ, sS]))
     refine wpAnyH_done (by kernel_rfl) ?_ _
     refine tailQ_run rfl rfl ?_
     go_simp
     clear hHeld
     clear d2' f2 c3 x0 x1 hbw4 K4
     generalize (Y.setCell ⟨g3, k * 3 + 2, none⟩ (.int .i64 (markedV mk hd0))).drew = Z at *
     obtain ⟨_, hga, _, _, hc2, hz2⟩ := RecAt.view encSmith_len (by omega) (uh HF5).smiths hwl.symm (by show 0 < (waitAll m1.smiths (e :: t)).length; omega)
     cases hga
     have s0 := hc2 i0 (by show i0 < (waitAll m1.smiths (e :: t)).length; omega) 0 _ rfl
     have f0 := hz2 (i0 * 11)
     have c2 := (uh K5).cell (i := 2) (v := .slice (some ⟨g2, 0, none⟩) m.smiths.length p2) rfl
     have hput3 := (uh HF5).putS hwl.symm (j := i0) (i := 0) (by show i0 < (waitAll m1.smiths (e :: t)).length; omega) (by omega) (.int .i64 3) (stS (recAt (waitAll m1.smiths (e :: t)) i0) 3) rfl
     simp only [Nat.add_zero] at s0 hput3
     have HF6 := hide hput3
     have hi1 : (i0 : Int) < (m.smiths.length : Int) := by omega
     clear hput3 hc2 hz2 HF5
     go_wp2_with fail
     refine wp_region_last (S := fun w' => w'.cell? ⟨R, 2, none⟩ = some (.slice (some ⟨g2, 0, none⟩) m.smiths.length p2) ∧ w'.cell? ⟨eb, eo + 1, none⟩ = some (.int .i64 (i0 : Int))) (by kernel_rfl) (List.cons_ne_nil _ _) (by kernel_rfl) ⟨c2, y1⟩ (fun hHeld => ?_)
     simp only [List.dropLast_cons_cons, List.dropLast_singleton, List.length_cons, List.length_nil, Nat.zero_add, Nat.reduceAdd]
     (refine tk 0 rfl (by assumption) ?_; (try simp only [Act.put, sA, sZ, sS]))
     (refine tk 1 rfl (by assumption) ?_; (try simp only [Act.put, sA, sZ, sS]))
     (refine tk 2 rfl (by assumption) ?_; (try simp only [Act.put, sA, sZ, sS]))
     (refine tk 3 rfl (by assumption) ?_; (try simp only [Act.put, sA, sZ, sS]))
     (refine tk 4 rfl (by assumption) ?_; (try simp only [Act.put, sA, sZ, sS]))
     (refine tk 5 rfl (by assumption) ?_; (try simp only [Act.put, sA, sZ, sS]))
     (refine tk 6 rfl (by assumption) ?_; (try simp only [Act.put, sA, sZ, sS]))
     (refine tk 7 rfl (by assumption) ?_; (try simp only [Act.put, sA, sZ, sS]))
     (refine tk 8 rfl (by assumption) ?_; (try simp only [Act.put, sA, sZ, sS]))
     (refine tk 9 rfl (by assumption) ?_; (try simp only [Act.put, sA, sZ, sS]))
     refine wpAnyH_done (by kernel_rfl) ?_ _
     refine tailQ_run rfl rfl ?_
     go_simp
     clear hHeld
     go_wp2_with fail
     go_roundw
     case rel => exact ⟨k + 1, by omega, by go_num, by rw [uh Hstep, uh Hcons]; exact (uh HF6).below (Below.refl _ _).drew, ((uh Tw2).trans (uh Tw3)).trans ((Two.of_set _ (.inl rfl) _ _).trans (Two.of_below (Below.refl _ _).drew))⟩
     case measure => simp [intOf]; omega
theorem FullSmy.set_off {n₀ : Nat} {w : World} {v0 v1 v2 v3 v4 : Value} {m : SmyV} {qs : List (RoomV × Value)} (h : FullSmy n₀ w v0 v1 v2 v3 v4 m qs) {g : Nat} (ho : ∀ k, (v0.ownBlock = some k ∨ (∃ q ∈ qs, q.2.ownBlock = some k) ∨ v1.ownBlock = some k ∨ v2.ownBlock = some k ∨ v3.ownBlock = some k ∨ v4.ownBlock = some k) → k ≠ g) (o : Nat) (u : Value) : FullSmy n₀ (w.setCell ⟨g, o, none⟩ u) v0 v1 v2 v3 v4 m qs := by
 have hne : ∀ k, k ≠ g → (w.setCell ⟨g, o, none⟩ u).heap[k]? = w.heap[k]? := fun k hk => heap_setCell_other w _ k u hk
 exact ⟨h.hall.same2 fun k e => hne k (ho k (by rcases e with e | e; exact .inl e; exact .inr (.inl e))), h.rooms, RecAt.same h.guilds fun k e => hne k (ho k (.inr (.inr (.inl e)))), RecAt.same h.smiths fun k e => hne k (ho k (.inr (.inr (.inr (.inl e))))), RecAt.same h.desks fun k e => hne k (ho k (.inr (.inr (.inr (.inr (.inl e)))))), RecAt.same h.paces fun k e => hne k (ho k (.inr (.inr (.inr (.inr (.inr e)))))), h.h1, h.h2, h.h3, h.h4, h.a12, h.a13, h.a14, h.a23, h.a24, h.a34⟩
theorem full_zero (n₀ : Nat) (w : World) : FullSmy n₀ w (.slice none 0 0) (.slice none 0 0) (.slice none 0 0) (.slice none 0 0) (.slice none 0 0) zeroM [] := by
 have hz : Off2 (.slice none 0 0) (.slice none 0 0) := fun b e => by cases e
 exact ⟨OwnHall.nil _ _, rfl, World.ownsRow_nil _ _ _ _, World.ownsRow_nil _ _ _ _, World.ownsRow_nil _ _ _ _, World.ownsRow_nil _ _ _ _, ⟨hz, fun q hq => by cases hq⟩, ⟨hz, fun q hq => by cases hq⟩, ⟨hz, fun q hq => by cases hq⟩, ⟨hz, fun q hq => by cases hq⟩, hz, hz, hz, hz, hz, hz⟩
theorem Two.set_new {p q : Option Nat} {w w' : World} (h : Two p q w w') {g : Nat} (hg : w.heap.size ≤ g) (o : Nat) (u : Value) : Two p q w (w'.setCell ⟨g, o, none⟩ u) :=
 ⟨h.os, h.tape, h.output, by simpa using h.size, fun i hi hp hq => (heap_setCell_other w' _ i u (by show i ≠ g; omega)).trans (h.block i hi hp hq)⟩
theorem FullSmy.lt {n₀ : Nat} {w : World} {v0 v1 v2 v3 v4 : Value} {m : SmyV} {qs : List (RoomV × Value)} (h : FullSmy n₀ w v0 v1 v2 v3 v4 m qs) {k : Nat} (e : v0.ownBlock = some k ∨ (∃ q ∈ qs, q.2.ownBlock = some k) ∨ v1.ownBlock = some k ∨ v2.ownBlock = some k ∨ v3.ownBlock = some k ∨ v4.ownBlock = some k) : n₀ ≤ k ∧ k < w.heap.size := by
 rcases e with e | e | e | e | e | e
 ·exact h.hall.lt (.inl e)
 ·exact h.hall.lt (.inr e)
 ·exact RecAt.lt h.guilds e
 ·exact RecAt.lt h.smiths e
 ·exact RecAt.lt h.desks e
 ·exact RecAt.lt h.paces e
theorem l15Done_any {w : World} {R n₀ : Nat} {v0 v1 v2 v3 v4 : Value} {m : SmyV} {qs : List (RoomV × Value)} (kb : Blk w R 32 #[v0, v1, v2, v3, v4, .int .i64 m.now]) (hf : FullSmy n₀ w v0 v1 v2 v3 v4 m qs) (h2 : v2.ownBlock ≠ some R) (h3 : v3.ownBlock ≠ some R) (hl : m.smiths.length ≤ 800) (hd : m.desks.length ≤ 1000) :
  Calls Tryz.prog 48 #[.pointer (some ⟨R, 0, none⟩)] w fun e w' => e = .returned (.tuple #[.agg #[v0, v1, v2, v3, v4, .int .i64 m.now], .int .i64 0]) ∧ FullSmy n₀ w' v0 v1 v2 v3 v4 (turnV m) qs ∧ Two v2.ownBlock v3.ownBlock w w' := by
 have hfl := fun k e => (hf.lt (k := k) e).2
 obtain ⟨a0, p0, rfl⟩ := hf.hall.shape
 obtain ⟨a1, p1, rfl⟩ := RecAt.shape hf.guilds
 obtain ⟨a2, p2, rfl⟩ := RecAt.shape hf.smiths
 obtain ⟨a3, p3, rfl⟩ := RecAt.shape hf.desks
 obtain ⟨a4, p4, rfl⟩ := RecAt.shape hf.paces
 have Kb := hide kb
 have HF := hide hf
 have H2 := hide h2
 have H3 := hide h3
 have HL := hide hfl
 have hR := kb.lt
 clear kb hf h2 h3 hfl
 go_enter Tryz.func48, Tryz.ntmps48
 go_wp2_with fail
 have Ba : Below w.heap.size w (w.alloc (.cells #[.slice none 0 0, .slice none 0 0, .slice none 0 0, .slice none 0 0, .slice none 0 0, .int .i64 0] 32)) := (Below.refl _ _).alloc (Nat.le_refl _) _
 have kz := Blk.new w 32 #[.slice none 0 0, .slice none 0 0, .slice none 0 0, .slice none 0 0, .slice none 0 0, .int .i64 0]
 refine (l12Turn_any ((uh Kb).below Ba hR) ((uh HF).below Ba) (uh H2) (uh H3) hl hd).mono ?_
 rintro e w1 ⟨rfl, hf1, ht1⟩
 have T1 := (Two.of_below Ba).trans ht1
 have kb1 := (uh Kb).two T1 (uh H2) (uh H3)
 have hnz : ∀ k, (_ ∨ _ ∨ _ ∨ _ ∨ _ ∨ _) → k ≠ w.heap.size := fun k e => by have := uh HL k e; omega
 have kz1 := kz.two ht1 (fun e => hnz _ (.inr (.inr (.inr (.inl e)))) rfl) (fun e => hnz _ (.inr (.inr (.inr (.inr (.inl e))))) rfl)
 obtain ⟨c0, c1, c2, c3, c4, c5⟩ := kb1.c6
 have o0 := kz1.cell (i := 0) (v := .slice none 0 0) rfl
 have f0 := kz1.free 0
 have o1 := kz1.cell (i := 1) (v := .slice none 0 0) rfl
 have f1 := kz1.free 1
 have o2 := kz1.cell (i := 2) (v := .slice none 0 0) rfl
 have f2 := kz1.free 2
 have o3 := kz1.cell (i := 3) (v := .slice none 0 0) rfl
 have f3 := kz1.free 3
 have o4 := kz1.cell (i := 4) (v := .slice none 0 0) rfl
 have f4 := kz1.free 4
 have o5 := kz1.cell (i := 5) (v := .int .i64 0) rfl
 have f5 := kz1.free 5
 have HF1 := hide hf1
 have TT := hide T1
 have HN := hide hnz
 clear hf1 ht1 T1 kb1 kz1 kz Ba hnz
 go_wp2_with fail
 refine bodyPost_ret (v := .tuple #[.agg #[.slice a0 qs.length p0, .slice a1 m.guilds.length p1, .slice a2 m.smiths.length p2, .slice a3 m.desks.length p3, .slice a4 m.paces.length p4, .int .i64 m.now], .int .i64 0]) (by simp [results, Tryz.results48, go_sem, *]) rfl ⟨rfl, ?_, ?_⟩
 ·iterate 6 (refine FullSmy.set_off ?_ (uh HN) _ _)
  exact uh HF1
 ·iterate 6 (refine Two.set_new ?_ (Nat.le_refl _) _ _)
  exact uh TT
theorem l15Sit_any {w : World} {R n₀ : Nat} {v0 v1 v2 v3 v4 : Value} {m : SmyV} {qs : List (RoomV × Value)} (kb : Blk w R 32 #[v0, v1, v2, v3, v4, .int .i64 m.now]) (hf : FullSmy n₀ w v0 v1 v2 v3 v4 m qs) (h2 : v2.ownBlock ≠ some R) (h3 : v3.ownBlock ≠ some R) {k : Nat} (hk : k < m.smiths.length) (b : Int) :
  Calls Tryz.prog 47 #[.pointer (some ⟨R, 0, none⟩), .int .i64 (k : Int), .int .i64 b] w fun e w' => e = .returned (.tuple #[]) ∧ FullSmy n₀ w' v0 v1 v2 v3 v4 (setS m k (2, b, (recAt m.smiths k).2.2)) qs ∧ Two v2.ownBlock v3.ownBlock w w' := by
 obtain ⟨a2, p2, rfl⟩ := RecAt.shape hf.smiths
 obtain ⟨g2, rfl, hg2, hg2w, hc2, hz2⟩ := RecAt.view encSmith_len (by omega) hf.smiths rfl (by omega)
 have s0 := hc2 k hk 0 _ rfl
 have f0 := hz2 (k * 11)
 have c2 := kb.cell (i := 2) (v := .slice (some ⟨g2, 0, none⟩) m.smiths.length p2) rfl
 have hp1 := hf.putS rfl (j := k) (i := 0) hk (by omega) (.int .i64 2) (stS (recAt m.smiths k) 2) rfl
 have hlen : (m.smiths.set k (stS (recAt m.smiths k) 2)).length = m.smiths.length := by simp
 have hs1 : recAt (m.smiths.set k (stS (recAt m.smiths k) 2)) k = stS (recAt m.smiths k) 2 := by rw [recAt_set hk, if_pos rfl]
 have hp2 := hp1.putS hlen.symm (j := k) (i := 1) (by show k < (m.smiths.set k _).length; omega) (by omega) (.int .i64 b) (2, b, (recAt m.smiths k).2.2) (by show encSmith (2, b, (recAt m.smiths k).2.2) = (encSmith (recAt (m.smiths.set k (stS (recAt m.smiths k) 2)) k)).set 1 _; rw [hs1]; rfl)
 obtain ⟨_, hga, _, _, hc3, hz3⟩ := RecAt.view encSmith_len (by omega) hp1.smiths hlen.symm (by show 0 < (m.smiths.set k _).length; omega)
 cases hga
 have s1 := hc3 k (by show k < (m.smiths.set k _).length; omega) 1 _ rfl
 have f1 := hz3 (k * 11 + 1)
 have hgR : g2 ≠ R := fun e => h2 (by rw [e]; rfl)
 have c2' := (kb.other (a := ⟨g2, k * 11, none⟩) (fun e => hgR e.symm) (.int .i64 2)).cell (i := 2) (v := .slice (some ⟨g2, 0, none⟩) m.smiths.length p2) rfl
 simp only [Nat.add_zero, List.set_set] at s0 hp1 hp2 s1 f1
 have HP2 := hide hp2
 have hk1 : (k : Int) < (m.smiths.length : Int) := by omega
 clear hc2 hz2 hc3 hz3 hp1 hp2 hf kb hs1 hlen h2 h3 hgR
 go_enter Tryz.func47, Tryz.ntmps47
 go_wp2_with fail
 go_end0
 exact ⟨rfl, uh HP2, (Two.of_set w (.inl rfl) _ _).trans (Two.of_set _ (.inl rfl) _ _)⟩
theorem l15Bad_any {w : World} {v0 v1 v2 v3 v4 : Value} {m : SmyV} (h : Smy w v0 v1 v2 v3 v4 m) :
  Calls Tryz.prog 43 #[.agg #[v0, v1, v2, v3, v4, .int .i64 m.now]] w fun e w' => e = .returned (.tuple #[.agg #[.slice none 0 0, .slice none 0 0, .slice none 0 0, .slice none 0 0, .slice none 0 0, .int .i64 0], .int .i64 3]) ∧ Below w.heap.size w w' := by
 obtain ⟨a0, p0, a1, p1, a2, p2, a3, p3, a4, p4, rfl, rfl, rfl, rfl, rfl, _, _, _, _, _, _, _, _, _, _⟩ := h.five
 clear h
 go_enter Tryz.func43, Tryz.ntmps43
 go_wp2_with fail
 exact bodyPost_ret (v := .tuple #[.agg #[.slice none 0 0, .slice none 0 0, .slice none 0 0, .slice none 0 0, .slice none 0 0, .int .i64 0], .int .i64 3]) (by simp [results, Tryz.results43, go_sem]) rfl ⟨rfl, ((Below.refl _ _).alloc (Nat.le_refl _) _).alloc (by simp) _⟩
def GotM (n₀ : Nat) (M : SmyV) (c : Int) (e : Ending) (w' : World) : Prop :=
 ∃ u0 u1 u2 u3 u4 qs, e = .returned (.tuple #[.agg #[u0, u1, u2, u3, u4, .int .i64 M.now], .int .i64 c]) ∧ FullSmy n₀ w' u0 u1 u2 u3 u4 M qs
theorem l11Who_q {w : World} {v0 v1 v2 v3 v4 : Value} {m : SmyV} {who : Int} {q : Bool} (hq : whoB m who = q) (h : Smy w v0 v1 v2 v3 v4 m) :
  Calls Tryz.prog 61 #[.agg #[v0, v1, v2, v3, v4, .int .i64 m.now], .int .i64 who] w fun e w' => e = .returned (.bool q) ∧ Below w.heap.size w w' := by
 subst hq
 obtain ⟨a0, p0, rfl, _, _⟩ := IsRooms.shape h.rooms
 obtain ⟨a1, p1, rfl, _, _⟩ := IsRec.shape h.guilds
 obtain ⟨a2, p2, rfl, hc2, hm2, r2⟩ := h.smiths
 obtain ⟨a3, p3, rfl, _, _⟩ := IsRec.shape h.desks
 obtain ⟨a4, p4, rfl, _, _⟩ := IsRec.shape h.paces
 clear h
 have Ba : Hid (Below w.heap.size w (w.alloc (.cells #[.slice a0 m.rooms.length p0, .slice a1 m.guilds.length p1, .slice a2 m.smiths.length p2, .slice a3 m.desks.length p3, .slice a4 m.paces.length p4, .int .i64 m.now] 32))) := hide ((Below.refl _ _).alloc (Nat.le_refl _) _)
 cases hi : inB who 0 ((m.smiths.length : Int) - 1)
 ·have hw : whoB m who = false := by unfold whoB; rw [hi]; rfl
  have Hi := hide hi
  rw [hw]
  clear hi hw r2
  go_enter Tryz.func61, Tryz.ntmps61
  go_wp2_with (go_at_call 56; refine (l1In_any _ _ _ _).mono ?_; rw [uh Hi]; rintro e w' ⟨rfl, h9⟩; subst w')
  go_ret
  exact ⟨rfl, uh Ba⟩
 ·obtain ⟨i0, i1⟩ := inB_of hi
  obtain ⟨k, rfl⟩ : ∃ k : Nat, who = k := ⟨who.toNat, by omega⟩
  have hk : k < m.smiths.length := by omega
  have hw : whoB m (k : Int) = !((recAt m.smiths k).1 == 0) := by unfold whoB; rw [hi]; simp
  rcases r2 with e0 | ⟨sb, off, rfl, hbw, hcl⟩
  ·rw [e0] at hk; simp at hk
  obtain ⟨d0, _⟩ := smith_cells hcl hk
  have Hi := hide hi
  rw [hw]
  clear hi hw hcl
  have hk1 : (k : Int) < (m.smiths.length : Int) := by omega
  generalize (recAt m.smiths k).1 = st at *
  go_enter Tryz.func61, Tryz.ntmps61
  go_wp2_with (go_at_call 56; refine (l1In_any _ _ _ _).mono ?_; rw [uh Hi]; rintro e w' ⟨rfl, h9⟩; subst w')
  go_ret
  exact ⟨rfl, uh Ba⟩
theorem paces_len {m : SmyV} (h : Loose m) : m.paces.length = m.rooms.length := by
 have hd := h.head
 unfold headB at hd
 simp only [Bool.and_eq_true, decide_eq_true_eq] at hd
 exact hd.2.2.2.2.1
theorem l4Force_any {w : World} {v : Value} {rs : List RoomV} (n : Int) (h : IsRooms w v rs) (h1 : isBench rs n = true) :
  Calls Tryz.prog 118 #[.agg #[v], .int .i64 n] w fun e w' => e = .returned (.int .i64 (lastForce (roomAt rs (roomN rs n)).2)) ∧ Below w.heap.size w w' := by
 have Hv := hide h
 obtain ⟨a, cap, rfl, hc, hm⟩ : ∃ a cap, v = .slice a rs.length cap ∧ rs.length ≤ cap ∧ cap ≤ 9223372036854775807 := by obtain ⟨a, cap, rfl, hc, hm, _⟩ := h; exact ⟨a, cap, rfl, hc, hm⟩
 clear h
 have hlt := room_found h1
 have Hh := hide (isBench_of h1).1
 have H1 := hide h1
 have hl3 : rs.length ≤ 3 := (hallB_of (isBench_of h1).1).2.1
 clear h1
 have hw1 := (uh Hv).alloc (.cells #[.slice a rs.length cap] 26)
 have Hw1 := hide hw1
 obtain ⟨b, off, a', cap', rfl, hbw, d1, p1, p4, sp, hbw', d2⟩ := room_at hw1 hlt (uh Hh)
 obtain ⟨b', off', sp'⟩ := a'
 simp only at sp hbw' d2
 subst sp
 clear hw1
 have k0 := cell_regrown (w := w.alloc (.cells #[.slice (some ⟨b, off, none⟩) rs.length cap] 26)) (a := ⟨w.heap.size, 0, none⟩) (v := .slice (some ⟨b, off, none⟩) rs.length cap) (by simp)
 have k1 := cell_regrown d1
 have k2 := cell_regrown d2
 clear d1 d2
 go_enter Tryz.func118, Tryz.ntmps118
 go_wp2_with fail
 refine wp_region_quiet_below (by kernel_rfl) (by kernel_rfl) ?_
 repeat (go_big_quiet_step (exact Calls.regrown_of (l4Room_any n ((uh Hw1).below (below_regrown _ _ _)) (uh H1))))
 refine wpQuiet_nil ?_
 intro _ hw'
 obtain ⟨⟨dq, osq⟩, hw''⟩ := hw'
 subst hw''
 generalize hr1 : roomN rs n = r at *
 generalize hr2 : lastForce (roomAt rs r).2 = fo at *
 generalize (roomAt rs r).2.length = m at *
 have Hr1 := hide hr1
 have Hr2 := hide hr2
 clear hr1 hr2
 go_wp2_with fail
 go_ret
 exact ⟨ret_int (by rw [uh Hr1, uh Hr2]), ((Below.refl _ _).alloc (Nat.le_refl _) _).trans ((below_regrown _ _ _).mono (by simp))⟩
end Go.Proofs.YthbbahagpmdooaaGreatDoor
