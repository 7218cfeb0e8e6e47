/- Part 12 of what the proof rests on. No condition but those that a theorem names. -/
import Derived.Test.YtffcgajndmhpkaaGreatDoorXe11
set_option maxHeartbeats 8000000
set_option maxRecDepth 100000
namespace Go.Proofs.YtffcgajndmhpkaaGreatDoor
open Go.ChangeShapes Go.WideShapes Go.ChangeAt Go.RowKit Go.Sort
set_option linter.unusedVariables false
set_option linter.unusedSimpArgs false
theorem Two.ents {p q : Option Nat} {w w' : World} {B : Nat} {v : Value} {ps : List PaceV} (h : EntsAt B w v ps) (ht : Two p q w w') (hp : ∀ k, p = some k → k < B) (hq : ∀ k, q = some k → k < B) : EntsAt B w' v ps :=
 EntsAt.same h fun k e => ht.block k (h.lt e).2 (fun e' => by have := hp k e'; have := (h.lt e).1; omega) (fun e' => by have := hq k e'; have := (h.lt e).1; omega)
theorem Two.cell {p q : Option Nat} {w w' : World} (h : Two p q w w') {a : Addr} (ha : a.block < w.heap.size) (hp : p ≠ some a.block) (hq : q ≠ some a.block) : w'.cell? a = w.cell? a := World.cell?_of_block (w := w) (h.block a.block ha hp hq)
theorem take_one {q : List PaceV} {j : Nat} (hj : j < q.length) : q.take (j + 1) = q.take j ++ [paceAt q j] := by
 rw [List.take_succ_eq_append_getElem hj]; unfold paceAt; simp [List.getD, hj]
theorem turnB_nil {m : SmyV} {b : Nat} (h : atV m.smiths b m.smiths.length = []) : turnB m b = { m with desks := m.desks.set b ((recAt m.desks b).1, -1, (recAt m.desks b).2.2) } := by
 unfold turnB; rw [h]
theorem turnB_cons {m : SmyV} {b : Nat} {e : PaceV} {t : List PaceV} (h : atV m.smiths b m.smiths.length = e :: t) : turnB m b = { m with smiths := (waitAll m.smiths (e :: t)).set e.2.toNat (stS (recAt (waitAll m.smiths (e :: t)) e.2.toNat) 3), desks := m.desks.set b ((recAt m.desks b).1, e.2, markedV (recAt m.desks b).2.2 e.1) } := by
 unfold turnB; rw [h]
theorem l12Turn_any {w : World} {R n₀ : Nat} {v0 v1 v2 v3 v4 : Value} {m : SmyV} {qs : List (RoomV × Value)} (kb : Blk w R 32 #[v0, v1, v2, v3, v4, .int .i64 m.now]) (hf : FullSmy n₀ w v0 v1 v2 v3 v4 m qs) (h2 : v2.ownBlock ≠ some R) (h3 : v3.ownBlock ≠ some R) (hl : m.smiths.length ≤ 800) (hd : m.desks.length ≤ 1000) :
  Calls Tryz.prog 60 #[.pointer (some ⟨R, 0, none⟩)] w fun e w' => e = .returned (.tuple #[]) ∧ FullSmy n₀ w' v0 v1 v2 v3 v4 (turnV m) qs ∧ Two v2.ownBlock v3.ownBlock w w' := by
 obtain ⟨a2, p2, rfl⟩ := RecAt.shape hf.smiths
 obtain ⟨a3, p3, rfl⟩ := RecAt.shape hf.desks
 by_cases hnd : m.desks.length = 0
 ·have hz : turnV m = m := by unfold turnV; rw [hnd]; rfl
  have c3 := kb.cell (i := 3) (v := .slice a3 m.desks.length p3) rfl
  have HF := hide hf
  rw [hz]
  have hz0 : ¬ (0 : Int) < (m.desks.length : Int) := by omega
  clear hz hf kb hnd
  go_enter Tryz.func60, Tryz.ntmps60
  go_wp2_with fail
  go_loopw [2] (fun i wr => i = .int .i64 0 ∧ wr = w) (fun i _ => 0)
  case atStart => exact ⟨rfl, rfl⟩
  case round =>
   obtain ⟨rfl, hwr⟩ := hrel
   subst hwr
   go_wp2_with fail
   go_end0
   exact ⟨rfl, uh HF, Two.refl _ _ _⟩
 obtain ⟨g3, rfl, hg3, hg3w, _, _⟩ := RecAt.view encDesk_len (by omega) hf.desks rfl (by omega)
 have Kb := hide kb
 have H2 := hide h2
 have H3 : Hid (g3 ≠ R) := hide (fun e => h3 (by rw [e]; rfl))
 have HF := hide hf
 have L2 : Hid (∀ i, (Value.slice a2 m.smiths.length p2).ownBlock = some i → i < w.heap.size) := hide (fun i e => (RecAt.lt hf.smiths e).2)
 clear kb h2 h3 hf
 go_enter Tryz.func60, Tryz.ntmps60
 go_wp2_with fail
 go_loopw [2] (fun i wr => ∃ k : Nat, k ≤ m.desks.length ∧ i = .int .i64 k ∧ FullSmy n₀ wr v0 v1 (.slice a2 m.smiths.length p2) (.slice (some ⟨g3, 0, none⟩) m.desks.length p3) v4 (turnK m k) qs ∧ Two (Value.slice a2 m.smiths.length p2).ownBlock (some g3) w wr) (fun i _ => m.desks.length - (intOf i).toNat)
 case atStart => exact ⟨0, Nat.zero_le _, rfl, uh HF, Two.refl _ _ _⟩
 case round =>
  obtain ⟨k, hk, rfl, hf1, htw⟩ := hrel
  obtain ⟨e1, e2, e3, e4, e5, e6⟩ := turnK_same m k
  have Tw := hide htw
  have hgw : g3 < wr.heap.size := Nat.lt_of_lt_of_le hg3w htw.size
  have hszr := htw.size
  have hkb1 := (uh Kb).two htw (uh H2) (fun e => uh H3 (by cases e; rfl))
  have K1 := hide hkb1
  clear htw hkb1
  by_cases hlt : k < m.desks.length
  rotate_left
  ·obtain rfl : k = m.desks.length := by omega
   have c3 := (uh K1).cell (i := 3) (v := .slice (some ⟨g3, 0, none⟩) m.desks.length p3) rfl
   have hno : ¬ ((m.desks.length : Nat) : Int) < (m.desks.length : Int) := by omega
   have HF1 := hide hf1
   clear hf1
   go_wp2_with fail
   go_end0
   exact ⟨rfl, uh HF1, uh Tw⟩
  have hstep : turnK m (k + 1) = turnB (turnK m k) k := rfl
  generalize turnK m k = m1 at *
  have Hstep := hide hstep
  clear hstep
  obtain ⟨c0, c1, c2, c3, c4, c5⟩ := (uh K1).c6
  have hat := l11At_any (k : Int) hf1.smy (by rw [e5]; exact hl)
  rw [e4, e5] at hat
  have Hat := hide hat
  have HF1 := hide hf1
  clear hat hf1
  go_wp2_with fail
  refine (uh Hat).mono ?_
  rintro e w1 ⟨v', rfl, he, hb⟩
  clear c0 c1 c2 c3 c4 c5 Hat
  have hmem := atV_mem m1.smiths (k : Int)
  have hlq := atV_len m1.smiths (k : Int) m.smiths.length
  have HN : Hid (atV m1.smiths (k : Int) m.smiths.length = [] → turnB m1 k = { m1 with desks := m1.desks.set k ((recAt m1.desks k).1, -1, (recAt m1.desks k).2.2) }) := hide (fun h => turnB_nil (by rw [e5]; exact h))
  have HC : Hid (∀ e t, atV m1.smiths (k : Int) m.smiths.length = e :: t → turnB m1 k = { m1 with smiths := (waitAll m1.smiths (e :: t)).set e.2.toNat (stS (recAt (waitAll m1.smiths (e :: t)) e.2.toNat) 3), desks := m1.desks.set k ((recAt m1.desks k).1, e.2, markedV (recAt m1.desks k).2.2 e.1) }) := hide (fun e t h => turnB_cons (by rw [e5]; exact h))
  have hmq : ∀ x ∈ atV m1.smiths (k : Int) m.smiths.length, ∃ j : Nat, j < m.smiths.length ∧ x.2 = (j : Int) := fun x hx => by
   obtain ⟨j, hj, _, _, rfl⟩ := (hmem x m.smiths.length).1 hx
   exact ⟨j, hj, rfl⟩
  have Hm := hide hmq
  clear hmem hmq
  generalize atV m1.smiths (k : Int) m.smiths.length = q at *
  obtain ⟨qa, qc, rfl⟩ := EntsAt.shape he
  have HE := hide he
  replace HF1 := hide ((uh HF1).below hb)
  replace K1 := bl K1 hb
  replace Tw := hide ((uh Tw).trans (Two.of_below hb))
  have hgw1 : g3 < w1.heap.size := Nat.lt_of_lt_of_le hgw hb.size
  have hwr1 := hb.size
  clear he hb
  obtain ⟨⟨o, wh, mk⟩, hrk⟩ : ∃ d, recAt m1.desks k = d := ⟨_, rfl⟩
  rw [hrk] at HN HC
  simp only at HN HC
  have Hrk := hide hrk
  have hkd : k < m1.desks.length := by omega
  have hset : ∀ d, recAt (m1.desks.set k d) k = d := fun d => by rw [recAt_set hkd, if_pos rfl]
  have Hset := hide hset
  clear hset
  obtain ⟨_, hga, _, _, hc3, hz3⟩ := RecAt.view encDesk_len (by omega) (uh HF1).desks e6.symm (by omega)
  cases hga
  have d1 := hc3 k (by omega) 1 _ rfl
  rw [hrk] at d1
  have f1 := hz3 (k * 3 + 1)
  have c3 := (uh K1).cell (i := 3) (v := .slice (some ⟨g3, 0, none⟩) m.desks.length p3) rfl
  have hput := (uh HF1).putD e6.symm (j := k) (i := 1) (by omega) (by omega) (.int .i64 (-1)) (o, -1, mk) (by rw [hrk]; rfl)
  have HF2 := hide hput
  have hns : Two (Value.slice a2 m.smiths.length p2).ownBlock (some g3) w1 (w1.setCell ⟨g3, k * 3 + 1, none⟩ (.int .i64 (-1))) := Two.of_set w1 (.inr rfl) _ _
  have K2 := hide ((uh K1).two hns (uh H2) (fun e => uh H3 (by cases e; rfl)))
  have Tw2 := hide ((uh Tw).trans hns)
  have hlow2 : ∀ i, (Value.slice a2 m.smiths.length p2).ownBlock = some i → i < wr.heap.size := fun i e => Nat.lt_of_lt_of_le (uh L2 i e) hszr
  have Low2 := hide hlow2
  have HE2 := hide (Two.ents (uh HE) hns hlow2 (fun i e => by cases e; exact hgw))
  clear hput hns hlow2 hc3 hz3 hrk
  go_upto_region 5 with fail
  clear d1 f1 c3 K1 Tw HE HF1
  generalize w1.setCell ⟨g3, k * 3 + 1, none⟩ (.int .i64 (-1)) = X at *
  have hsm : ∀ i, i ∈ [0] → True := fun _ _ => trivial
  clear hsm
  go_wp2_with fail
  go_loopw [4] (fun i wi => ∃ j : Nat, j ≤ q.length ∧ i = .int .i64 j ∧ FullSmy n₀ wi v0 v1 (.slice a2 m.smiths.length p2) (.slice (some ⟨g3, 0, none⟩) m.desks.length p3) v4 { m1 with smiths := waitAll m1.smiths (q.take j), desks := m1.desks.set k (o, -1, mk) } qs ∧ Two (Value.slice a2 m.smiths.length p2).ownBlock (some g3) X wi) (fun i _ => q.length - (intOf i).toNat)
  case atStart => exact ⟨0, Nat.zero_le _, rfl, by simpa [waitAll] using uh HF2, Two.refl _ _ _⟩
  case round =>
   obtain ⟨wi, rfl⟩ : ∃ x, x = wr := ⟨wr, rfl⟩
   obtain ⟨j, hj, rfl, hf3, htw3⟩ := hrel
   have HF3 := hide hf3
   have Tw3 := hide htw3
   have K3 := hide ((uh K2).two htw3 (uh H2) (fun e => uh H3 (by cases e; rfl)))
   have HE3 := hide (Two.ents (uh HE2) htw3 (uh Low2) (fun i e => by cases e; exact hgw))
   clear hf3 htw3
   by_cases hjl : j < q.length
   ·obtain ⟨_, _, hqe, _, _, hr⟩ := EntsAt.paces (uh HE3)
    cases hqe
    rcases hr with e0 | ⟨eb, eo, rfl, hbw, hcl⟩
    ·rw [e0] at hjl; simp at hjl
    obtain ⟨c0, c1⟩ := hcl j hjl
    obtain ⟨i0, hi0, hie⟩ := uh Hm _ (paceAt_mem hjl)
    rw [hie] at c1
    have Htk : Hid (waitAll m1.smiths (q.take (j + 1)) = (waitAll m1.smiths (q.take j)).set i0 (stS (recAt (waitAll m1.smiths (q.take j)) i0) 2)) := hide (by rw [take_one hjl, waitAll_snoc, hie]; simp)
    have hwl : (waitAll m1.smiths (q.take j)).length = m.smiths.length := by rw [waitAll_len, e5]
    obtain ⟨g2, rfl, hg2, hg2w, hc2, hz2⟩ := RecAt.view encSmith_len (by omega) (uh HF3).smiths hwl.symm (by show 0 < (waitAll m1.smiths (q.take j)).length; omega)
    have s0 := hc2 i0 (by show i0 < (waitAll m1.smiths (q.take j)).length; omega) 0 _ rfl
    have f0 := hz2 (i0 * 11)
    have hput := (uh HF3).putS hwl.symm (j := i0) (i := 0) (by show i0 < (waitAll m1.smiths (q.take j)).length; omega) (by omega) (.int .i64 2) (stS (recAt (waitAll m1.smiths (q.take j)) i0) 2) rfl
    simp only [Nat.add_zero] at s0 hput
    have HF4 := hide hput
    have c2 := (uh K3).cell (i := 2) (v := .slice (some ⟨g2, 0, none⟩) m.smiths.length p2) rfl
    clear hcl hc2 hz2 hput hie c0 hwl
    have hi1 : (i0 : Int) < (m.smiths.length : Int) := by omega
    go_wp2_with fail
    refine wp_region_last (S := fun w' => w'.cell? ⟨R, 2, none⟩ = some (.slice (some ⟨g2, 0, none⟩) m.smiths.length p2) ∧ w'.cell? ⟨eb, eo + j * 2 + 1, none⟩ = some (.int .i64 (i0 : Int))) (by kernel_rfl) (List.cons_ne_nil _ _) (by kernel_rfl) ⟨c2, c1⟩ (fun hHeld => ?_)
    simp only [List.dropLast_cons_cons, List.dropLast_singleton, List.length_cons, List.length_nil, Nat.zero_add, Nat.reduceAdd]
    (refine tq 0 ?_; (try simp only [Act.put, sA, sZ, sS]))
    (refine tq 1 ?_; (try simp only [Act.put, sA, sZ, sS]))
    (refine tq 2 ?_; (try simp only [Act.put, sA, sZ, sS]))
    (refine tq 3 ?_; (try simp only [Act.put, sA, sZ, sS]))
    (refine tq 4 ?_; (try simp only [Act.put, sA, sZ, sS]))
    (refine tq 5 ?_; (try simp only [Act.put, sA, sZ, sS]))
    (refine tq 6 ?_; (try simp only [Act.put, sA, sZ, sS]))
    (refine tq 7 ?_; (try simp only [Act.put, sA, sZ, sS]))
    (refine tq 8 ?_; (try simp only [Act.put, sA, sZ, sS]))
    (refine tq 9 ?_; (try simp only [Act.put, sA, sZ, sS]))
    (refine tq 10 ?_; (try simp only [Act.put, sA, sZ, sS]))
    refine wpAnyH_done (by kernel_rfl) ?_ _
    refine tailQ_run rfl rfl ?_
    go_simp
    clear hHeld
    go_wp2_with fail
    go_roundw
    case rel => exact ⟨j + 1, by omega, by go_num, by rw [uh Htk]; exact (uh HF4).below (Below.refl _ _).drew, ((uh Tw3).trans (Two.of_set _ (.inl rfl) _ _)).trans (Two.of_below (Below.refl _ _).drew)⟩
    case measure => exact ms
   ·obtain rfl : j = q.length := by omega
    rw [List.take_length] at HF3
    cases q with
    | nil =>
     clear HC
     go_wp2_with fail
     go_roundw
     case rel => exact ⟨k + 1, by omega, by go_num, by rw [uh Hstep, uh HN rfl]; exact uh HF3, (uh Tw2).trans (uh Tw3)⟩
     case measure => exact ms
    | cons e t =>
     obtain ⟨_, _, hqe, _, _, hr⟩ := EntsAt.paces (uh HE3)
     cases hqe
     rcases hr with e0 | ⟨eb, eo, rfl, hbw, hcl⟩
     ·cases e0
     obtain ⟨c0, c1⟩ := hcl 0 (by simp)
     obtain ⟨i0, hi0, hie⟩ := uh Hm e (by simp)
     have hp0 : paceAt (e :: t) 0 = e := rfl
     rw [hp0] at c0 c1
     rw [hie] at c1
     simp only [Nat.zero_mul, Nat.add_zero] at c0 c1
     have hcons := uh HC e t rfl
     rw [hie] at hcons
     simp only [show ((i0 : Int)).toNat = i0 by simp] at hcons
     have Hcons := hide hcons
     obtain ⟨hd0, hhd⟩ : ∃ x, e.1 = x := ⟨_, rfl⟩
     rw [hhd] at c0 Hcons
     clear hcons hhd hie hp0 hcl HN HC
     have hwl : (waitAll m1.smiths (e :: t)).length = m.smiths.length := by rw [waitAll_len, e5]
     obtain ⟨g2, rfl, hg2, hg2w, _, _⟩ := RecAt.view encSmith_len (by omega) (uh HF3).smiths hwl.symm (by show 0 < (waitAll m1.smiths (e :: t)).length; omega)
     have hD1 : (m1.desks.set k (o, -1, mk)).length = m.desks.length := by simp [e6]
     have hD2 : ∀ d, (m1.desks.set k d).length = m.desks.length := fun d => by simp [e6]
     have heb := (EntsAt.lt (uh HE3) (k := eb) rfl).1
     have hg2r := uh Low2 g2 rfl
     have hlen : (e :: t).length = t.length + 1 := rfl
     have hlpos : (0 : Int) < ((t.length + 1 : Nat) : Int) := by omega
     rw [hlen] at *
     obtain ⟨_, hga, _, _, hcd, hzd⟩ := RecAt.view encDesk_len (by omega) (uh HF3).desks hD1.symm (by show 0 < (m1.desks.set k (o, -1, mk)).length; omega)
     cases hga
     have d1 := hcd k (by show k < (m1.desks.set k (o, -1, mk)).length; omega) 1 _ rfl
     have f1 := hzd (k * 3 + 1)
     have c3 := (uh K3).cell (i := 3) (v := .slice (some ⟨g3, 0, none⟩) m.desks.length p3) rfl
     have hne2 : (Value.slice (some ⟨g2, 0, none⟩) m.smiths.length p2).ownBlock ≠ some eb := fun e9 => by have e8 : g2 = eb := Option.some.inj e9; omega
     have hne3 : (some g3 : Option Nat) ≠ some eb := fun e9 => by have e8 : g3 = eb := Option.some.inj e9; omega
     have hput1 := (uh HF3).putD hD1.symm (j := k) (i := 1) (by show k < (m1.desks.set k (o, -1, mk)).length; omega) (by omega) (.int .i64 (i0 : Int)) (o, (i0 : Int), mk) (by show encDesk (o, (i0 : Int), mk) = (encDesk (recAt (m1.desks.set k (o, -1, mk)) k)).set 1 _; rw [uh Hset]; rfl)
     simp only [List.set_set] at hput1
     have HF4 : Hid (FullSmy n₀ (wi.setCell ⟨g3, k * 3 + 1, none⟩ (.int .i64 (i0 : Int))).drew v0 v1 (.slice (some ⟨g2, 0, none⟩) m.smiths.length p2) (.slice (some ⟨g3, 0, none⟩) m.desks.length p3) v4 { m1 with smiths := waitAll m1.smiths (e :: t), desks := m1.desks.set k (o, (i0 : Int), mk) } qs) := hide (hput1.below (Below.refl _ _).drew)
     have T4 : Two (Value.slice (some ⟨g2, 0, none⟩) m.smiths.length p2).ownBlock (some g3) wi (wi.setCell ⟨g3, k * 3 + 1, none⟩ (.int .i64 (i0 : Int))).drew := (Two.of_set wi (.inr rfl) _ _).trans (Two.of_below (Below.refl _ _).drew)
     have K4 := hide ((uh K3).two T4 (uh H2) (fun e9 => uh H3 (by cases e9; rfl)))
     have x0 := (T4.cell (a := ⟨eb, eo, none⟩) hbw hne2 hne3).trans c0
     have x1 := (T4.cell (a := ⟨eb, eo + 1, none⟩) hbw hne2 hne3).trans c1
     have hbw4 : eb < ((wi.setCell ⟨g3, k * 3 + 1, none⟩ (.int .i64 (i0 : Int))).drew).heap.size := Nat.lt_of_lt_of_le hbw T4.size
     replace Tw3 := hide ((uh Tw3).trans T4)
     clear hput1 T4 hcd hzd HE3 HF3
     go_wp2_with fail
     refine wp_region_last (S := fun w' => w'.cell? ⟨R, 3, none⟩ = some (.slice (some ⟨g3, 0, none⟩) m.desks.length p3) ∧ w'.cell? ⟨eb, eo + 1, none⟩ = some (.int .i64 (i0 : Int))) (by kernel_rfl) (List.cons_ne_nil _ _) (by kernel_rfl) ⟨c3, c1⟩ (fun hHeld => ?_)
     simp only [List.dropLast_cons_cons, List.dropLast_singleton, List.length_cons, List.length_nil, Nat.zero_add, Nat.reduceAdd]
     (refine tq 0 ?_; (try simp only [Act.put, sA, sZ, sS]))
     (refine tq 1 ?_; (try simp only [Act.put, sA, sZ, sS]))
     (refine tq 2 ?_; (try simp only [Act.put, sA, sZ, sS]))
     (refine tq 3 ?_; (try simp only [Act.put, sA, sZ, sS]))
     (refine tq 4 ?_; (try simp only [Act.put, sA, sZ, sS]))
     (refine tq 5 ?_; (try simp only [Act.put, sA, sZ, sS]))
     (refine tq 6 ?_; (try simp only [Act.put, sA, sZ, sS]))
     (refine tq 7 ?_; (try simp only [Act.put, sA, sZ, sS]))
     (refine tq 8 ?_; (try simp only [Act.put, sA, sZ, sS]))
     (refine tq 9 ?_; (try simp only [Act.put, sA, sZ, sS]))
     (refine tq 10 ?_; (try simp only [Act.put, sA, sZ, sS]))
     refine wpAnyH_done (by kernel_rfl) ?_ _
     refine tailQ_run rfl rfl ?_
     go_simp
     clear hHeld
     clear d1 f1 c3 c0 c1 hbw K3
     generalize (wi.setCell ⟨g3, k * 3 + 1, none⟩ (.int .i64 (i0 : Int))).drew = Y at *
     obtain ⟨_, hga, _, _, hcd, hzd⟩ := RecAt.view encDesk_len (by omega) (uh HF4).desks (hD2 _).symm (by show 0 < (m1.desks.set k _).length; rw [hD2]; omega)
     cases hga
     have d2 := hcd k (by show k < (m1.desks.set k _).length; rw [hD2]; omega) 2 _ rfl
     have d2' : Y.cell? ⟨g3, k * 3 + 2, none⟩ = some (.int .i64 mk) := by
      have h9 : recAt (m1.desks.set k (o, (i0 : Int), mk)) k = (o, (i0 : Int), mk) := uh Hset _
      rw [show (({ m1 with smiths := waitAll m1.smiths (e :: t), desks := m1.desks.set k (o, (i0 : Int), mk) } : SmyV)).desks = m1.desks.set k (o, (i0 : Int), mk) from rfl, h9] at d2
      exact d2
     have f2 := hzd (k * 3 + 2)
     have c3 := (uh K4).cell (i := 3) (v := .slice (some ⟨g3, 0, none⟩) m.desks.length p3) rfl
     have hput2 := (uh HF4).putD (hD2 _).symm (j := k) (i := 2) (by show k < (m1.desks.set k _).length; rw [hD2]; omega) (by omega) (.int .i64 (markedV mk hd0)) (o, (i0 : Int), markedV mk hd0) (by show encDesk (o, (i0 : Int), markedV mk hd0) = (encDesk (recAt (m1.desks.set k (o, (i0 : Int), mk)) k)).set 2 _; rw [uh Hset]; rfl)
     simp only [List.set_set] at hput2
     have HF5 : Hid (FullSmy n₀ (Y.setCell ⟨g3, k * 3 + 2, none⟩ (.int .i64 (markedV mk hd0))).drew v0 v1 (.slice (some ⟨g2, 0, none⟩) m.smiths.length p2) (.slice (some ⟨g3, 0, none⟩) m.desks.length p3) v4 { m1 with smiths := waitAll m1.smiths (e :: t), desks := m1.desks.set k (o, (i0 : Int), markedV mk hd0) } qs) := hide (hput2.below (Below.refl _ _).drew)
     have T5 : Two (Value.slice (some ⟨g2, 0, none⟩) m.smiths.length p2).ownBlock (some g3) Y (Y.setCell ⟨g3, k * 3 + 2, none⟩ (.int .i64 (markedV mk hd0))).drew := (Two.of_set Y (.inr rfl) _ _).trans (Two.of_below (Below.refl _ _).drew)
     have K5 := hide ((uh K4).two T5 (uh H2) (fun e9 => uh H3 (by cases e9; rfl)))
     have y1 := (T5.cell (a := ⟨eb, eo + 1, none⟩) hbw4 hne2 hne3).trans x1
     replace Tw3 := hide ((uh Tw3).trans T5)
     clear hput2 T5 hcd hzd HF4 d2
     go_wp2_with fail
     refine wp_region_last (S := fun w' => w'.cell? ⟨R, 3, none⟩ = some (.slice (some ⟨g3, 0, none⟩) m.desks.length p3) ∧ w'.cell? ⟨g3, k * 3 + 2, none⟩ = some (.int .i64 mk) ∧ w'.cell? ⟨eb, eo, none⟩ = some (.int .i64 hd0)) (by kernel_rfl) (List.cons_ne_nil _ _) (by kernel_rfl) ⟨c3, d2', x0⟩ (fun hHeld => ?_)
     simp only [List.dropLast_cons_cons, List.dropLast_singleton, List.length_cons, List.length_nil, Nat.zero_add, Nat.reduceAdd]
     (refine tq 0 ?_; (try simp only [Act.put, sA, sZ, sS]))
     (refine tq 1 ?_; (try simp only [Act.put, sA, sZ, sS]))
     (refine tq 2 ?_; (try simp only [Act.put, sA, sZ, sS]))
     (refine tq 3 ?_; (try simp only [Act.put, sA, sZ, sS]))
     (refine tq 4 ?_; (try simp only [Act.put, sA, sZ, sS]))
     (refine tq 5 ?_; (try simp only [Act.put, sA, sZ, sS]))
     (refine tq 6 ?_; (try simp only [Act.put, sA, sZ, sS]))
     (refine tq 7 ?_; (try simp only [Act.put, sA, sZ, sS]))
     (refine tq 8 ?_; (try simp only [Act.put, sA, sZ, sS]))
     (refine tq 9 ?_; (try simp only [Act.put, sA, sZ, sS]))
     (refine tq 10 ?_; (try simp only [Act.put, sA, sZ, sS]))
     (refine tq 11 ?_; (try simp only [Act.put, sA, sZ, sS]))
     (refine tq 12 ?_; (try simp only [Act.put, sA, sZ, sS]))
     (refine tq 13 ?_; (try simp only [Act.put, sA, sZ, sS]))
     (refine tq 14 ?_; (try simp only [Act.put, sA, sZ, sS]))
     (refine tq 15 ?_; (try simp only [Act.put, sA, sZ, sS]))
     (refine tq 16 ?_; (try simp only [Act.put, sA, sZ, sS]))
     refine rd 17 rfl (fun K hK => ?_)
     go_simp
     refine ck (specMarked_any mk hd0 _) fun w9 hw9 => ?_
     subst w9
     refine hK.out _ _ hHeld (fun hHeld => ?_)
     clear hK K
     (try simp only [Act.put, sA, sZ, sS])
     (refine tq 18 ?_; (try simp only [Act.put, sA, sZ, sS]))
     (refine tq 19 ?_; (try simp only [Act.put, sA, sZ, sS]))
     refine wpAnyH_done (by kernel_rfl) ?_ _
     refine tailQ_run rfl rfl ?_
     go_simp
     clear hHeld
     clear d2' f2 c3 x0 x1 hbw4 K4
     generalize (Y.setCell ⟨g3, k * 3 + 2, none⟩ (.int .i64 (markedV mk hd0))).drew = Z at *
     obtain ⟨_, hga, _, _, hc2, hz2⟩ := RecAt.view encSmith_len (by omega) (uh HF5).smiths hwl.symm (by show 0 < (waitAll m1.smiths (e :: t)).length; omega)
     cases hga
     have s0 := hc2 i0 (by show i0 < (waitAll m1.smiths (e :: t)).length; omega) 0 _ rfl
     have f0 := hz2 (i0 * 11)
     have c2 := (uh K5).cell (i := 2) (v := .slice (some ⟨g2, 0, none⟩) m.smiths.length p2) rfl
     have hput3 := (uh HF5).putS hwl.symm (j := i0) (i := 0) (by show i0 < (waitAll m1.smiths (e :: t)).length; omega) (by omega) (.int .i64 3) (stS (recAt (waitAll m1.smiths (e :: t)) i0) 3) rfl
     simp only [Nat.add_zero] at s0 hput3
     have HF6 := hide hput3
     have hi1 : (i0 : Int) < (m.smiths.length : Int) := by omega
     clear hput3 hc2 hz2 HF5
     go_wp2_with fail
     refine wp_region_last (S := fun w' => w'.cell? ⟨R, 2, none⟩ = some (.slice (some ⟨g2, 0, none⟩) m.smiths.length p2) ∧ w'.cell? ⟨eb, eo + 1, none⟩ = some (.int .i64 (i0 : Int))) (by kernel_rfl) (List.cons_ne_nil _ _) (by kernel_rfl) ⟨c2, y1⟩ (fun hHeld => ?_)
     simp only [List.dropLast_cons_cons, List.dropLast_singleton, List.length_cons, List.length_nil, Nat.zero_add, Nat.reduceAdd]
     (refine tq 0 ?_; (try simp only [Act.put, sA, sZ, sS]))
     (refine tq 1 ?_; (try simp only [Act.put, sA, sZ, sS]))
     (refine tq 2 ?_; (try simp only [Act.put, sA, sZ, sS]))
     (refine tq 3 ?_; (try simp only [Act.put, sA, sZ, sS]))
     (refine tq 4 ?_; (try simp only [Act.put, sA, sZ, sS]))
     (refine tq 5 ?_; (try simp only [Act.put, sA, sZ, sS]))
     (refine tq 6 ?_; (try simp only [Act.put, sA, sZ, sS]))
     (refine tq 7 ?_; (try simp only [Act.put, sA, sZ, sS]))
     (refine tq 8 ?_; (try simp only [Act.put, sA, sZ, sS]))
     (refine tq 9 ?_; (try simp only [Act.put, sA, sZ, sS]))
     refine wpAnyH_done (by kernel_rfl) ?_ _
     refine tailQ_run rfl rfl ?_
     go_simp
     clear hHeld
     go_wp2_with fail
     go_roundw
     case rel => exact ⟨k + 1, by omega, by go_num, by rw [uh Hstep, uh Hcons]; exact (uh HF6).below (Below.refl _ _).drew, ((uh Tw2).trans (uh Tw3)).trans ((Two.of_set _ (.inl rfl) _ _).trans (Two.of_below (Below.refl _ _).drew))⟩
     case measure => exact ms
theorem FullSmy.set_off {n₀ : Nat} {w : World} {v0 v1 v2 v3 v4 : Value} {m : SmyV} {qs : List (RoomV × Value)} (h : FullSmy n₀ w v0 v1 v2 v3 v4 m qs) {g : Nat} (ho : ∀ k, (v0.ownBlock = some k ∨ (∃ q ∈ qs, q.2.ownBlock = some k) ∨ v1.ownBlock = some k ∨ v2.ownBlock = some k ∨ v3.ownBlock = some k ∨ v4.ownBlock = some k) → k ≠ g) (o : Nat) (u : Value) : FullSmy n₀ (w.setCell ⟨g, o, none⟩ u) v0 v1 v2 v3 v4 m qs := by
 have hne : ∀ k, k ≠ g → (w.setCell ⟨g, o, none⟩ u).heap[k]? = w.heap[k]? := fun k hk => heap_setCell_other w _ k u hk
 exact ⟨h.hall.same2 fun k e => hne k (ho k (by rcases e with e | e; exact .inl e; exact .inr (.inl e))), h.rooms, RecAt.same h.guilds fun k e => hne k (ho k (.inr (.inr (.inl e)))), RecAt.same h.smiths fun k e => hne k (ho k (.inr (.inr (.inr (.inl e))))), RecAt.same h.desks fun k e => hne k (ho k (.inr (.inr (.inr (.inr (.inl e)))))), RecAt.same h.paces fun k e => hne k (ho k (.inr (.inr (.inr (.inr (.inr e)))))), h.h1, h.h2, h.h3, h.h4, h.a12, h.a13, h.a14, h.a23, h.a24, h.a34⟩
theorem full_zero (n₀ : Nat) (w : World) : FullSmy n₀ w (.slice none 0 0) (.slice none 0 0) (.slice none 0 0) (.slice none 0 0) (.slice none 0 0) zeroM [] := by
 have hz : Off2 (.slice none 0 0) (.slice none 0 0) := fun b e => by cases e
 exact ⟨OwnHall.nil _ _, rfl, World.ownsRow_nil _ _ _ _, World.ownsRow_nil _ _ _ _, World.ownsRow_nil _ _ _ _, World.ownsRow_nil _ _ _ _, ⟨hz, fun q hq => by cases hq⟩, ⟨hz, fun q hq => by cases hq⟩, ⟨hz, fun q hq => by cases hq⟩, ⟨hz, fun q hq => by cases hq⟩, hz, hz, hz, hz, hz, hz⟩
theorem Two.set_new {p q : Option Nat} {w w' : World} (h : Two p q w w') {g : Nat} (hg : w.heap.size ≤ g) (o : Nat) (u : Value) : Two p q w (w'.setCell ⟨g, o, none⟩ u) :=
 ⟨h.os, h.tape, h.output, by simpa using h.size, fun i hi hp hq => (heap_setCell_other w' _ i u (by show i ≠ g; omega)).trans (h.block i hi hp hq)⟩
theorem FullSmy.lt {n₀ : Nat} {w : World} {v0 v1 v2 v3 v4 : Value} {m : SmyV} {qs : List (RoomV × Value)} (h : FullSmy n₀ w v0 v1 v2 v3 v4 m qs) {k : Nat} (e : v0.ownBlock = some k ∨ (∃ q ∈ qs, q.2.ownBlock = some k) ∨ v1.ownBlock = some k ∨ v2.ownBlock = some k ∨ v3.ownBlock = some k ∨ v4.ownBlock = some k) : n₀ ≤ k ∧ k < w.heap.size := by
 rcases e with e | e | e | e | e | e
 ·exact h.hall.lt (.inl e)
 ·exact h.hall.lt (.inr e)
 ·exact RecAt.lt h.guilds e
 ·exact RecAt.lt h.smiths e
 ·exact RecAt.lt h.desks e
 ·exact RecAt.lt h.paces e
theorem l15Done_any {w : World} {R n₀ : Nat} {v0 v1 v2 v3 v4 : Value} {m : SmyV} {qs : List (RoomV × Value)} (kb : Blk w R 32 #[v0, v1, v2, v3, v4, .int .i64 m.now]) (hf : FullSmy n₀ w v0 v1 v2 v3 v4 m qs) (h2 : v2.ownBlock ≠ some R) (h3 : v3.ownBlock ≠ some R) (hl : m.smiths.length ≤ 800) (hd : m.desks.length ≤ 1000) :
  Calls Tryz.prog 44 #[.pointer (some ⟨R, 0, none⟩)] w fun e w' => e = .returned (.tuple #[.agg #[v0, v1, v2, v3, v4, .int .i64 m.now], .int .i64 0]) ∧ FullSmy n₀ w' v0 v1 v2 v3 v4 (turnV m) qs ∧ Two v2.ownBlock v3.ownBlock w w' := by
 have hfl := fun k e => (hf.lt (k := k) e).2
 obtain ⟨a0, p0, rfl⟩ := hf.hall.shape
 obtain ⟨a1, p1, rfl⟩ := RecAt.shape hf.guilds
 obtain ⟨a2, p2, rfl⟩ := RecAt.shape hf.smiths
 obtain ⟨a3, p3, rfl⟩ := RecAt.shape hf.desks
 obtain ⟨a4, p4, rfl⟩ := RecAt.shape hf.paces
 have Kb := hide kb
 have HF := hide hf
 have H2 := hide h2
 have H3 := hide h3
 have HL := hide hfl
 have hR := kb.lt
 clear kb hf h2 h3 hfl
 go_enter Tryz.func44, Tryz.ntmps44
 go_wp2_with fail
 have Ba : Below w.heap.size w (w.alloc (.cells E6 32)) := ba _ _
 have kz := Blk.new w 32 E6
 refine (l12Turn_any ((uh Kb).below Ba hR) ((uh HF).below Ba) (uh H2) (uh H3) hl hd).mono ?_
 rintro e w1 ⟨rfl, hf1, ht1⟩
 have T1 := (Two.of_below Ba).trans ht1
 have kb1 := (uh Kb).two T1 (uh H2) (uh H3)
 have hnz : ∀ k, (_ ∨ _ ∨ _ ∨ _ ∨ _ ∨ _) → k ≠ w.heap.size := fun k e => by have := uh HL k e; omega
 have kz1 := kz.two ht1 (fun e => hnz _ (.inr (.inr (.inr (.inl e)))) rfl) (fun e => hnz _ (.inr (.inr (.inr (.inr (.inl e))))) rfl)
 obtain ⟨c0, c1, c2, c3, c4, c5⟩ := kb1.c6
 have o0 := kz1.cell (i := 0) (v := .slice none 0 0) rfl
 have f0 := kz1.free 0
 have o1 := kz1.cell (i := 1) (v := .slice none 0 0) rfl
 have f1 := kz1.free 1
 have o2 := kz1.cell (i := 2) (v := .slice none 0 0) rfl
 have f2 := kz1.free 2
 have o3 := kz1.cell (i := 3) (v := .slice none 0 0) rfl
 have f3 := kz1.free 3
 have o4 := kz1.cell (i := 4) (v := .slice none 0 0) rfl
 have f4 := kz1.free 4
 have o5 := kz1.cell (i := 5) (v := .int .i64 0) rfl
 have f5 := kz1.free 5
 have HF1 := hide hf1
 have TT := hide T1
 have HN := hide hnz
 clear hf1 ht1 T1 kb1 kz1 kz Ba hnz
 go_wp2_with fail
 refine bodyPost_ret (v := .tuple #[.agg #[.slice a0 qs.length p0, .slice a1 m.guilds.length p1, .slice a2 m.smiths.length p2, .slice a3 m.desks.length p3, .slice a4 m.paces.length p4, .int .i64 m.now], .int .i64 0]) (by simp [results, Tryz.results44, go_sem, *]) rfl ⟨rfl, ?_, ?_⟩
 ·iterate 6 (refine FullSmy.set_off ?_ (uh HN) _ _)
  exact uh HF1
 ·iterate 6 (refine Two.set_new ?_ (Nat.le_refl _) _ _)
  exact uh TT
theorem l15Bad_any {w : World} {v0 v1 v2 v3 v4 : Value} {m : SmyV} (h : Smy w v0 v1 v2 v3 v4 m) :
  Calls Tryz.prog 38 #[.agg #[v0, v1, v2, v3, v4, .int .i64 m.now]] w fun e w' => e = .returned (.tuple #[.agg E6, .int .i64 3]) ∧ Below w.heap.size w w' := by
 obtain ⟨a0, p0, a1, p1, a2, p2, a3, p3, a4, p4, rfl, rfl, rfl, rfl, rfl, _, _, _, _, _, _, _, _, _, _⟩ := h.five
 clear h
 go_enter Tryz.func38, Tryz.ntmps38
 go_wp2_with fail
 exact bodyPost_ret (v := .tuple #[.agg E6, .int .i64 3]) (by simp [results, Tryz.results38, go_sem]) rfl ⟨rfl, ((ba _ _)).alloc (by simp) _⟩
def GotM (n₀ : Nat) (M : SmyV) (c : Int) (e : Ending) (w' : World) : Prop :=
 ∃ u0 u1 u2 u3 u4 qs, e = .returned (.tuple #[.agg #[u0, u1, u2, u3, u4, .int .i64 M.now], .int .i64 c]) ∧ FullSmy n₀ w' u0 u1 u2 u3 u4 M qs
theorem FullSmy.putW {n₀ n cap g : Nat} {w : World} {v0 v1 v3 v4 : Value} {m : SmyV} {qs : List (RoomV × Value)} (hf : FullSmy n₀ w v0 v1 (.slice (some ⟨g, 0, none⟩) n cap) v3 v4 m qs) (hn : n = m.smiths.length) {j : Nat} (hj : j < m.smiths.length) (x : SmithV) :
  FullSmy n₀ (setW w g (j * 11) (encSmith x)) v0 v1 (.slice (some ⟨g, 0, none⟩) n cap) v3 v4 { m with smiths := m.smiths.set j x } qs := by
 have hb : (Value.slice (some ⟨g, 0, none⟩) n cap).ownBlock = some g := rfl
 obtain ⟨hput, hg⟩ := RecAt.put encSmith_len (by omega) hf.smiths hn hj x
 have hne : ∀ k, k < w.heap.size → k ≠ g → (setW w g (j * 11) (encSmith x)).heap[k]? = w.heap[k]? := fun k hk hkg => hg.block k hk (fun e => hkg (by cases e; rfl))
 refine ⟨hf.hall.same2 fun k e => hne k (hf.hall.lt e).2 fun e' => ?_, hf.rooms, RecAt.same hf.guilds fun k e => hne k (RecAt.lt hf.guilds e).2 fun e' => ?_, hput, RecAt.same hf.desks fun k e => hne k (RecAt.lt hf.desks e).2 fun e' => ?_, RecAt.same hf.paces fun k e => hne k (RecAt.lt hf.paces e).2 fun e' => ?_, hf.h1, hf.h2, hf.h3, hf.h4, hf.a12, hf.a13, hf.a14, hf.a23, hf.a24, hf.a34⟩
 ·subst e'
  rcases e with e | ⟨q, hq, e⟩
  ·exact hf.h2.1 _ hb e
  ·exact hf.h2.2 q hq _ hb e
 ·subst e'; exact hf.a12 _ e hb
 ·subst e'; exact hf.a23 _ hb e
 ·subst e'; exact hf.a24 _ hb e
theorem setW11 (w : World) (g o : Nat) (c0 c1 c2 c3 c4 c5 c6 c7 c8 c9 c10 : Value) : setW w g o [c0, c1, c2, c3, c4, c5, c6, c7, c8, c9, c10] = ((((((((((w.setCell ⟨g, o, none⟩ c0).setCell ⟨g, o + 1, none⟩ c1).setCell ⟨g, o + 2, none⟩ c2).setCell ⟨g, o + 3, none⟩ c3).setCell ⟨g, o + 4, none⟩ c4).setCell ⟨g, o + 5, none⟩ c5).setCell ⟨g, o + 6, none⟩ c6).setCell ⟨g, o + 7, none⟩ c7).setCell ⟨g, o + 8, none⟩ c8).setCell ⟨g, o + 9, none⟩ c9).setCell ⟨g, o + 10, none⟩ c10 := rfl
theorem end_m {w W : World} {X : SmyV × Int} {M : SmyV} {c nw : Int} {v0 v1 v2 v3 v4 u0 u1 u2 u3 u4 u5 : Value} {oq : List (RoomV × Value)} (hX : X = (M, c)) (hn : M.now = nw) (hF : FullSmy (w.heap.size + 2) W v0 v1 v2 v3 v4 M oq) (hB : Below w.heap.size w W) : GotM w.heap.size X.1 X.2 (.returned (.tuple #[.agg #[v0, v1, v2, v3, v4, .int .i64 nw], .int .i64 c])) ((((((W.setCell ⟨w.heap.size + 1, 0, none⟩ u0).setCell ⟨w.heap.size + 1, 1, none⟩ u1).setCell ⟨w.heap.size + 1, 2, none⟩ u2).setCell ⟨w.heap.size + 1, 3, none⟩ u3).setCell ⟨w.heap.size + 1, 4, none⟩ u4).setCell ⟨w.heap.size + 1, 5, none⟩ u5) ∧ Below w.heap.size w ((((((W.setCell ⟨w.heap.size + 1, 0, none⟩ u0).setCell ⟨w.heap.size + 1, 1, none⟩ u1).setCell ⟨w.heap.size + 1, 2, none⟩ u2).setCell ⟨w.heap.size + 1, 3, none⟩ u3).setCell ⟨w.heap.size + 1, 4, none⟩ u4).setCell ⟨w.heap.size + 1, 5, none⟩ u5) := by
 constructor
 ·rw [hX]; refine ⟨_, _, _, _, _, oq, by rw [hn], ?_⟩
  refine FullSmy.mono (n₀ := w.heap.size + 2) ?_ (by omega)
  iterate 6 (refine FullSmy.set_off ?_ (fun k e => by have := (hF.own e).1; omega) _ _)
  exact hF
 ·iterate 6 (refine Below.setCell ?_ (by show _ ≤ w.heap.size + 1; omega) _)
  exact hB
theorem done_k {w W : World} {ob : Nat} {v0 v1 v2 v3 v4 : Value} {m : SmyV} {oq : List (RoomV × Value)} (ko : Blk W ob 32 #[v0, v1, v2, v3, v4, .int .i64 m.now]) (hF : FullSmy (w.heap.size + 2) W v0 v1 v2 v3 v4 m oq) (lo : ∀ k, OwnB v0 v1 v2 v3 v4 oq k → k ≠ ob) (kr : Blk W (w.heap.size + 1) 32 E6) (BB : Below w.heap.size w W) (hl : m.smiths.length ≤ 800) (hd : m.desks.length ≤ 1000) : Calls Tryz.prog 44 #[.pointer (some ⟨ob, 0, none⟩)] W fun e w' => e = .returned (.tuple #[.agg #[v0, v1, v2, v3, v4, .int .i64 m.now], .int .i64 0]) ∧ Hid (FullSmy (w.heap.size + 2) w' v0 v1 v2 v3 v4 (turnV m) oq) ∧ Hid (Blk w' (w.heap.size + 1) 32 E6) ∧ Hid (Below w.heap.size w w') := by
 refine (l15Done_any ko hF (fun e => lo _ (.inr (.inr (.inr (.inl e)))) rfl) (fun e => lo _ (.inr (.inr (.inr (.inr (.inl e))))) rfl) hl hd).mono ?_
 rintro e w' ⟨rfl, h1, h2⟩
 have g2 : ∀ k, v2.ownBlock = some k → w.heap.size + 2 ≤ k := fun k e => (hF.own (.inr (.inr (.inr (.inl e))))).1
 have g3 : ∀ k, v3.ownBlock = some k → w.heap.size + 2 ≤ k := fun k e => (hF.own (.inr (.inr (.inr (.inr (.inl e)))))).1
 exact ⟨rfl, hide h1, hide (kr.two h2 (fun e => by have := g2 _ e; omega) (fun e => by have := g3 _ e; omega)), hide (BB.trans (h2.below BB.size (fun k e => by have := g2 k e; omega) (fun k e => by have := g3 k e; omega)))⟩
theorem copy_k {w W : World} {a0 a1 a2 a3 a4 : Option Addr} {p0 p1 p2 p3 p4 : Nat} {m : SmyV} (h : Smy W (.slice a0 m.rooms.length p0) (.slice a1 m.guilds.length p1) (.slice a2 m.smiths.length p2) (.slice a3 m.desks.length p3) (.slice a4 m.paces.length p4) m) (hf : Few m) (kb : Blk W w.heap.size 32 (S6 a0 p0 a1 p1 a2 p2 a3 p3 a4 p4 m)) (kr : Blk W (w.heap.size + 1) 32 E6) (BB : Below w.heap.size w W) : Calls Tryz.prog 39 #[.agg (S6 a0 p0 a1 p1 a2 p2 a3 p3 a4 p4 m)] W fun e w' => ∃ b0 q0 b1 q1 b2 q2 b3 q3 b4 q4 oq, e = .returned (.agg (S6 b0 q0 b1 q1 b2 q2 b3 q3 b4 q4 m)) ∧ ∃ W2 ob, w'.alloc (.cells (S6 b0 q0 b1 q1 b2 q2 b3 q3 b4 q4 m) 32) = W2 ∧ w'.heap.size = ob ∧ Hid (Blk W2 w.heap.size 32 (S6 a0 p0 a1 p1 a2 p2 a3 p3 a4 p4 m)) ∧ Hid (Blk W2 (w.heap.size + 1) 32 E6) ∧ Hid (Smy W2 (.slice a0 m.rooms.length p0) (.slice a1 m.guilds.length p1) (.slice a2 m.smiths.length p2) (.slice a3 m.desks.length p3) (.slice a4 m.paces.length p4) m) ∧ Hid (FullSmy (w.heap.size + 2) W2 (.slice b0 m.rooms.length q0) (.slice b1 m.guilds.length q1) (.slice b2 m.smiths.length q2) (.slice b3 m.desks.length q3) (.slice b4 m.paces.length q4) m oq) ∧ Hid (Blk W2 ob 32 (S6 b0 q0 b1 q1 b2 q2 b3 q3 b4 q4 m)) ∧ Hid (∀ k, OwnB (.slice b0 m.rooms.length q0) (.slice b1 m.guilds.length q1) (.slice b2 m.smiths.length q2) (.slice b3 m.desks.length q3) (.slice b4 m.paces.length q4) oq k → w.heap.size + 2 ≤ k ∧ k < ob) ∧ w.heap.size + 2 ≤ ob ∧ Hid (Below w.heap.size w W2) := by
 have hs : w.heap.size + 2 ≤ W.heap.size := by have := kr.lt; omega
 refine (l11Copy_any h hf).mono ?_
 rintro e w2 ⟨y0, y1, y2, y3, y4, oq, rfl, ho, hb⟩
 obtain ⟨b0, q0, b1, q1, b2, q2, b3, q3, b4, q4, rfl, rfl, rfl, rfl, rfl, _⟩ := ho.smy.five
 have hba : Below w2.heap.size w2 (w2.alloc (.cells (S6 b0 q0 b1 q1 b2 q2 b3 q3 b4 q4 m) 32)) := ba _ _
 have h2 : Below W.heap.size W (w2.alloc (.cells (S6 b0 q0 b1 q1 b2 q2 b3 q3 b4 q4 m) 32)) := hb.trans (hba.mono hb.size)
 have hO := ho.mono hs
 exact ⟨b0, q0, b1, q1, b2, q2, b3, q3, b4, q4, oq, rfl, _, _, rfl, rfl, hide (kb.below h2 kb.lt), hide (kr.below h2 kr.lt), hide (h.below h2), hide (hO.below hba), hide (Blk.new _ _ _), hide (fun k e => hO.own e), Nat.le_trans hs hb.size, hide (BB.trans (h2.mono BB.size))⟩
def grantV (m : SmyV) (room pace : Int) : SmyV × Int :=
 if smyB m then (if isRoomB m room then (if inB pace 0 (((roomAt m.rooms room.toNat).2.length : Int) - 1) then (turnV (setP m room.toNat pace), 0) else (m, 3)) else (m, 1)) else (zeroM, 3)
theorem grant_right {m : SmyV} (h : smyB m = true) (room pace : Int) : smyB (grantV m room pace).1 = true := by
 unfold grantV
 rw [h]
 simp only [if_true]
 split
 ·rename_i hw
  obtain ⟨k, rfl, hk⟩ := room_of hw
  rw [show ((k : Int)).toNat = k by simp]
  split
  ·rename_i hp
   have := inB_of hp
   exact turn_right (keep_pace (smy_loose h) hk (by omega) (by omega))
  ·exact h
 ·exact h
theorem paces_len {m : SmyV} (h : Loose m) : m.paces.length = m.rooms.length := by
 have hd := h.head
 unfold headB at hd
 simp only [Bool.and_eq_true, decide_eq_true_eq] at hd
 exact hd.2.2.2.2.1
theorem specGranted_any {w : World} {v0 v1 v2 v3 v4 : Value} {m : SmyV} (room : Int) (pace : Int) (h : Smy w v0 v1 v2 v3 v4 m) :
  Calls Tryz.prog 21 #[.agg #[v0, v1, v2, v3, v4, .int .i64 m.now], .int .i64 room, .int .i64 pace] w fun e w' => GotM w.heap.size (grantV m room pace).1 (grantV m room pace).2 e w' ∧ Below w.heap.size w w' := by
 obtain ⟨X, hX⟩ : ∃ x, grantV m room pace = x := ⟨_, rfl⟩
 rw [hX]
 have HX := hide hX
 clear hX
 have Hv0 := hide h
 obtain ⟨a0, p0, a1, p1, a2, p2, a3, p3, a4, p4, rfl, rfl, rfl, rfl, rfl, _, _, _, _, _, _, _, _, _, _⟩ := h.five
 clear h
 obtain ⟨ok, hok⟩ : ∃ q, smyB m = q := ⟨_, rfl⟩
 have Hok := hide hok
 clear hok
 go_enter Tryz.func21, Tryz.ntmps21
 go_wp2_with fail
 obtain ⟨W, hW, kb, kr, BB⟩ := two_boxes w 32 (S6 a0 p0 a1 p1 a2 p2 a3 p3 a4 p4 m) 32 E6
 have Hv := hide ((uh Hv0).below (uh BB))
 clear Hv0
 rw [hW]
 clear hW
 refine ck (spec_q (uh Hok) (uh Hv)) fun w1 hb => ?_
 replace kb := bl kb hb
 replace kr := bl kr hb
 replace Hv := hide ((uh Hv).below hb)
 replace BB := bt BB hb
 clear hb
 cases ok
 ·
  obtain ⟨c0, c1, c2, c3, c4, c5⟩ := (uh kb).c6
  go_wp2_with fail
  clear c0 c1 c2 c3 c4 c5
  refine ck (l15Bad_any (uh Hv)) fun w2 hb => ?_
  replace kb := bl kb hb
  replace kr := bl kr hb
  replace Hv := hide ((uh Hv).below hb)
  replace BB := bt BB hb
  clear hb
  obtain ⟨o0, o1, o2, o3, o4, o5⟩ := (uh kr).c6
  obtain ⟨f0, f1, f2, f3, f4, f5⟩ := (uh kr).f6
  go_wp2_with fail
  have hX0 : X = (zeroM, 3) := by rw [← uh HX]; unfold grantV; rw [uh Hok]; rfl
  exact bodyPost_ret (v := .tuple #[.agg E6, .int .i64 3]) (by simp [results, Tryz.results21, go_sem, *]) rfl (end_m hX0 rfl (full_zero _ _) (uh BB))
 have hlo := smy_loose (uh Hok)
 have HLo := hide hlo
 have HFew := hide (few_of hlo)
 clear hlo
 obtain ⟨c0, c1, c2, c3, c4, c5⟩ := (uh kb).c6
 go_wp2_with fail
 clear c0 c1 c2 c3 c4 c5
 refine (copy_k (uh Hv) (uh HFew) (uh kb) (uh kr) (uh BB)).mono ?_
 clear kb kr Hv BB
 rintro e w2 ⟨b0, q0, b1, q1, b2, q2, b3, q3, b4, q4, oq, rfl, W2, ob, hW2, hob2, kb, kr, Hv, HO, ko, LO, hob, BB⟩
 go_upto_region 4 with fail
 (try rw [hW2])
 (try rw [hob2])
 clear hW2 hob2
 obtain ⟨qw, hqw⟩ : ∃ q, isRoomB m room = q := ⟨_, rfl⟩
 have Hqw := hide hqw
 clear hqw
 obtain ⟨c0, c1, c2, c3, c4, c5⟩ := (uh kb).c6
 go_wp2_with fail
 clear c0 c1 c2 c3 c4 c5
 refine ck (l13Room_q (uh Hqw) (uh Hv)) fun w3 hb => ?_
 replace kb := bl kb hb
 replace kr := bl kr hb
 replace Hv := hide ((uh Hv).below hb)
 replace HO := hide ((uh HO).below hb)
 replace ko := bl ko hb
 replace BB := bt BB hb
 clear hb
 cases qw
 ·
  obtain ⟨x0, x1, x2, x3, x4, x5⟩ := (uh ko).c6
  obtain ⟨o0, o1, o2, o3, o4, o5⟩ := (uh kr).c6
  obtain ⟨f0, f1, f2, f3, f4, f5⟩ := (uh kr).f6
  go_wp2_with fail
  have hX0 : X = (m, 1) := by rw [← uh HX]; unfold grantV; rw [uh Hok, uh Hqw]; rfl
  exact bodyPost_ret (v := .tuple #[.agg (S6 b0 q0 b1 q1 b2 q2 b3 q3 b4 q4 m), .int .i64 1]) (by simp [results, Tryz.results21, go_sem, *]) rfl (end_m hX0 rfl (uh HO) (uh BB))
 obtain ⟨k, rfl, hk⟩ := room_of (uh Hqw)
 have hk1 : (k : Int) < (m.rooms.length : Int) := by omega
 have hkp : k < m.paces.length := by rw [paces_len (uh HLo)]; exact hk
 have hkp1 : (k : Int) < (m.paces.length : Int) := by omega
 obtain ⟨_, _, hre, _, _, r0⟩ := (uh Hv).rooms
 cases hre
 rcases r0 with e0 | ⟨rb, off, rfl, hbw, hcl⟩
 ·rw [e0] at hk; simp at hk
 obtain ⟨_, pv, d1, pa, pc, rfl, hpc, hpm, _⟩ := hcl k hk
 clear hcl
 obtain ⟨op, hop⟩ : ∃ q, inB pace 0 (((roomAt m.rooms k).2.length : Int) - 1) = q := ⟨_, rfl⟩
 have Hop := hide hop
 have hpl : (roomAt m.rooms k).2.length ≤ 9223372036854775807 := by omega
 have c0 := (uh kb).cell (i := 0) (v := .slice (some ⟨rb, off, none⟩) m.rooms.length p0) rfl
 obtain ⟨nl, hnl⟩ : ∃ q, (roomAt m.rooms k).2.length = q := ⟨_, rfl⟩
 rw [hnl] at hop d1 hpl
 have Hop2 := hide hop
 clear hop hnl hpc
 go_wp2_with fail
 refine (l1In_any _ _ _ _).mono ?_
 rw [uh Hop2]
 rintro e w9 ⟨rfl, hw9⟩
 subst w9
 cases op
 ·
  obtain ⟨x0, x1, x2, x3, x4, x5⟩ := (uh ko).c6
  obtain ⟨o0, o1, o2, o3, o4, o5⟩ := (uh kr).c6
  obtain ⟨f0, f1, f2, f3, f4, f5⟩ := (uh kr).f6
  go_wp2_with fail
  have hX0 : X = (m, 3) := by rw [← uh HX]; unfold grantV; rw [uh Hok, uh Hqw]; simp only [if_true, Int.toNat_natCast]; rw [uh Hop]; rfl
  exact bodyPost_ret (v := .tuple #[.agg (S6 b0 q0 b1 q1 b2 q2 b3 q3 b4 q4 m), .int .i64 3]) (by simp [results, Tryz.results21, go_sem, *]) rfl (end_m hX0 rfl (uh HO) (uh BB))
 obtain ⟨g4, hga, _, _, hc4, hz4⟩ := RecAt.view encNum_len (by omega) (uh HO).paces rfl (by omega)
 cases hga
 have s0 := hc4 k hkp 0 _ rfl
 have f0 := hz4 k
 have x4 := (uh ko).cell (i := 4) (v := .slice (some ⟨g4, 0, none⟩) m.paces.length q4) rfl
 have hput := (uh HO).putP rfl (j := k) hkp pace
 simp only [Nat.add_zero, Nat.mul_one] at s0
 have hg4o := (uh LO g4 (.inr (.inr (.inr (.inr (.inr rfl))))))
 clear hc4 hz4
 go_upto_region 9 with fail
 clear s0 f0 x4 c0 d1
 have HP := hide hput
 clear hput HO
 replace ko : Hid (Blk (w3.setCell ⟨g4, k, none⟩ (.int .i64 pace)) ob 32 (S6 b0 q0 b1 q1 b2 q2 b3 q3 (some ⟨g4, 0, none⟩) q4 m)) := hide ((uh ko).other (a := ⟨g4, k, none⟩) (by show ob ≠ g4; omega) _)
 replace kr : Hid (Blk (w3.setCell ⟨g4, k, none⟩ (.int .i64 pace)) (w.heap.size + 1) 32 E6) := hide ((uh kr).other (a := ⟨g4, k, none⟩) (by show w.heap.size + 1 ≠ g4; omega) _)
 replace BB : Hid (Below w.heap.size w (w3.setCell ⟨g4, k, none⟩ (.int .i64 pace))) := hide ((uh BB).setCell (p := ⟨g4, k, none⟩) (by show w.heap.size ≤ g4; omega) _)
 clear kb Hv
 generalize w3.setCell ⟨g4, k, none⟩ (.int .i64 pace) = W3 at *
 have hfw := uh HFew
 go_wp2_with fail
 refine (done_k (m := setP m k pace) (uh ko) (uh HP) (fun k e => by have := (uh LO k e).2; omega) (uh kr) (uh BB) (by show m.smiths.length ≤ 800; have := hfw.smiths; omega) hfw.desks).mono ?_
 clear kr BB
 rintro e w4 ⟨rfl, HF9, kr, BB⟩
 obtain ⟨o0, o1, o2, o3, o4, o5⟩ := (uh kr).c6
 obtain ⟨f0, f1, f2, f3, f4, f5⟩ := (uh kr).f6
 go_wp2_with fail
 have hX0 : X = (turnV (setP m k pace), 0) := by rw [← uh HX]; unfold grantV; rw [uh Hok, uh Hqw]; simp only [if_true, Int.toNat_natCast]; rw [uh Hop]; rfl
 have hnow : (turnV (setP m k pace)).now = m.now := (turnK_same _ _).2.2.2.1
 exact bodyPost_ret (v := .tuple #[.agg (S6 b0 q0 b1 q1 b2 q2 b3 q3 (some ⟨g4, 0, none⟩) q4 m), .int .i64 0]) (by simp [results, Tryz.results21, go_sem, setS, setP, *]) rfl (end_m hX0 hnow (uh HF9) (uh BB))
end Go.Proofs.YtffcgajndmhpkaaGreatDoor
