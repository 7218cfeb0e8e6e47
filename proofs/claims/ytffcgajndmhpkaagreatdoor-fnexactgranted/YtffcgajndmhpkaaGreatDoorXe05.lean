/- Part 5 of what the proof rests on. No condition but those that a theorem names. -/
import Derived.Test.YtffcgajndmhpkaaGreatDoorXe04
set_option maxHeartbeats 8000000
set_option maxRecDepth 100000
namespace Go.Proofs.YtffcgajndmhpkaaGreatDoor
open Go.ChangeShapes Go.WideShapes Go.ChangeAt Go.RowKit Go.Sort
set_option linter.unusedVariables false
theorem rsame (x : List PaceV) : ∀ (qs : List (RoomV × Value)) (j : Nat) (h : j < qs.length), rcells (qs.set j ((qs[j].1.1, x), qs[j].2)) = rcells qs
 | q :: qs, 0, _ => by simp [rcells]
 | q :: qs, j + 1, h => by
  have ih := rsame x qs j (by simpa using h)
  unfold rcells at ih ⊢
  simpa using ih
theorem map_keep {qs : List (RoomV × Value)} {j : Nat} (hj : j < qs.length) (r : RoomV) : (qs.set j (r, qs[j].2)).map (·.2) = qs.map (·.2) := by
 rw [List.map_set]
 simp only
 have : (qs.map (·.2))[j]'(by simpa using hj) = qs[j].2 := by simp
 rw [← this, List.set_getElem_self]
theorem mem_put {qs : List (RoomV × Value)} {j : Nat} (hj : j < qs.length) {r : RoomV} {q : RoomV × Value} (h : q ∈ qs.set j (r, qs[j].2)) : (q ∈ qs) ∨ q = (r, qs[j].2) := List.mem_or_eq_of_mem_set h
theorem OwnHall.bench {n₀ g cap : Nat} {w : World} {qs : List (RoomV × Value)} (h : OwnHall n₀ w (.slice (some ⟨g, 0, none⟩) qs.length cap) qs) {j : Nat} (hj : j < qs.length) (b : Int) :
  OwnHall n₀ (w.setCell ⟨g, j * 2, none⟩ (.int .i64 b)) (.slice (some ⟨g, 0, none⟩) qs.length cap) (qs.set j ((b, qs[j].1.2), qs[j].2)) := by
 have hst := (World.ownsRow.stored h.row (j * 2) (.int .i64 b)).1
 rw [rput b qs[j].1.2 qs j hj] at hst
 have hold : ∀ q ∈ qs, PacesAt n₀ (w.setCell ⟨g, j * 2, none⟩ (.int .i64 b)) q.2 q.1.2 := fun q hq => own_same (h.paces q hq) (fun k e => Below.heap_setCell w ⟨g, j * 2, none⟩ _ k (fun e' => h.off q hq k e (by show some g = some k; rw [e'])))
 refine ⟨by simpa using hst, fun q hq => ?_, fun q hq b' e => ?_, by rw [map_keep hj]; exact h.apart⟩
 ·rcases mem_put hj hq with hq | rfl
  ·exact hold q hq
  ·exact hold qs[j] (List.getElem_mem hj)
 ·rcases mem_put hj hq with hq | rfl
  ·exact h.off q hq b' e
  ·exact h.off qs[j] (List.getElem_mem hj) b' e
theorem apart_ne {qs : List (RoomV × Value)} (h : (qs.map (·.2)).Pairwise fun x y => ∀ b, x.ownBlock = some b → y.ownBlock ≠ some b) {i j : Nat} (hi : i < qs.length) (hj : j < qs.length) (hne : i ≠ j) {b : Nat} (e : qs[i].2.ownBlock = some b) : qs[j].2.ownBlock ≠ some b := by
 rw [List.pairwise_iff_getElem] at h
 rcases Nat.lt_or_gt_of_ne hne with hlt | hgt
 ·have := h i j (by simpa using hi) (by simpa using hj) hlt b (by simpa using e)
  simpa using this
 ·intro e'
  have := h j i (by simpa using hj) (by simpa using hi) hgt b (by simpa using e')
  simp at this
  exact this e
theorem OwnHall.repace {n₀ : Nat} {w w' : World} {v : Value} {qs : List (RoomV × Value)} (h : OwnHall n₀ w v qs) {j : Nat} (hj : j < qs.length) {ps : List PaceV} (hp : PacesAt n₀ w' qs[j].2 ps) (hg : w.grownBy w' qs[j].2.ownBlock) :
  OwnHall n₀ w' v (qs.set j ((qs[j].1.1, ps), qs[j].2)) := by
 have hs : ∀ k, k < w.heap.size → qs[j].2.ownBlock ≠ some k → w'.heap[k]? = w.heap[k]? := fun k hk hn => hg.block k hk (fun e => hn e.symm)
 refine ⟨?_, fun q hq => ?_, fun q hq b' e => ?_, by rw [map_keep hj]; exact h.apart⟩
 ·have := own_same h.row (fun k e => hs k (h.lt (.inl e)).2 (fun e' => h.off qs[j] (List.getElem_mem hj) k e' e))
  rw [List.length_set, rsame ps qs j hj]; exact this
 ·obtain ⟨i, hi, rfl⟩ := List.getElem_of_mem hq
  have hi' : i < qs.length := by simpa using hi
  by_cases hij : i = j
  ·subst hij; simpa using hp
  ·rw [List.getElem_set_ne (fun e => hij e.symm)]
   exact own_same (h.paces qs[i] (List.getElem_mem hi')) (fun k e => hs k (h.lt (.inr ⟨qs[i], List.getElem_mem hi', e⟩)).2 (apart_ne h.apart hi' hj hij e))
 ·rcases mem_put hj hq with hq | rfl
  ·exact h.off q hq b' e
  ·exact h.off qs[j] (List.getElem_mem hj) b' e
structure OwnOnly (v : Value) (qs : List (RoomV × Value)) (w w' : World) : Prop where
 os : w'.os = w.os
 tape : w'.tape = w.tape
 output : w'.output = w.output
 size : w.heap.size ≤ w'.heap.size
 block : ∀ k, k < w.heap.size → v.ownBlock ≠ some k → (∀ q ∈ qs, q.2.ownBlock ≠ some k) → w'.heap[k]? = w.heap[k]?
theorem OwnOnly.refl (v : Value) (qs : List (RoomV × Value)) (w : World) : OwnOnly v qs w w := ⟨rfl, rfl, rfl, Nat.le_refl _, fun _ _ _ _ => rfl⟩
theorem OwnOnly.trans {v : Value} {qs : List (RoomV × Value)} {a b c : World} (h : OwnOnly v qs a b) (k : OwnOnly v qs b c) : OwnOnly v qs a c :=
 ⟨k.os.trans h.os, k.tape.trans h.tape, k.output.trans h.output, Nat.le_trans h.size k.size, fun i hi h1 h2 => (k.block i (Nat.lt_of_lt_of_le hi h.size) h1 h2).trans (h.block i hi h1 h2)⟩
theorem OwnOnly.set {g n cap o : Nat} {qs : List (RoomV × Value)} {w : World} (x : Value) : OwnOnly (.slice (some ⟨g, 0, none⟩) n cap) qs w (w.setCell ⟨g, o, none⟩ x) :=
 ⟨rfl, rfl, rfl, by simp, fun k hk h1 _ => Below.heap_setCell w ⟨g, o, none⟩ x k (fun e => h1 (by show some g = some k; rw [e]))⟩
theorem OwnOnly.grown {v : Value} {qs : List (RoomV × Value)} {w w' : World} {q : RoomV × Value} (hq : q ∈ qs) (hg : w.grownBy w' q.2.ownBlock) : OwnOnly v qs w w' :=
 ⟨hg.os, hg.tape, hg.output, hg.size, fun k hk _ h2 => hg.block k hk (fun e => h2 q hq e.symm)⟩
theorem OwnOnly.alloc (v : Value) (qs : List (RoomV × Value)) (w : World) (o : Obj) : OwnOnly v qs w (w.alloc o) := ⟨rfl, rfl, rfl, by simp, fun k hk _ _ => Below.heap_alloc w o k hk⟩
def kEnd : Int → List (RoomV × Value) → Int
 | k, [] => k
 | k, q :: qs => kEnd (k + 1 + 2 * (q.1.2.length : Int)) qs
def markQ : Int → List (RoomV × Value) → List (RoomV × Value)
 | _, [] => []
 | k, q :: qs => ((k, mps (k + 1) q.1.2.length), q.2) :: markQ (k + 1 + 2 * (q.1.2.length : Int)) qs
theorem kEnd_app : ∀ (a : List (RoomV × Value)) (k : Int) (b : List (RoomV × Value)), kEnd k (a ++ b) = kEnd (kEnd k a) b
 | [], _, _ => rfl
 | q :: a, k, b => kEnd_app a _ b
theorem markQ_app : ∀ (a : List (RoomV × Value)) (k : Int) (b : List (RoomV × Value)), markQ k (a ++ b) = markQ k a ++ markQ (kEnd k a) b
 | [], _, _ => rfl
 | q :: a, k, b => by simp only [List.cons_append, markQ, kEnd]; rw [markQ_app a _ b]
theorem markQ_len : ∀ (a : List (RoomV × Value)) (k : Int), (markQ k a).length = a.length
 | [], _ => rfl
 | q :: a, k => by simp [markQ, markQ_len a]
theorem take_s {α : Type} {l : List α} {j : Nat} (h : j < l.length) : l.take (j + 1) = l.take j ++ [l[j]] := List.take_succ_eq_append_getElem h
theorem kEnd_s {qs : List (RoomV × Value)} {k : Int} {j : Nat} (h : j < qs.length) : kEnd k (qs.take (j + 1)) = kEnd k (qs.take j) + 1 + 2 * (qs[j].1.2.length : Int) := by rw [take_s h, kEnd_app]; rfl
theorem kEnd_bd {qs : List (RoomV × Value)} (hp : ∀ q ∈ qs, q.1.2.length ≤ 1048576) (k : Int) : ∀ j, j ≤ qs.length → k ≤ kEnd k (qs.take j) ∧ kEnd k (qs.take j) ≤ k + 2097153 * j
 | 0, _ => by simp [kEnd]
 | j + 1, hj => by
  have ih := kEnd_bd hp k j (by omega)
  have hq := hp qs[j] (List.getElem_mem (by omega))
  rw [kEnd_s (by omega)]; omega
def markedTo (k : Int) (qs : List (RoomV × Value)) (j : Nat) : List (RoomV × Value) := markQ k (qs.take j) ++ qs.drop j
theorem markedTo_len {k : Int} {qs : List (RoomV × Value)} {j : Nat} (h : j ≤ qs.length) : (markedTo k qs j).length = qs.length := by unfold markedTo; rw [List.length_append, markQ_len]; simp; omega
theorem markedTo_at? {k : Int} {qs : List (RoomV × Value)} {j : Nat} (h : j < qs.length) : (markedTo k qs j)[j]? = some qs[j] := by
 have hl : (markQ k (qs.take j)).length = j := by rw [markQ_len]; simp; omega
 unfold markedTo
 rw [List.getElem?_append_right (by omega), hl, Nat.sub_self, List.drop_eq_getElem_cons h]; rfl
theorem markedTo_at {k : Int} {qs : List (RoomV × Value)} {j : Nat} (h : j < qs.length) (h' : j < (markedTo k qs j).length) : (markedTo k qs j)[j] = qs[j] := by
 have h1 := markedTo_at? (k := k) h
 rw [List.getElem?_eq_getElem h'] at h1
 exact Option.some.inj h1
theorem markedTo_s {k : Int} {qs : List (RoomV × Value)} {j : Nat} (h : j < qs.length) : (markedTo k qs j).set j ((kEnd k (qs.take j), mps (kEnd k (qs.take j) + 1) qs[j].1.2.length), qs[j].2) = markedTo k qs (j + 1) := by
 unfold markedTo
 have hl : (markQ k (qs.take j)).length = j := by rw [markQ_len]; simp; omega
 rw [List.set_append_right _ _ (by omega), hl, Nat.sub_self, List.drop_eq_getElem_cons h, List.set_cons_zero, take_s h, markQ_app]
 simp [markQ]
theorem markedTo_all (k : Int) (qs : List (RoomV × Value)) : markedTo k qs qs.length = markQ k qs := by simp [markedTo]
theorem markQ_at {k : Int} {qs : List (RoomV × Value)} {j : Nat} (h : j < qs.length) : roomAt ((markQ k qs).map (·.1)) j = (kEnd k (qs.take j), mps (kEnd k (qs.take j) + 1) qs[j].1.2.length) := by
 have e : markQ k qs = markQ k (qs.take j) ++ markQ (kEnd k (qs.take j)) (qs.drop j) := by rw [← markQ_app, List.take_append_drop]
 have hl : (markQ k (qs.take j)).length = j := by rw [markQ_len]; simp; omega
 unfold roomAt
 rw [e, List.drop_eq_getElem_cons h]
 simp only [markQ, List.map_append, List.map_cons, List.getD]
 rw [List.getElem?_append_right (by rw [List.length_map, hl]; omega), List.length_map, hl, Nat.sub_self]
 rfl
theorem markRoomS_any {n₀ : Nat} {w : World} {v : Value} {qs : List (RoomV × Value)} (k : Int) (h : OwnHall n₀ w v qs) (hn : n₀ ≤ w.heap.size) (hk0 : 0 ≤ k) (hk1 : k ≤ 1000000000) (hl : qs.length ≤ 1048576) (hp : ∀ q ∈ qs, q.1.2.length ≤ 1048576) :
  Calls Tryz.prog 134 #[v, .int .i64 k] w fun e w' => e = .returned (.int .i64 (kEnd k qs)) ∧ OwnHall n₀ w' v (markQ k qs) ∧ OwnOnly v qs w w' := by
 have Hv := hide h
 obtain ⟨a, cap, rfl⟩ := h.shape
 have Hp := hide hp
 clear h hp
 go_enter Tryz.func134, Tryz.ntmps134
 go_wp2_with fail
 go_loopw [5, 1] (fun i q wr => ∃ j : Nat, j ≤ qs.length ∧ i = .int .i64 j ∧ q = .int .i64 (kEnd k (qs.take j)) ∧ OwnHall n₀ wr (.slice a qs.length cap) (markedTo k qs j) ∧ OwnOnly (.slice a qs.length cap) qs w wr) (fun i _ _ => qs.length - (intOf i).toNat)
 case atStart => exact ⟨0, Nat.zero_le _, rfl, rfl, by simpa [markedTo, markQ] using uh Hv, OwnOnly.refl _ _ _⟩
 case round =>
  obtain ⟨j, hj, rfl, rfl, hin, hbl⟩ := hrel
  by_cases hlt : j < qs.length
  ·have hml := markedTo_len (k := k) (Nat.le_of_lt hlt)
   have hjm : j < (markedTo k qs j).length := by rw [hml]; exact hlt
   have hat := markedTo_at (k := k) hlt hjm
   have hkb := kEnd_bd (uh Hp) k j hj
   have hks := kEnd_s (k := k) hlt
   have Hms := hide (markedTo_s (k := k) hlt)
   have hpl := uh Hp qs[j] (List.getElem_mem hlt)
   obtain ⟨g, rfl⟩ : ∃ g, a = some ⟨g, 0, none⟩ := by
    rcases hin.row.2 with ⟨h9, h8⟩ | ⟨g, c', cur, h9, _⟩
    ·omega
    ·simp only [Value.slice.injEq] at h9; exact ⟨g, h9.1⟩
   have hin0 := hin
   rw [← hml] at hin
   have hb1 := hin.bench hjm (kEnd k (qs.take j))
   rw [hml] at hb1
   have hrow := hin0.row
   rw [hml] at hrow
   have hc0 := World.ownsRow.cellAt hrow (j * 2) (by omega)
   have hc1 := World.ownsRow.cellAt hrow (j * 2 + 1) (by omega)
   have hpg := pairs_get (f := fun q : RoomV × Value => Value.int .i64 q.1.1) (g := fun q : RoomV × Value => q.2) (markedTo k qs j) j hjm
   have hc0' := hc0.trans hpg.1
   have hc1' := hc1.trans hpg.2
   have f0 := World.ownsRow.frozenAt hrow (j * 2)
   rw [hat] at hc0' hc1' hb1
   have HW1 : Hid (OwnOnly (.slice (some ⟨g, 0, none⟩) qs.length cap) qs w (wr.setCell ⟨g, j * 2, none⟩ (.int .i64 (kEnd k (qs.take j))))) := hide (hbl.trans (OwnOnly.set _))
   have hjs : j < ((markedTo k qs j).set j ((kEnd k (qs.take j), qs[j].1.2), qs[j].2)).length := by rw [List.length_set]; exact hjm
   have hpa := hb1.paces _ (List.getElem_mem hjs)
   rw [List.getElem_set_self] at hpa
   simp only at hpa
   have Hb1 := hide hb1
   have Hpa := hide hpa
   have hd1 : (wr.setCell ⟨g, j * 2, none⟩ (.int .i64 (kEnd k (qs.take j)))).cell? ⟨g, j * 2 + 1, none⟩ = some qs[j].2 := by rw [World.cell?_setCell_other _ _ _ _ (by simp)]; exact hc1'
   obtain ⟨pa, pcap, hps⟩ := hpa.shape
   rw [hps] at hd1
   have Hps := hide hps
   generalize kEnd k (qs.take j) = kj at *
   generalize hk' : kEnd k (qs.take (j + 1)) = kj' at *
   have Hk' := hide hk'
   clear hin hin0 hb1 hrow hc0 hc1 hpg hc1' hpa hps hat hk'
   generalize hbb : qs[j].1.1 = bb at *
   clear hbb
   generalize hll : qs[j].1.2.length = ll at *
   have Hll := hide hll
   clear hll
   go_wp2_with fail
   refine (markPaceS_any (n₀ := n₀) (ps := qs[j].1.2) (kj + 1) (by have h2 := uh Hpa; rw [uh Hps] at h2; exact h2) (by omega) (by omega) (by rw [uh Hll]; omega)).mono ?_
   rw [uh Hll]
   rintro e w2 ⟨rfl, hpa2, hgr⟩
   have Hrep : Hid (OwnHall n₀ w2 (.slice (some ⟨g, 0, none⟩) qs.length cap) (markedTo k qs (j + 1)) ∧ OwnOnly (.slice (some ⟨g, 0, none⟩) qs.length cap) qs w w2) := hide (by
    have hj2 : j < ((markedTo k qs j).set j ((kj, qs[j].1.2), qs[j].2)).length := hjs
    have e2 : (((markedTo k qs j).set j ((kj, qs[j].1.2), qs[j].2))[j]'hj2) = ((kj, qs[j].1.2), qs[j].2) := List.getElem_set_self _
    have h3 := OwnHall.repace (uh Hb1) hj2 (ps := mps (kj + 1) ll) (w' := w2) (by rw [e2]; simp only; rw [uh Hps]; exact hpa2) (by rw [e2]; simp only; rw [uh Hps]; exact hgr)
    rw [e2, List.set_set] at h3
    simp only at h3
    have h4 := uh Hms
    rw [h4] at h3
    exact ⟨h3, (uh HW1).trans (OwnOnly.grown (List.getElem_mem hlt) (by rw [uh Hps]; exact hgr))⟩)
   clear hpa2 hgr
   go_wp2_with fail
   go_roundw
   case rel => exact ⟨j + 1, by omega, by go_num, by rw [uh Hk', hks], (uh Hrep).1, (uh Hrep).2⟩
   case measure => exact ms
  ·obtain rfl : j = qs.length := by omega
   rw [markedTo_all] at hin
   rw [List.take_length]
   go_wp2_with fail
   go_ret
   exact ⟨rfl, hin, hbl⟩
theorem heldRoomS_yes {w : World} {v : Value} {qs : List (RoomV × Value)} (k : Int) (h : IsRooms w v ((markQ k qs).map (·.1))) (hk0 : 0 ≤ k) (hk1 : k ≤ 1000000000) (hl : qs.length ≤ 1048576) (hp : ∀ q ∈ qs, q.1.2.length ≤ 1048576) :
  Calls Tryz.prog 135 #[v, .int .i64 k] w fun e w' => e = .returned (.int .i64 (kEnd k qs)) ∧ w' = w := by
 have hlen : ((markQ k qs).map (·.1)).length = qs.length := by rw [List.length_map, markQ_len]
 obtain ⟨a, cap, rfl, hc, hm, hrow⟩ := h
 rw [hlen] at hc hrow ⊢
 have Hrow := hide hrow
 have Hp := hide hp
 clear hrow hp
 go_enter Tryz.func135, Tryz.ntmps135
 go_wp2_with fail
 go_loop [5, 1] (fun i q => ∃ j : Nat, j ≤ qs.length ∧ i = .int .i64 j ∧ q = .int .i64 (kEnd k (qs.take j))) (fun i _ => qs.length - (intOf i).toNat)
 case atStart => exact ⟨0, Nat.zero_le _, rfl, rfl⟩
 case round =>
  obtain ⟨j, hj, rfl, rfl⟩ := hrel
  by_cases hlt : j < qs.length
  ·have hkb := kEnd_bd (uh Hp) k j hj
   have hks := kEnd_s (k := k) hlt
   have hpl := uh Hp qs[j] (List.getElem_mem hlt)
   have hma := markQ_at (k := k) hlt
   rcases uh Hrow with h0 | ⟨bk, off, rfl, hbw, hcl⟩
   ·have h7 := congrArg List.length h0; rw [List.length_map, markQ_len, List.length_nil] at h7; omega
   obtain ⟨c0, pv, c1, hip⟩ := hcl j hlt
   rw [hma] at c0 hip
   simp only at c0 hip
   have hsh : ∃ pa pcap, pv = .slice pa qs[j].1.2.length pcap := by obtain ⟨pa, pcap, rfl, _⟩ := hip; exact ⟨pa, pcap, by rw [mps_len]⟩
   obtain ⟨pa, pcap, rfl⟩ := hsh
   have Hip := hide hip
   generalize qs[j].1.2.length = ll at *
   generalize kEnd k (qs.take j) = kj at *
   generalize hk' : kEnd k (qs.take (j + 1)) = kj' at *
   have Hk' := hide hk'
   clear hcl hip hma hk'
   have hneg : ¬ kj + 1 + 2 * (ll : Int) < 0 := by omega
   go_wp2_with fail
   refine ck (heldPaceS_yes (kj + 1) ll (uh Hip) (by omega) (by omega) (by omega)) fun w2 hw2 => ?_
   subst w2
   go_wp2_with fail
   go_round
   case rel => exact ⟨j + 1, by omega, by go_num, by rw [uh Hk', hks]⟩
   case measure => exact ms
  ·obtain rfl : j = qs.length := by omega
   rw [List.take_length]
   go_wp2_with fail
   go_ret
   exact ⟨rfl, rfl⟩
theorem markHall_any {n₀ : Nat} {w : World} {v : Value} {qs : List (RoomV × Value)} (k : Int) (h : OwnHall n₀ w v qs) (hn : n₀ ≤ w.heap.size) (hk0 : 0 ≤ k) (hk1 : k ≤ 1000000000) (hl : qs.length ≤ 1048576) (hp : ∀ q ∈ qs, q.1.2.length ≤ 1048576) :
  Calls Tryz.prog 79 #[.agg #[v], .int .i64 k] w fun e w' => e = .returned (.int .i64 (kEnd k qs)) ∧ OwnHall n₀ w' v (markQ k qs) ∧ OwnOnly v qs w w' := by
 have Hv := hide h
 obtain ⟨a, cap, rfl⟩ := h.shape
 have Hp := hide hp
 clear h hp
 go_enter Tryz.func79, Tryz.ntmps79
 go_wp2_with fail
 refine (markRoomS_any k ((uh Hv).later ((ba _ _))) (by simp; omega) hk0 hk1 hl (uh Hp)).mono ?_
 rintro e w1 ⟨rfl, ho, hb⟩
 have Ho := hide ho
 have Hb := hide hb
 clear ho hb
 go_wp2_with fail
 go_ret
 exact ⟨rfl, uh Ho, (OwnOnly.alloc _ _ _ _).trans (uh Hb)⟩
theorem heldHall_yes {w : World} {v : Value} {qs : List (RoomV × Value)} (k : Int) (h : IsRooms w v ((markQ k qs).map (·.1))) (hk0 : 0 ≤ k) (hk1 : k ≤ 1000000000) (hl : qs.length ≤ 1048576) (hp : ∀ q ∈ qs, q.1.2.length ≤ 1048576) :
  Calls Tryz.prog 84 #[.agg #[v], .int .i64 k] w fun e w' => e = .returned (.int .i64 (kEnd k qs)) ∧ Below w.heap.size w w' := by
 have Hv := hide h
 obtain ⟨a, cap, rfl⟩ : ∃ a cap, v = .slice a qs.length cap := by obtain ⟨a, cap, rfl, _⟩ := h; exact ⟨a, cap, by rw [List.length_map, markQ_len]⟩
 have hb := kEnd_bd hp k qs.length (Nat.le_refl _)
 rw [List.take_length] at hb
 have Hp := hide hp
 have hneg : ¬ kEnd k qs < 0 := by omega
 clear h hp
 go_enter Tryz.func84, Tryz.ntmps84
 go_wp2_with fail
 refine ck (heldRoomS_yes (qs := qs) k ((uh Hv).below ((ba _ _))) hk0 hk1 hl (uh Hp)) fun w1 hw1 => ?_
 subst w1
 go_wp2_with fail
 go_ret
 exact ⟨rfl, (ba _ _)⟩
def mkGuild (c : Int) : GuildV := (c, c + 1, c + 1 + 1)
theorem markGuildS_any {n₀ : Nat} {w : World} {v : Value} {ps : List GuildV} (c : Int) (h : GuildsAt n₀ w v ps) (hk0 : 0 ≤ c) (hk1 : c ≤ 1000000000000000) (hl : ps.length ≤ 10000000) :
  Calls Tryz.prog 80 #[v, .int .i64 c] w fun e w' => e = .returned (.int .i64 (c + 3 * (ps.length : Int))) ∧ GuildsAt n₀ w' v (markL mkGuild 3 c ps.length) ∧ w.grownBy w' v.ownBlock := by
 have Hv := hide h
 obtain ⟨a, cap, rfl⟩ := RecAt.shape h
 clear h
 go_enter Tryz.func80, Tryz.ntmps80
 go_wp2_with fail
 go_loopw [5, 1] (fun i q wr => ∃ j : Nat, j ≤ ps.length ∧ i = .int .i64 j ∧ q = .int .i64 (c + 3 * (j : Int)) ∧ GuildsAt n₀ wr (.slice a ps.length cap) (markedL mkGuild 3 c ps j) ∧ w.grownBy wr (Value.ownBlock (.slice a ps.length cap))) (fun i _ _ => ps.length - (intOf i).toNat)
 case atStart => exact ⟨0, Nat.zero_le _, rfl, by simp, by rw [markedL_zero]; exact uh Hv, grown_refl _ _⟩
 case round =>
  obtain ⟨j, hj, rfl, rfl, hin, hgr⟩ := hrel
  by_cases hlt : j < ps.length
  ·have hfl := markedL_len (mk := mkGuild) (d := 3) (c := c) hj
   obtain ⟨g, rfl, _, _, hcells, hfz⟩ := RecAt.view encGuild_len (by omega) hin hfl.symm (by omega)
   have hq := fun i u hu => hcells j (by omega) i u hu
   generalize recAt (markedL mkGuild 3 c ps j) j = old at hq
   have o0 := hq 0 _ rfl
   have f0 := hfz (j * 3)
   have o1 := hq 1 _ rfl
   have f1 := hfz (j * 3 + 1)
   have o2 := hq 2 _ rfl
   have f2 := hfz (j * 3 + 2)
   simp only [Nat.add_zero] at o0
   have hp := RecAt.put encGuild_len (by omega) hin hfl.symm (j := j) (by omega) (mkGuild (c + 3 * (j : Int)))
   have hs9 := markedL_set (mk := mkGuild) (d := 3) (c := c) hlt
   rw [show ((3 : Nat) : Int) = 3 from rfl] at hs9
   have HS := hide hs9
   clear hs9
   have H1 := hide hp.1
   have H2 := hide (grown_trans hgr hp.2)
   clear hin hgr hcells hq hfz hp hfl
   go_wp2_with fail
   go_roundw
   case rel => exact ⟨j + 1, by omega, by go_num, by go_num, by have h9 := uh H1; rw [uh HS] at h9; exact h9, uh H2⟩
   case measure => exact ms
  ·obtain rfl : j = ps.length := by omega
   rw [markedL_all] at hin
   go_wp2_with fail
   go_ret
   exact ⟨rfl, hin, hgr⟩
theorem heldGuildS_yes {w : World} {v : Value} (c : Int) (n : Nat) (h : IsGuilds w v (markL mkGuild 3 c n)) (hk0 : 0 ≤ c) (hk1 : c ≤ 1000000000000000) (hl : n ≤ 10000000) :
  Calls Tryz.prog 85 #[v, .int .i64 c] w fun e w' => e = .returned (.int .i64 (c + 3 * (n : Int))) ∧ w' = w := by
 obtain ⟨a, cap, rfl, hc, hm, hrow⟩ := h
 rw [markL_len] at *
 have Hrow := hide hrow
 clear hrow
 go_enter Tryz.func85, Tryz.ntmps85
 go_wp2_with fail
 go_loop [5, 1] (fun i q => ∃ j : Nat, j ≤ n ∧ i = .int .i64 j ∧ q = .int .i64 (c + 3 * (j : Int))) (fun i _ => n - (intOf i).toNat)
 case atStart => exact ⟨0, Nat.zero_le _, rfl, by simp⟩
 case round =>
  obtain ⟨j, hj, rfl, rfl⟩ := hrel
  by_cases hlt : j < n
  ·rcases uh Hrow with h0 | ⟨bk, off, rfl, hbw, hcl⟩
   ·have := congrArg List.length h0; rw [markL_len] at this; simp at this; omega
   have hq := fun i u hu => hcl j hlt i u hu
   rw [markL_at _ _ _ hlt, show ((3 : Nat) : Int) = 3 from rfl] at hq
   have c0 : w.cell? ⟨bk, off + j * 3, none⟩ = some (.int .i64 ((c + 3 * (j : Int)))) := hq 0 _ rfl
   have c1 : w.cell? ⟨bk, off + j * 3 + 1, none⟩ = some (.int .i64 ((c + 3 * (j : Int)) + 1)) := hq 1 _ rfl
   have c2 : w.cell? ⟨bk, off + j * 3 + 2, none⟩ = some (.int .i64 ((c + 3 * (j : Int)) + 1 + 1)) := hq 2 _ rfl
   clear hcl hq
   go_wp2_with fail
   go_round
   case rel => exact ⟨j + 1, by omega, by go_num, by go_num⟩
   case measure => exact ms
  ·obtain rfl : j = n := by omega
   go_wp2_with fail
   go_ret
   exact ⟨rfl, rfl⟩
def mkSmith (c : Int) : SmithV := (c, c + 1, c + 1 + 1, c + 1 + 1 + 1, c + 1 + 1 + 1 + 1, c + 1 + 1 + 1 + 1 + 1, c + 1 + 1 + 1 + 1 + 1 + 1, c + 1 + 1 + 1 + 1 + 1 + 1 + 1, c + 1 + 1 + 1 + 1 + 1 + 1 + 1 + 1, c + 1 + 1 + 1 + 1 + 1 + 1 + 1 + 1 + 1, c + 1 + 1 + 1 + 1 + 1 + 1 + 1 + 1 + 1 + 1)
theorem markSmithS_any {n₀ : Nat} {w : World} {v : Value} {ps : List SmithV} (c : Int) (h : SmithsAt n₀ w v ps) (hk0 : 0 ≤ c) (hk1 : c ≤ 1000000000000000) (hl : ps.length ≤ 10000000) :
  Calls Tryz.prog 81 #[v, .int .i64 c] w fun e w' => e = .returned (.int .i64 (c + 11 * (ps.length : Int))) ∧ SmithsAt n₀ w' v (markL mkSmith 11 c ps.length) ∧ w.grownBy w' v.ownBlock := by
 have Hv := hide h
 obtain ⟨a, cap, rfl⟩ := RecAt.shape h
 clear h
 go_enter Tryz.func81, Tryz.ntmps81
 go_wp2_with fail
 go_loopw [5, 1] (fun i q wr => ∃ j : Nat, j ≤ ps.length ∧ i = .int .i64 j ∧ q = .int .i64 (c + 11 * (j : Int)) ∧ SmithsAt n₀ wr (.slice a ps.length cap) (markedL mkSmith 11 c ps j) ∧ w.grownBy wr (Value.ownBlock (.slice a ps.length cap))) (fun i _ _ => ps.length - (intOf i).toNat)
 case atStart => exact ⟨0, Nat.zero_le _, rfl, by simp, by rw [markedL_zero]; exact uh Hv, grown_refl _ _⟩
 case round =>
  obtain ⟨j, hj, rfl, rfl, hin, hgr⟩ := hrel
  by_cases hlt : j < ps.length
  ·have hfl := markedL_len (mk := mkSmith) (d := 11) (c := c) hj
   obtain ⟨g, rfl, _, _, hcells, hfz⟩ := RecAt.view encSmith_len (by omega) hin hfl.symm (by omega)
   have hq := fun i u hu => hcells j (by omega) i u hu
   generalize recAt (markedL mkSmith 11 c ps j) j = old at hq
   have o0 := hq 0 _ rfl
   have f0 := hfz (j * 11)
   have o1 := hq 1 _ rfl
   have f1 := hfz (j * 11 + 1)
   have o2 := hq 2 _ rfl
   have f2 := hfz (j * 11 + 2)
   have o3 := hq 3 _ rfl
   have f3 := hfz (j * 11 + 3)
   have o4 := hq 4 _ rfl
   have f4 := hfz (j * 11 + 4)
   have o5 := hq 5 _ rfl
   have f5 := hfz (j * 11 + 5)
   have o6 := hq 6 _ rfl
   have f6 := hfz (j * 11 + 6)
   have o7 := hq 7 _ rfl
   have f7 := hfz (j * 11 + 7)
   have o8 := hq 8 _ rfl
   have f8 := hfz (j * 11 + 8)
   have o9 := hq 9 _ rfl
   have f9 := hfz (j * 11 + 9)
   have o10 := hq 10 _ rfl
   have f10 := hfz (j * 11 + 10)
   simp only [Nat.add_zero] at o0
   have hp := RecAt.put encSmith_len (by omega) hin hfl.symm (j := j) (by omega) (mkSmith (c + 11 * (j : Int)))
   have hs9 := markedL_set (mk := mkSmith) (d := 11) (c := c) hlt
   rw [show ((11 : Nat) : Int) = 11 from rfl] at hs9
   have HS := hide hs9
   clear hs9
   have H1 := hide hp.1
   have H2 := hide (grown_trans hgr hp.2)
   clear hin hgr hcells hq hfz hp hfl
   go_wp2_with fail
   go_roundw
   case rel => exact ⟨j + 1, by omega, by go_num, by go_num, by have h9 := uh H1; rw [uh HS] at h9; exact h9, uh H2⟩
   case measure => exact ms
  ·obtain rfl : j = ps.length := by omega
   rw [markedL_all] at hin
   go_wp2_with fail
   go_ret
   exact ⟨rfl, hin, hgr⟩
theorem heldSmithS_yes {w : World} {v : Value} (c : Int) (n : Nat) (h : IsSmiths w v (markL mkSmith 11 c n)) (hk0 : 0 ≤ c) (hk1 : c ≤ 1000000000000000) (hl : n ≤ 10000000) :
  Calls Tryz.prog 86 #[v, .int .i64 c] w fun e w' => e = .returned (.int .i64 (c + 11 * (n : Int))) ∧ w' = w := by
 obtain ⟨a, cap, rfl, hc, hm, hrow⟩ := h
 rw [markL_len] at *
 have Hrow := hide hrow
 clear hrow
 go_enter Tryz.func86, Tryz.ntmps86
 go_wp2_with fail
 go_loop [5, 1] (fun i q => ∃ j : Nat, j ≤ n ∧ i = .int .i64 j ∧ q = .int .i64 (c + 11 * (j : Int))) (fun i _ => n - (intOf i).toNat)
 case atStart => exact ⟨0, Nat.zero_le _, rfl, by simp⟩
 case round =>
  obtain ⟨j, hj, rfl, rfl⟩ := hrel
  by_cases hlt : j < n
  ·rcases uh Hrow with h0 | ⟨bk, off, rfl, hbw, hcl⟩
   ·have := congrArg List.length h0; rw [markL_len] at this; simp at this; omega
   have hq := fun i u hu => hcl j hlt i u hu
   rw [markL_at _ _ _ hlt, show ((11 : Nat) : Int) = 11 from rfl] at hq
   have c0 : w.cell? ⟨bk, off + j * 11, none⟩ = some (.int .i64 ((c + 11 * (j : Int)))) := hq 0 _ rfl
   have c1 : w.cell? ⟨bk, off + j * 11 + 1, none⟩ = some (.int .i64 ((c + 11 * (j : Int)) + 1)) := hq 1 _ rfl
   have c2 : w.cell? ⟨bk, off + j * 11 + 2, none⟩ = some (.int .i64 ((c + 11 * (j : Int)) + 1 + 1)) := hq 2 _ rfl
   have c3 : w.cell? ⟨bk, off + j * 11 + 3, none⟩ = some (.int .i64 ((c + 11 * (j : Int)) + 1 + 1 + 1)) := hq 3 _ rfl
   have c4 : w.cell? ⟨bk, off + j * 11 + 4, none⟩ = some (.int .i64 ((c + 11 * (j : Int)) + 1 + 1 + 1 + 1)) := hq 4 _ rfl
   have c5 : w.cell? ⟨bk, off + j * 11 + 5, none⟩ = some (.int .i64 ((c + 11 * (j : Int)) + 1 + 1 + 1 + 1 + 1)) := hq 5 _ rfl
   have c6 : w.cell? ⟨bk, off + j * 11 + 6, none⟩ = some (.int .i64 ((c + 11 * (j : Int)) + 1 + 1 + 1 + 1 + 1 + 1)) := hq 6 _ rfl
   have c7 : w.cell? ⟨bk, off + j * 11 + 7, none⟩ = some (.int .i64 ((c + 11 * (j : Int)) + 1 + 1 + 1 + 1 + 1 + 1 + 1)) := hq 7 _ rfl
   have c8 : w.cell? ⟨bk, off + j * 11 + 8, none⟩ = some (.int .i64 ((c + 11 * (j : Int)) + 1 + 1 + 1 + 1 + 1 + 1 + 1 + 1)) := hq 8 _ rfl
   have c9 : w.cell? ⟨bk, off + j * 11 + 9, none⟩ = some (.int .i64 ((c + 11 * (j : Int)) + 1 + 1 + 1 + 1 + 1 + 1 + 1 + 1 + 1)) := hq 9 _ rfl
   have c10 : w.cell? ⟨bk, off + j * 11 + 10, none⟩ = some (.int .i64 ((c + 11 * (j : Int)) + 1 + 1 + 1 + 1 + 1 + 1 + 1 + 1 + 1 + 1)) := hq 10 _ rfl
   clear hcl hq
   go_wp2_with fail
   go_round
   case rel => exact ⟨j + 1, by omega, by go_num, by go_num⟩
   case measure => exact ms
  ·obtain rfl : j = n := by omega
   go_wp2_with fail
   go_ret
   exact ⟨rfl, rfl⟩
def mkDesk (c : Int) : DeskV := ((c % 3 == 0), c + 1, c + 1 + 1)
theorem markDeskS_any {n₀ : Nat} {w : World} {v : Value} {ps : List DeskV} (c : Int) (h : DesksAt n₀ w v ps) (hk0 : 0 ≤ c) (hk1 : c ≤ 1000000000000000) (hl : ps.length ≤ 10000000) :
  Calls Tryz.prog 82 #[v, .int .i64 c] w fun e w' => e = .returned (.int .i64 (c + 3 * (ps.length : Int))) ∧ DesksAt n₀ w' v (markL mkDesk 3 c ps.length) ∧ w.grownBy w' v.ownBlock := by
 have Hv := hide h
 obtain ⟨a, cap, rfl⟩ := RecAt.shape h
 clear h
 go_enter Tryz.func82, Tryz.ntmps82
 go_wp2_with fail
 go_loopw [5, 1] (fun i q wr => ∃ j : Nat, j ≤ ps.length ∧ i = .int .i64 j ∧ q = .int .i64 (c + 3 * (j : Int)) ∧ DesksAt n₀ wr (.slice a ps.length cap) (markedL mkDesk 3 c ps j) ∧ w.grownBy wr (Value.ownBlock (.slice a ps.length cap))) (fun i _ _ => ps.length - (intOf i).toNat)
 case atStart => exact ⟨0, Nat.zero_le _, rfl, by simp, by rw [markedL_zero]; exact uh Hv, grown_refl _ _⟩
 case round =>
  obtain ⟨j, hj, rfl, rfl, hin, hgr⟩ := hrel
  by_cases hlt : j < ps.length
  ·have hfl := markedL_len (mk := mkDesk) (d := 3) (c := c) hj
   obtain ⟨g, rfl, _, _, hcells, hfz⟩ := RecAt.view encDesk_len (by omega) hin hfl.symm (by omega)
   have hq := fun i u hu => hcells j (by omega) i u hu
   generalize recAt (markedL mkDesk 3 c ps j) j = old at hq
   have hmod : (c + 3 * (j : Int)) % 3 = c % 3 := by omega
   have o0 := hq 0 _ rfl
   have f0 := hfz (j * 3)
   have o1 := hq 1 _ rfl
   have f1 := hfz (j * 3 + 1)
   have o2 := hq 2 _ rfl
   have f2 := hfz (j * 3 + 2)
   simp only [Nat.add_zero] at o0
   have hp := RecAt.put encDesk_len (by omega) hin hfl.symm (j := j) (by omega) (mkDesk (c + 3 * (j : Int)))
   have hs9 := markedL_set (mk := mkDesk) (d := 3) (c := c) hlt
   rw [show ((3 : Nat) : Int) = 3 from rfl] at hs9
   have HS := hide hs9
   clear hs9
   have H1 := hide hp.1
   have H2 := hide (grown_trans hgr hp.2)
   clear hin hgr hcells hq hfz hp hfl
   go_wp2_with fail
   go_roundw
   case rel => exact ⟨j + 1, by omega, by go_num, by go_num, by have h9 := uh H1; rw [uh HS] at h9; simpa [setW, encDesk, mkDesk, hmod] using h9, by have h9 := uh H2; simpa [setW, encDesk, mkDesk, hmod] using h9⟩
   case measure => exact ms
  ·obtain rfl : j = ps.length := by omega
   rw [markedL_all] at hin
   go_wp2_with fail
   go_ret
   exact ⟨rfl, hin, hgr⟩
theorem heldDeskS_yes {w : World} {v : Value} (c : Int) (n : Nat) (h : IsDesks w v (markL mkDesk 3 c n)) (hk0 : 0 ≤ c) (hk1 : c ≤ 1000000000000000) (hl : n ≤ 10000000) :
  Calls Tryz.prog 87 #[v, .int .i64 c] w fun e w' => e = .returned (.int .i64 (c + 3 * (n : Int))) ∧ w' = w := by
 obtain ⟨a, cap, rfl, hc, hm, hrow⟩ := h
 rw [markL_len] at *
 have Hrow := hide hrow
 clear hrow
 go_enter Tryz.func87, Tryz.ntmps87
 go_wp2_with fail
 go_loop [5, 1] (fun i q => ∃ j : Nat, j ≤ n ∧ i = .int .i64 j ∧ q = .int .i64 (c + 3 * (j : Int))) (fun i _ => n - (intOf i).toNat)
 case atStart => exact ⟨0, Nat.zero_le _, rfl, by simp⟩
 case round =>
  obtain ⟨j, hj, rfl, rfl⟩ := hrel
  by_cases hlt : j < n
  ·rcases uh Hrow with h0 | ⟨bk, off, rfl, hbw, hcl⟩
   ·have := congrArg List.length h0; rw [markL_len] at this; simp at this; omega
   have hq := fun i u hu => hcl j hlt i u hu
   rw [markL_at _ _ _ hlt, show ((3 : Nat) : Int) = 3 from rfl] at hq
   have c0 : w.cell? ⟨bk, off + j * 3, none⟩ = some (.bool ((c + 3 * (j : Int)) % 3 == 0)) := hq 0 _ rfl
   have c1 : w.cell? ⟨bk, off + j * 3 + 1, none⟩ = some (.int .i64 ((c + 3 * (j : Int)) + 1)) := hq 1 _ rfl
   have c2 : w.cell? ⟨bk, off + j * 3 + 2, none⟩ = some (.int .i64 ((c + 3 * (j : Int)) + 1 + 1)) := hq 2 _ rfl
   clear hcl hq
   go_wp2_with fail
   go_round
   case rel => exact ⟨j + 1, by omega, by go_num, by go_num⟩
   case measure => exact ms
  ·obtain rfl : j = n := by omega
   go_wp2_with fail
   go_ret
   exact ⟨rfl, rfl⟩
open Go.ChangeShapes Go.WideShapes Go.ChangeAt Go.RowKit
def IntsAt (n₀ : Nat) (w : World) (v : Value) (zs : List Int) : Prop := w.ownsRow n₀ 2 1 v zs.length (zs.map (Value.int .i64))
theorem IntsAt.view {n₀ : Nat} {w : World} {v : Value} {zs : List Int} (h : IntsAt n₀ w v zs) :
  ∃ (a : Option Addr) (cap : Nat), v = .slice a zs.length cap ∧ zs.length ≤ 9223372036854775807 ∧ (zs = [] ∨ ∃ g, a = some ⟨g, 0, none⟩ ∧ n₀ ≤ g ∧ g < w.heap.size ∧
   (∀ k, k < zs.length → w.cell? ⟨g, k, none⟩ = some (.int .i64 (zs.getD k 0))) ∧ (∀ k, w.frozen? ⟨g, k, none⟩ = false)) := by
 have h' := h
 rcases h.2 with ⟨rfl, hz⟩ | ⟨g, cap, cur, rfl, hb, hg, hnc, hcm, r⟩
 ·exact ⟨none, 0, by rw [hz], by omega, .inl (List.eq_nil_of_length_eq_zero hz)⟩
 ·refine ⟨_, cap, rfl, by unfold maxLen at hcm; omega, .inr ⟨g, rfl, hb, (Array.getElem?_eq_some_iff.1 hg).1, fun k hk => ?_, fun k => World.ownsRow.frozenAt h' k⟩⟩
  rw [World.ownsRow.cellAt h' k (by omega)]
  simp [List.getElem?_eq_getElem hk]
theorem grownBy_trans {a b c : World} {row : Option Nat} (h : a.grownBy b row) (k : b.grownBy c row) : a.grownBy c row :=
 ⟨k.os.trans h.os, k.tape.trans h.tape, k.output.trans h.output, Nat.le_trans h.size k.size, fun i hi hn => (k.block i (Nat.lt_of_lt_of_le hi h.size) hn).trans (h.block i hi hn)⟩
theorem grownBy_refl (a : World) (row : Option Nat) : a.grownBy a row := ⟨rfl, rfl, rfl, Nat.le_refl _, fun _ _ _ => rfl⟩
theorem IntsAt.stored {n₀ : Nat} {w : World} {g n cap : Nat} {zs : List Int} (h : IntsAt n₀ w (.slice (some ⟨g, 0, none⟩) n cap) zs) (hn : zs.length = n) (j : Nat) (u : Int) :
  IntsAt n₀ (w.setCell ⟨g, j, none⟩ (.int .i64 u)) (.slice (some ⟨g, 0, none⟩) n cap) (zs.set j u) ∧ w.grownBy (w.setCell ⟨g, j, none⟩ (.int .i64 u)) (some g) := by
 subst hn
 have := World.ownsRow.stored h j (.int .i64 u)
 refine ⟨?_, this.2⟩
 unfold IntsAt
 rw [List.length_set, List.map_set]
 exact this.1
def marks (k : Int) (n : Nat) : List Int := (List.range n).map fun i : Nat => k + (i : Int)
theorem marks_len (k : Int) (n : Nat) : (marks k n).length = n := by simp [marks]
theorem marks_get (k : Int) (n i : Nat) (h : i < n) : (marks k n).getD i 0 = k + i := by simp [marks, h]
def marked (zs : List Int) (k : Int) (j : Nat) : List Int := marks k j ++ zs.drop j
theorem marked_len {zs : List Int} {k : Int} {j : Nat} (h : j ≤ zs.length) : (marked zs k j).length = zs.length := by simp [marked, marks_len]; omega
theorem marked_succ {zs : List Int} {k : Int} {j : Nat} (h : j < zs.length) : (marked zs k j).set j (k + j) = marked zs k (j + 1) := by
 unfold marked
 rw [List.set_append_right _ _ (by simp [marks_len]), marks_len, Nat.sub_self, List.drop_eq_getElem_cons h, List.set_cons_zero]
 simp [marks, List.range_succ]
theorem marked_all (zs : List Int) (k : Int) : marked zs k zs.length = marks k zs.length := by simp [marked]
theorem markInts_any {n₀ : Nat} {w : World} {v : Value} {zs : List Int} (k : Int) (hv : IntsAt n₀ w v zs) (hk0 : 0 ≤ k) (hk1 : k ≤ 1000000000000000) (hl : zs.length ≤ 1000000000) :
  Calls Tryz.prog 83 #[v, .int .i64 k] w fun e w' => e = .returned (.int .i64 (k + zs.length)) ∧ IntsAt n₀ w' v (marks k zs.length) ∧ w.grownBy w' v.ownBlock := by
 have hv0 := hide hv
 obtain ⟨a, cap, rfl, hlen, hca⟩ := hv.view
 clear hv
 go_enter Tryz.func83, Tryz.ntmps83
 go_wp2_with fail
 go_loopw [5, 1] (fun i q wr => ∃ j : Nat, j ≤ zs.length ∧ i = .int .i64 j ∧ q = .int .i64 (k + j) ∧ IntsAt n₀ wr (.slice a zs.length cap) (marked zs k j) ∧ w.grownBy wr (Value.ownBlock (.slice a zs.length cap))) (fun i _ _ => zs.length - (intOf i).toNat)
 case atStart => exact ⟨0, Nat.zero_le _, rfl, by simp, uh hv0, grownBy_refl _ _⟩
 case round =>
  obtain ⟨j, hj, rfl, rfl, hin, hgr⟩ := hrel
  by_cases hlt : j < zs.length
  ·rcases hca with rfl | ⟨g, rfl, _, _, _, _⟩
   ·simp at hlt
   obtain ⟨hs1, hs2⟩ := hin.stored (marked_len hj) j (k + j)
   rw [marked_succ hlt] at hs1
   have H1 := hide hs1
   have H2 := hide (grownBy_trans hgr hs2)
   have hfz := World.ownsRow.frozenAt (show wr.ownsRow n₀ 2 1 (.slice (some ⟨g, 0, none⟩) (marked zs k j).length cap) (marked zs k j).length _ by rw [marked_len hj]; have h9 := hin; unfold IntsAt at h9; rwa [marked_len hj] at h9) j
   have hcl : ∃ c, wr.cell? ⟨g, j, none⟩ = some c := by
    have h9 := hin
    unfold IntsAt at h9
    rw [marked_len hj] at h9
    have := World.ownsRow.cellAt h9 j (by omega)
    rw [List.getElem?_eq_getElem (by simp [marked_len hj]; omega)] at this
    exact ⟨_, this⟩
   obtain ⟨c, hcl⟩ := hcl
   clear hin hgr hs1 hs2
   go_wp2_with fail
   go_roundw
   case rel => exact ⟨j + 1, by omega, by go_num, by go_num, uh H1, uh H2⟩
   case measure => exact ms
  ·obtain rfl : j = zs.length := by omega
   rw [marked_all] at hin
   go_wp2_with fail
   go_ret
   exact ⟨rfl, hin, hgr⟩
theorem heldInts_yes {n₀ : Nat} {w : World} {v : Value} (k : Int) (n : Nat) (hv : IntsAt n₀ w v (marks k n)) (hk0 : 0 ≤ k) (hk1 : k ≤ 1000000000000000) (hl : n ≤ 1000000000) :
  Calls Tryz.prog 88 #[v, .int .i64 k] w fun e w' => e = .returned (.int .i64 (k + n)) ∧ w' = w := by
 obtain ⟨a, cap, rfl, hlen, hca⟩ := hv.view
 clear hv
 rw [marks_len] at *
 go_enter Tryz.func88, Tryz.ntmps88
 go_wp2_with fail
 go_loop [5, 1] (fun i q => ∃ j : Nat, j ≤ n ∧ i = .int .i64 j ∧ q = .int .i64 (k + j)) (fun i _ => n - (intOf i).toNat)
 case atStart => exact ⟨0, Nat.zero_le _, rfl, by simp⟩
 case round =>
  obtain ⟨j, hj, rfl, rfl⟩ := hrel
  by_cases hlt : j < n
  ·rcases hca with hz | ⟨g, rfl, _, _, hc, _⟩
   ·have := congrArg List.length hz; rw [marks_len] at this; simp at this; omega
   have h1 := hc j hlt
   rw [marks_get k n j hlt] at h1
   clear hc
   go_wp2_with fail
   go_round
   case rel => exact ⟨j + 1, by omega, by go_num, by go_num⟩
   case measure => exact ms
  ·obtain rfl : j = n := by omega
   go_wp2_with fail
   go_ret
   exact ⟨rfl, rfl⟩
theorem flat_num : ∀ zs : List Int, flat encNum zs = zs.map (Value.int .i64)
 | [] => rfl
 | z :: zs => by
  have := flat_num zs
  unfold flat at this ⊢
  rw [List.flatMap_cons, this]
  rfl
theorem nums_ints {n₀ : Nat} {w : World} {v : Value} {zs : List Int} : NumsAt n₀ w v zs ↔ IntsAt n₀ w v zs := by
 unfold NumsAt RecAt IntsAt
 rw [flat_num]
theorem markNums_any {n₀ : Nat} {w : World} {v : Value} {zs : List Int} (k : Int) (h : NumsAt n₀ w v zs) (hk0 : 0 ≤ k) (hk1 : k ≤ 1000000000000000) (hl : zs.length ≤ 1000000000) :
  Calls Tryz.prog 83 #[v, .int .i64 k] w fun e w' => e = .returned (.int .i64 (k + zs.length)) ∧ NumsAt n₀ w' v (marks k zs.length) ∧ w.grownBy w' v.ownBlock :=
 (markInts_any k (nums_ints.1 h) hk0 hk1 hl).mono fun e w' ⟨h1, h2, h3⟩ => ⟨h1, nums_ints.2 h2, h3⟩
theorem heldNums_yes {n₀ : Nat} {w : World} {v : Value} (k : Int) (n : Nat) (h : NumsAt n₀ w v (marks k n)) (hk0 : 0 ≤ k) (hk1 : k ≤ 1000000000000000) (hl : n ≤ 1000000000) :
  Calls Tryz.prog 88 #[v, .int .i64 k] w fun e w' => e = .returned (.int .i64 (k + n)) ∧ w' = w :=
 heldInts_yes k n (nums_ints.1 h) hk0 hk1 hl
theorem markQ_vals : ∀ (qs : List (RoomV × Value)) (k : Int), (markQ k qs).map (·.2) = qs.map (·.2)
 | [], _ => rfl
 | q :: qs, k => by
  have := markQ_vals qs (k + 1 + 2 * (q.1.2.length : Int))
  simp only [markQ, List.map_cons]
  rw [this]
theorem markQ_mem {qs : List (RoomV × Value)} {k : Int} {q : RoomV × Value} (h : q ∈ markQ k qs) : ∃ q' ∈ qs, q'.2 = q.2 := by
 have : q.2 ∈ (markQ k qs).map (·.2) := List.mem_map.2 ⟨q, h, rfl⟩
 rw [markQ_vals] at this
 exact List.mem_map.1 this
theorem OffHall.marked {u v : Value} {qs : List (RoomV × Value)} (h : OffHall u v qs) (k : Int) : OffHall u v (markQ k qs) :=
 ⟨h.1, fun q hq => by obtain ⟨q', h1, h2⟩ := markQ_mem hq; rw [← h2]; exact h.2 q' h1⟩
structure SmyOnly (v0 v1 v2 v3 v4 : Value) (qs : List (RoomV × Value)) (w w' : World) : Prop where
 os : w'.os = w.os
 tape : w'.tape = w.tape
 output : w'.output = w.output
 size : w.heap.size ≤ w'.heap.size
 block : ∀ k, k < w.heap.size → v0.ownBlock ≠ some k → (∀ q ∈ qs, q.2.ownBlock ≠ some k) → v1.ownBlock ≠ some k → v2.ownBlock ≠ some k → v3.ownBlock ≠ some k → v4.ownBlock ≠ some k → w'.heap[k]? = w.heap[k]?
def markM (k : Int) (m : SmyV) (qs : List (RoomV × Value)) : SmyV :=
 { rooms := (markQ k qs).map (·.1), guilds := markL mkGuild 3 (kEnd k qs) m.guilds.length, smiths := markL mkSmith 11 (kEnd k qs + 3 * (m.guilds.length : Int)) m.smiths.length, desks := markL mkDesk 3 (kEnd k qs + 3 * (m.guilds.length : Int) + 11 * (m.smiths.length : Int)) m.desks.length, paces := marks (kEnd k qs + 3 * (m.guilds.length : Int) + 11 * (m.smiths.length : Int) + 3 * (m.desks.length : Int)) m.paces.length, now := m.now }
def endM (k : Int) (m : SmyV) (qs : List (RoomV × Value)) : Int := kEnd k qs + 3 * (m.guilds.length : Int) + 11 * (m.smiths.length : Int) + 3 * (m.desks.length : Int) + (m.paces.length : Int)
theorem small_qs {m : SmyV} {qs : List (RoomV × Value)} (hs : Small m.rooms) (hm : qs.map (·.1) = m.rooms) : qs.length ≤ 1048576 ∧ ∀ q ∈ qs, q.1.2.length ≤ 1048576 := by
 have hl : qs.length = m.rooms.length := by rw [← hm, List.length_map]
 refine ⟨by have := hs.1; omega, fun q hq => ?_⟩
 have hq' : q.1 ∈ m.rooms := by rw [← hm]; exact List.mem_map.2 ⟨q, hq, rfl⟩
 obtain ⟨j, hj, e⟩ := List.getElem_of_mem hq'
 have := hs.2 j hj
 have hat : roomAt m.rooms j = m.rooms[j] := by unfold roomAt; simp [List.getD, hj]
 rw [hat, e] at this
 exact this
theorem kEnd_all {qs : List (RoomV × Value)} (hl : qs.length ≤ 1048576) (hp : ∀ q ∈ qs, q.1.2.length ≤ 1048576) (k : Int) : k ≤ kEnd k qs ∧ kEnd k qs ≤ k + 2199024304128 := by
 have := kEnd_bd hp k qs.length (Nat.le_refl _)
 rw [List.take_length] at this
 omega
theorem OwnHall.keep {n₀ : Nat} {w w' : World} {u v : Value} {qs : List (RoomV × Value)} (h : OwnHall n₀ w v qs) (hg : w.grownBy w' u.ownBlock) (ho : OffHall u v qs) : OwnHall n₀ w' v qs :=
 ⟨own_same h.row fun k e => hg.block k (h.lt (.inl e)).2 (fun e' => ho.1 k e'.symm e), fun q hq => own_same (h.paces q hq) fun k e => hg.block k (h.lt (.inr ⟨q, hq, e⟩)).2 (fun e' => ho.2 q hq k e'.symm e), h.off, h.apart⟩
theorem markSmithy_any {n₀ : Nat} {w : World} {v0 v1 v2 v3 v4 : Value} {m : SmyV} {qs : List (RoomV × Value)} (k : Int) (h : FullSmy n₀ w v0 v1 v2 v3 v4 m qs) (hs : SmySmall m) (hn : n₀ ≤ w.heap.size) (hk0 : 0 ≤ k) (hk1 : k ≤ 1000000000) :
  Calls Tryz.prog 28 #[.agg #[v0, v1, v2, v3, v4, .int .i64 m.now], .int .i64 k] w fun e w' => e = .returned (.int .i64 (endM k m qs)) ∧ FullSmy n₀ w' v0 v1 v2 v3 v4 (markM k m qs) (markQ k qs) ∧ SmyOnly v0 v1 v2 v3 v4 qs w w' := by
 obtain ⟨sq, sp⟩ := small_qs hs.rooms h.rooms
 obtain ⟨e0, e1⟩ := kEnd_all sq sp k
 have Sp := hide sp
 obtain ⟨_, s1, s2, s3, s4⟩ := hs
 have hql : qs.length = m.rooms.length := by rw [← h.rooms, List.length_map]
 have Hf := hide h
 have Ha := hide (h.below ((Below.refl _ _).alloc (Nat.le_refl _) (.cells #[v0, v1, v2, v3, v4, .int .i64 m.now] 32)))
 obtain ⟨a0, p0, rfl⟩ := h.hall.shape
 obtain ⟨a1, p1, rfl⟩ := RecAt.shape h.guilds
 obtain ⟨a2, p2, rfl⟩ := RecAt.shape h.smiths
 obtain ⟨a3, p3, rfl⟩ := RecAt.shape h.desks
 obtain ⟨a4, p4, rfl⟩ := RecAt.shape h.paces
 rw [hql] at *
 clear h sp hql
 unfold endM
 generalize hke : kEnd k qs = ke at *
 have Hke := hide hke
 clear hke
 go_enter Tryz.func28, Tryz.ntmps28
 go_wp2_with fail
 have kb : Hid (Blk (w.alloc (.cells (S6 a0 p0 a1 p1 a2 p2 a3 p3 a4 p4 m) 32)) w.heap.size 32 (S6 a0 p0 a1 p1 a2 p2 a3 p3 a4 p4 m)) := hide (Blk.new w _ _)
 have OO : Hid (SmyOnly (.slice a0 m.rooms.length p0) (.slice a1 m.guilds.length p1) (.slice a2 m.smiths.length p2) (.slice a3 m.desks.length p3) (.slice a4 m.paces.length p4) qs w (w.alloc (.cells (S6 a0 p0 a1 p1 a2 p2 a3 p3 a4 p4 m) 32))) := hide ⟨rfl, rfl, rfl, by simp, fun k hk _ _ _ _ _ _ => Below.heap_alloc w _ k hk⟩
 have Ln : Hid (∀ b, ((Value.slice a0 m.rooms.length p0).ownBlock = some b ∨ ∃ q ∈ qs, q.2.ownBlock = some b) → b < w.heap.size) := hide (fun b e => ((uh Hf).hall.lt e).2)
 have L1 : Hid (∀ b, (Value.slice a1 m.guilds.length p1).ownBlock = some b → b < w.heap.size) := hide (fun b e => (RecAt.lt (uh Hf).guilds e).2)
 have L2 : Hid (∀ b, (Value.slice a2 m.smiths.length p2).ownBlock = some b → b < w.heap.size) := hide (fun b e => (RecAt.lt (uh Hf).smiths e).2)
 have L3 : Hid (∀ b, (Value.slice a3 m.desks.length p3).ownBlock = some b → b < w.heap.size) := hide (fun b e => (RecAt.lt (uh Hf).desks e).2)
 have L4 : Hid (∀ b, (Value.slice a4 m.paces.length p4).ownBlock = some b → b < w.heap.size) := hide (fun b e => (RecAt.lt (uh Hf).paces e).2)
 have n0 := hide (uh Ha).hall
 have n1 := hide (uh Ha).guilds
 have n2 := hide (uh Ha).smiths
 have n3 := hide (uh Ha).desks
 have n4 := hide (uh Ha).paces
 have hsz : w.heap.size < (w.alloc (.cells (S6 a0 p0 a1 p1 a2 p2 a3 p3 a4 p4 m) 32)).heap.size := (uh kb).lt
 clear Ha
 generalize w.alloc (.cells (S6 a0 p0 a1 p1 a2 p2 a3 p3 a4 p4 m) 32) = W at *
 refine (markHall_any k (uh n0) (by omega) hk0 hk1 (by omega) (uh Sp)).mono ?_
 rintro e w1 ⟨rfl, ho, hb⟩
 rw [uh Hke]
 replace n0 := hide ho
 replace n1 := hide (RecAt.same (uh n1) fun b e => hb.block b (RecAt.lt (uh n1) e).2 ((uh Hf).h1.1 b e) (fun q hq => (uh Hf).h1.2 q hq b e))
 replace n2 := hide (RecAt.same (uh n2) fun b e => hb.block b (RecAt.lt (uh n2) e).2 ((uh Hf).h2.1 b e) (fun q hq => (uh Hf).h2.2 q hq b e))
 replace n3 := hide (RecAt.same (uh n3) fun b e => hb.block b (RecAt.lt (uh n3) e).2 ((uh Hf).h3.1 b e) (fun q hq => (uh Hf).h3.2 q hq b e))
 replace n4 := hide (RecAt.same (uh n4) fun b e => hb.block b (RecAt.lt (uh n4) e).2 ((uh Hf).h4.1 b e) (fun q hq => (uh Hf).h4.2 q hq b e))
 replace kb := hide ((uh kb).same (hb.block w.heap.size hsz (fun e => by have := uh Ln _ (.inl e); omega) (fun q hq e => by have := uh Ln _ (.inr ⟨q, hq, e⟩); omega)))
 replace OO := hide (⟨hb.os.trans (uh OO).os, hb.tape.trans (uh OO).tape, hb.output.trans (uh OO).output, Nat.le_trans (uh OO).size hb.size, fun k hk h0 hq h1 h2 h3 h4 => (hb.block k (Nat.lt_of_lt_of_le hk (uh OO).size) h0 hq).trans ((uh OO).block k hk h0 hq h1 h2 h3 h4)⟩ : SmyOnly _ _ _ _ _ qs w w1)
 replace hsz : w.heap.size < w1.heap.size := Nat.lt_of_lt_of_le hsz hb.size
 clear ho hb
 have c1 := (uh kb).cell (i := 1) (v := .slice a1 m.guilds.length p1) rfl
 go_wp2_with fail
 clear c1
 refine (markGuildS_any (ke) (uh n1) (by omega) (by omega) (by omega)).mono ?_
 rintro e w2 ⟨rfl, ho, hg⟩
 have hlt1 := fun b e => uh L1 b e
 replace n0 := hide (OwnHall.keep (uh n0) hg ((uh Hf).h1.marked k))
 replace n2 := hide (RecAt.grown (uh n2) hg (fun b e => fun e2 => ((uh Hf).a12).symm b e e2))
 replace n3 := hide (RecAt.grown (uh n3) hg (fun b e => fun e2 => ((uh Hf).a13).symm b e e2))
 replace n4 := hide (RecAt.grown (uh n4) hg (fun b e => fun e2 => ((uh Hf).a14).symm b e e2))
 replace n1 := hide ho
 replace kb := hide ((uh kb).same (hg.block w.heap.size hsz (fun e => by have := hlt1 _ e.symm; omega)))
 replace OO := hide (⟨hg.os.trans (uh OO).os, hg.tape.trans (uh OO).tape, hg.output.trans (uh OO).output, Nat.le_trans (uh OO).size hg.size, fun k hk h0 hq h1 h2 h3 h4 => (hg.block k (Nat.lt_of_lt_of_le hk (uh OO).size) (fun e => h1 e.symm)).trans ((uh OO).block k hk h0 hq h1 h2 h3 h4)⟩ : SmyOnly _ _ _ _ _ qs w w2)
 replace hsz : w.heap.size < w2.heap.size := Nat.lt_of_lt_of_le hsz hg.size
 clear ho hg hlt1
 have c2 := (uh kb).cell (i := 2) (v := .slice a2 m.smiths.length p2) rfl
 go_wp2_with fail
 clear c2
 refine (markSmithS_any (ke + 3 * (m.guilds.length : Int)) (uh n2) (by omega) (by omega) (by omega)).mono ?_
 rintro e w3 ⟨rfl, ho, hg⟩
 have hlt2 := fun b e => uh L2 b e
 replace n0 := hide (OwnHall.keep (uh n0) hg ((uh Hf).h2.marked k))
 replace n1 := hide (RecAt.grown (uh n1) hg (fun b e => fun e2 => (uh Hf).a12 b e e2))
 replace n3 := hide (RecAt.grown (uh n3) hg (fun b e => fun e2 => ((uh Hf).a23).symm b e e2))
 replace n4 := hide (RecAt.grown (uh n4) hg (fun b e => fun e2 => ((uh Hf).a24).symm b e e2))
 replace n2 := hide ho
 replace kb := hide ((uh kb).same (hg.block w.heap.size hsz (fun e => by have := hlt2 _ e.symm; omega)))
 replace OO := hide (⟨hg.os.trans (uh OO).os, hg.tape.trans (uh OO).tape, hg.output.trans (uh OO).output, Nat.le_trans (uh OO).size hg.size, fun k hk h0 hq h1 h2 h3 h4 => (hg.block k (Nat.lt_of_lt_of_le hk (uh OO).size) (fun e => h2 e.symm)).trans ((uh OO).block k hk h0 hq h1 h2 h3 h4)⟩ : SmyOnly _ _ _ _ _ qs w w3)
 replace hsz : w.heap.size < w3.heap.size := Nat.lt_of_lt_of_le hsz hg.size
 clear ho hg hlt2
 have c3 := (uh kb).cell (i := 3) (v := .slice a3 m.desks.length p3) rfl
 go_wp2_with fail
 clear c3
 refine (markDeskS_any (ke + 3 * (m.guilds.length : Int) + 11 * (m.smiths.length : Int)) (uh n3) (by omega) (by omega) (by omega)).mono ?_
 rintro e w4 ⟨rfl, ho, hg⟩
 have hlt3 := fun b e => uh L3 b e
 replace n0 := hide (OwnHall.keep (uh n0) hg ((uh Hf).h3.marked k))
 replace n1 := hide (RecAt.grown (uh n1) hg (fun b e => fun e2 => (uh Hf).a13 b e e2))
 replace n2 := hide (RecAt.grown (uh n2) hg (fun b e => fun e2 => (uh Hf).a23 b e e2))
 replace n4 := hide (RecAt.grown (uh n4) hg (fun b e => fun e2 => ((uh Hf).a34).symm b e e2))
 replace n3 := hide ho
 replace kb := hide ((uh kb).same (hg.block w.heap.size hsz (fun e => by have := hlt3 _ e.symm; omega)))
 replace OO := hide (⟨hg.os.trans (uh OO).os, hg.tape.trans (uh OO).tape, hg.output.trans (uh OO).output, Nat.le_trans (uh OO).size hg.size, fun k hk h0 hq h1 h2 h3 h4 => (hg.block k (Nat.lt_of_lt_of_le hk (uh OO).size) (fun e => h3 e.symm)).trans ((uh OO).block k hk h0 hq h1 h2 h3 h4)⟩ : SmyOnly _ _ _ _ _ qs w w4)
 replace hsz : w.heap.size < w4.heap.size := Nat.lt_of_lt_of_le hsz hg.size
 clear ho hg hlt3
 have c4 := (uh kb).cell (i := 4) (v := .slice a4 m.paces.length p4) rfl
 go_wp2_with fail
 clear c4
 refine (markNums_any (ke + 3 * (m.guilds.length : Int) + 11 * (m.smiths.length : Int) + 3 * (m.desks.length : Int)) (uh n4) (by omega) (by omega) (by omega)).mono ?_
 rintro e w5 ⟨rfl, ho, hg⟩
 have hlt4 := fun b e => uh L4 b e
 replace n0 := hide (OwnHall.keep (uh n0) hg ((uh Hf).h4.marked k))
 replace n1 := hide (RecAt.grown (uh n1) hg (fun b e => fun e2 => (uh Hf).a14 b e e2))
 replace n2 := hide (RecAt.grown (uh n2) hg (fun b e => fun e2 => (uh Hf).a24 b e e2))
 replace n3 := hide (RecAt.grown (uh n3) hg (fun b e => fun e2 => (uh Hf).a34 b e e2))
 replace n4 := hide ho
 replace kb := hide ((uh kb).same (hg.block w.heap.size hsz (fun e => by have := hlt4 _ e.symm; omega)))
 replace OO := hide (⟨hg.os.trans (uh OO).os, hg.tape.trans (uh OO).tape, hg.output.trans (uh OO).output, Nat.le_trans (uh OO).size hg.size, fun k hk h0 hq h1 h2 h3 h4 => (hg.block k (Nat.lt_of_lt_of_le hk (uh OO).size) (fun e => h4 e.symm)).trans ((uh OO).block k hk h0 hq h1 h2 h3 h4)⟩ : SmyOnly _ _ _ _ _ qs w w5)
 replace hsz : w.heap.size < w5.heap.size := Nat.lt_of_lt_of_le hsz hg.size
 clear ho hg hlt4
 go_wp2_with fail
 go_ret
 refine ⟨rfl, ⟨uh n0, rfl, ?_, ?_, ?_, ?_, (uh Hf).h1.marked k, (uh Hf).h2.marked k, (uh Hf).h3.marked k, (uh Hf).h4.marked k, (uh Hf).a12, (uh Hf).a13, (uh Hf).a14, (uh Hf).a23, (uh Hf).a24, (uh Hf).a34⟩, uh OO⟩
 ·show RecAt _ _ _ _ _ _ (markM k m qs).guilds
  unfold markM
  rw [uh Hke]
  exact uh n1
 ·show RecAt _ _ _ _ _ _ (markM k m qs).smiths
  unfold markM
  rw [uh Hke]
  exact uh n2
 ·show RecAt _ _ _ _ _ _ (markM k m qs).desks
  unfold markM
  rw [uh Hke]
  exact uh n3
 ·show RecAt _ _ _ _ _ _ (markM k m qs).paces
  unfold markM
  rw [uh Hke]
  exact uh n4
theorem heldSmithy_yes {n₀ : Nat} {w : World} {v0 v1 v2 v3 v4 : Value} {m : SmyV} {qs : List (RoomV × Value)} (k : Int) (h : FullSmy n₀ w v0 v1 v2 v3 v4 (markM k m qs) (markQ k qs)) (hr : Small m.rooms) (hm : qs.map (·.1) = m.rooms) (hs : SmySmall m) (hk0 : 0 ≤ k) (hk1 : k ≤ 1000000000) :
  Calls Tryz.prog 29 #[.agg #[v0, v1, v2, v3, v4, .int .i64 m.now], .int .i64 k] w fun e w' => e = .returned (.int .i64 (endM k m qs)) ∧ Below w.heap.size w w' := by
 obtain ⟨sq, sp⟩ := small_qs hr hm
 obtain ⟨e0, e1⟩ := kEnd_all sq sp k
 have Sp := hide sp
 obtain ⟨_, s1, s2, s3, s4⟩ := hs
 have Hf := hide h
 obtain ⟨a0, p0, rfl⟩ := h.hall.shape
 obtain ⟨a1, p1, rfl⟩ := RecAt.shape h.guilds
 obtain ⟨a2, p2, rfl⟩ := RecAt.shape h.smiths
 obtain ⟨a3, p3, rfl⟩ := RecAt.shape h.desks
 obtain ⟨a4, p4, rfl⟩ := RecAt.shape h.paces
 have l0 : (markQ k qs).length = m.rooms.length := by rw [markQ_len, ← hm, List.length_map]
 have l1 : (markM k m qs).guilds.length = m.guilds.length := markL_len _ _ _ _
 have l2 : (markM k m qs).smiths.length = m.smiths.length := markL_len _ _ _ _
 have l3 : (markM k m qs).desks.length = m.desks.length := markL_len _ _ _ _
 have l4 : (markM k m qs).paces.length = m.paces.length := marks_len _ _
 rw [l0, l1, l2, l3, l4] at Hf ⊢
 clear h sp l0 l1 l2 l3 l4
 unfold endM
 have G1 : Hid (∀ w', Below w.heap.size w w' → IsGuilds w' (.slice a1 m.guilds.length p1) (markL mkGuild 3 (kEnd k qs) m.guilds.length)) := hide fun w' hb => GuildsAt.list (RecAt.later (uh Hf).guilds hb)
 have G2 : Hid (∀ w', Below w.heap.size w w' → IsSmiths w' (.slice a2 m.smiths.length p2) (markL mkSmith 11 (kEnd k qs + 3 * (m.guilds.length : Int)) m.smiths.length)) := hide fun w' hb => SmithsAt.list (RecAt.later (uh Hf).smiths hb)
 have G3 : Hid (∀ w', Below w.heap.size w w' → IsDesks w' (.slice a3 m.desks.length p3) (markL mkDesk 3 (kEnd k qs + 3 * (m.guilds.length : Int) + 11 * (m.smiths.length : Int)) m.desks.length)) := hide fun w' hb => DesksAt.list (RecAt.later (uh Hf).desks hb)
 have G4 : Hid (∀ w', Below w.heap.size w w' → NumsAt n₀ w' (.slice a4 m.paces.length p4) (marks (kEnd k qs + 3 * (m.guilds.length : Int) + 11 * (m.smiths.length : Int) + 3 * (m.desks.length : Int)) m.paces.length)) := hide fun w' hb => RecAt.later (uh Hf).paces hb
 have G0 : Hid (∀ w', Below w.heap.size w w' → IsRooms w' (.slice a0 m.rooms.length p0) ((markQ k qs).map (·.1))) := hide fun w' hb => ((uh Hf).hall.later hb).rooms
 have HH := hide (fun (w' : World) (h9 : IsRooms w' (.slice a0 m.rooms.length p0) ((markQ k qs).map (·.1))) => heldHall_yes k h9 hk0 hk1 sq (uh Sp))
 generalize kEnd k qs = ke at *
 go_enter Tryz.func29, Tryz.ntmps29
 go_wp2_with fail
 obtain ⟨W, hW, BB, kb⟩ := one_boxH w 32 (S6 a0 p0 a1 p1 a2 p2 a3 p3 a4 p4 m)
 rw [hW]
 (try rw [hW] at Hv);clear hW
 refine ck (uh HH _ (uh G0 _ (uh BB))) fun w1 hb => ?_
 replace kb := bl kb hb
 replace BB := bt BB hb
 clear hb
 have c1 := (uh kb).cell (i := 1) (v := .slice a1 m.guilds.length p1) rfl
 go_wp2_with fail
 clear c1
 refine (heldGuildS_yes (ke) _ (uh G1 _ (uh BB)) (by omega) (by omega) (by omega)).mono ?_
 rintro e w' ⟨rfl, h9⟩
 subst w'
 have c2 := (uh kb).cell (i := 2) (v := .slice a2 m.smiths.length p2) rfl
 go_wp2_with fail
 clear c2
 refine (heldSmithS_yes (ke + 3 * (m.guilds.length : Int)) _ (uh G2 _ (uh BB)) (by omega) (by omega) (by omega)).mono ?_
 rintro e w' ⟨rfl, h9⟩
 subst w'
 have c3 := (uh kb).cell (i := 3) (v := .slice a3 m.desks.length p3) rfl
 go_wp2_with fail
 clear c3
 refine (heldDeskS_yes (ke + 3 * (m.guilds.length : Int) + 11 * (m.smiths.length : Int)) _ (uh G3 _ (uh BB)) (by omega) (by omega) (by omega)).mono ?_
 rintro e w' ⟨rfl, h9⟩
 subst w'
 have c4 := (uh kb).cell (i := 4) (v := .slice a4 m.paces.length p4) rfl
 go_wp2_with fail
 clear c4
 refine (heldNums_yes (ke + 3 * (m.guilds.length : Int) + 11 * (m.smiths.length : Int) + 3 * (m.desks.length : Int)) _ (uh G4 _ (uh BB)) (by omega) (by omega) (by omega)).mono ?_
 rintro e w' ⟨rfl, h9⟩
 subst w'
 go_wp2_with fail
 go_ret
 exact ⟨rfl, uh BB⟩
def OwnB (v0 v1 v2 v3 v4 : Value) (qs : List (RoomV × Value)) (k : Nat) : Prop := v0.ownBlock = some k ∨ (∃ q ∈ qs, q.2.ownBlock = some k) ∨ v1.ownBlock = some k ∨ v2.ownBlock = some k ∨ v3.ownBlock = some k ∨ v4.ownBlock = some k
section
variable {n₀ : Nat} {w w' : World} {v0 v1 v2 v3 v4 : Value} {m : SmyV} {qs : List (RoomV × Value)}
theorem FullSmy.own (h : FullSmy n₀ w v0 v1 v2 v3 v4 m qs) {k : Nat} (e : OwnB v0 v1 v2 v3 v4 qs k) : n₀ ≤ k ∧ k < w.heap.size := by
 rcases e with e | e | e | e | e | e
 ·exact h.hall.lt (.inl e)
 ·exact h.hall.lt (.inr e)
 ·exact RecAt.lt h.guilds e
 ·exact RecAt.lt h.smiths e
 ·exact RecAt.lt h.desks e
 ·exact RecAt.lt h.paces e
theorem FullSmy.keep (h : FullSmy n₀ w v0 v1 v2 v3 v4 m qs) (hs : ∀ k, OwnB v0 v1 v2 v3 v4 qs k → w'.heap[k]? = w.heap[k]?) : FullSmy n₀ w' v0 v1 v2 v3 v4 m qs :=
 ⟨⟨own_same h.hall.row (fun k e => hs k (.inl e)), fun q hq => own_same (h.hall.paces q hq) (fun k e => hs k (.inr (.inl ⟨q, hq, e⟩))), h.hall.off, h.hall.apart⟩, h.rooms, RecAt.same h.guilds fun k e => hs k (.inr (.inr (.inl e))), RecAt.same h.smiths fun k e => hs k (.inr (.inr (.inr (.inl e)))), RecAt.same h.desks fun k e => hs k (.inr (.inr (.inr (.inr (.inl e))))), RecAt.same h.paces fun k e => hs k (.inr (.inr (.inr (.inr (.inr e))))), h.h1, h.h2, h.h3, h.h4, h.a12, h.a13, h.a14, h.a23, h.a24, h.a34⟩
end
end Go.Proofs.YtffcgajndmhpkaaGreatDoor
namespace Go.Proofs.YtffcgajndmhpkaaGreatDoor
open Go.ChangeShapes Go.WideShapes Go.ChangeAt Go.RowKit Go.Sort
set_option linter.unusedVariables false
section
variable {w w' : World}
theorem SmyOnly.at {u0 u1 u2 u3 u4 : Value} {rs : List (RoomV × Value)} (h : SmyOnly u0 u1 u2 u3 u4 rs w w') {k : Nat} (hk : k < w.heap.size) (hn : ¬ OwnB u0 u1 u2 u3 u4 rs k) : w'.heap[k]? = w.heap[k]? :=
 h.block k hk (fun e => hn (.inl e)) (fun q hq e => hn (.inr (.inl ⟨q, hq, e⟩))) (fun e => hn (.inr (.inr (.inl e)))) (fun e => hn (.inr (.inr (.inr (.inl e))))) (fun e => hn (.inr (.inr (.inr (.inr (.inl e)))))) (fun e => hn (.inr (.inr (.inr (.inr (.inr e))))))
theorem SmyOnly.below {u0 u1 u2 u3 u4 : Value} {rs : List (RoomV × Value)} {B : Nat} (h : SmyOnly u0 u1 u2 u3 u4 rs w w') (hB : B ≤ w.heap.size) (ho : ∀ k, OwnB u0 u1 u2 u3 u4 rs k → B ≤ k) : Below B w w' :=
 ⟨h.os, h.tape, h.output, h.size, fun k hk => h.at (by omega) (fun e => by have := ho k e; omega)⟩
end
theorem endM_bd {m : SmyV} {qs : List (RoomV × Value)} (hs : SmySmall m) (hm : qs.map (·.1) = m.rooms) : 1 ≤ endM 1 m qs ∧ endM 1 m qs ≤ 10000000000000 := by
 obtain ⟨sq, sp⟩ := small_qs hs.rooms hm
 obtain ⟨e0, e1⟩ := kEnd_all sq sp 1
 obtain ⟨_, s1, s2, s3, s4⟩ := hs
 unfold endM
 omega
end Go.Proofs.YtffcgajndmhpkaaGreatDoor
