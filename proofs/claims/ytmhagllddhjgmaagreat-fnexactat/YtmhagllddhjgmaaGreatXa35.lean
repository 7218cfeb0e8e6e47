/- What the proof rests on, part 35: lists and numbers, how they lie in memory, and contracts of the calls. No condition but those that a theorem names. -/
import Derived.Test.YtmhagllddhjgmaaGreatXa01
import Derived.Test.YtmhagllddhjgmaaGreatXa02
import Derived.Test.YtmhagllddhjgmaaGreatXa03
import Derived.Test.YtmhagllddhjgmaaGreatXa04
import Derived.Test.YtmhagllddhjgmaaGreatXa05
import Derived.Test.YtmhagllddhjgmaaGreatXa06
import Derived.Test.YtmhagllddhjgmaaGreatXa07
import Derived.Test.YtmhagllddhjgmaaGreatXa08
import Derived.Test.YtmhagllddhjgmaaGreatXa09
import Derived.Test.YtmhagllddhjgmaaGreatXa10
import Derived.Test.YtmhagllddhjgmaaGreatXa11
import Derived.Test.YtmhagllddhjgmaaGreatXa12
import Derived.Test.YtmhagllddhjgmaaGreatXa13
import Derived.Test.YtmhagllddhjgmaaGreatXa19
import Derived.Test.YtmhagllddhjgmaaGreatXa24
import Derived.Test.YtmhagllddhjgmaaGreatXa25
import Derived.Test.YtmhagllddhjgmaaGreatXa26
import Derived.Test.YtmhagllddhjgmaaGreatXa27
import Derived.Test.YtmhagllddhjgmaaGreatXa28
import Derived.Test.YtmhagllddhjgmaaGreatXa29
import Derived.Test.YtmhagllddhjgmaaGreatXa30
import Derived.Test.YtmhagllddhjgmaaGreatXa32
import Derived.Deep.RegionHeld3
import Derived.Deep.DrawnRows
import Derived.BigRegion
import Derived.Maps.AppendAt
import Derived.Deep.QuietTactic
import Derived.BigQuiet
import Derived.Lib.QuietBelow
import Derived.Laws.StructEq
import Derived.Lib.SmallJoins
import Derived.Deep.RegionLawGrows
import Derived.WalkKit
import Derived.ProofKit
import Derived.OpenShut
import Derived.Outline
import Derived.Laws.OwnMore
import Derived.OwnWalk
import Derived.Deep.RegionWith
import Derived.Deep.Fields
import Derived.Deep.Slices
/- The model's At: who waits or works at a bench. Condition: the smithy can be read. -/
namespace Go.Proofs.YtmhagllddhjgmaaGreat
open Go.ChangeShapes Go.WideShapes Go.ChangeAt Go.RowKit Go.Sort
set_option linter.unusedVariables false

theorem spec_q {w : World} {v0 v1 v2 v3 v4 : Value} {m : SmyV} {q : Bool} (hq : smyB m = q) (h : Smy w v0 v1 v2 v3 v4 m) : Calls Tryz.prog 19 #[.agg #[v0, v1, v2, v3, v4, .int .i64 m.now]] w fun e w' => e = .returned (.bool q) ∧ Below w.heap.size w w' := by
  have := specSmithyOk_any h; rw [hq] at this; exact this

set_option maxHeartbeats 1000000 in
theorem l11Bench_q {w : World} {v0 v1 v2 v3 v4 : Value} {m : SmyV} {b : Int} {q : Bool} (hq : isBenchB m b = q) (h : Smy w v0 v1 v2 v3 v4 m) :
    Calls Tryz.prog 47 #[.agg #[v0, v1, v2, v3, v4, .int .i64 m.now], .int .i64 b] w fun e w' => e = .returned (.bool q) ∧ Below w.heap.size w w' := by
  have hq2 : inB b 0 ((m.desks.length : Int) - 1) = q := hq
  clear hq
  obtain ⟨a0, p0, rfl, _, _⟩ := IsRooms.shape h.rooms
  obtain ⟨a1, p1, rfl, _, _⟩ := IsRec.shape h.guilds
  obtain ⟨a2, p2, rfl, _, _⟩ := IsRec.shape h.smiths
  obtain ⟨a3, p3, rfl, hc3, hm3⟩ := IsRec.shape h.desks
  obtain ⟨a4, p4, rfl, _, _⟩ := IsRec.shape h.paces
  clear h
  go_enter Tryz.func47, Tryz.ntmps47
  go_wp2_with (go_at_call 71; refine (l1In_any _ _ _ _).mono ?_; rw [hq2]; rintro e w' ⟨rfl, h9⟩; subst w')
  go_ret
  exact ⟨rfl, (Below.refl _ _).alloc (Nat.le_refl _) _⟩

set_option maxRecDepth 100000 in
set_option maxHeartbeats 4000000 in
theorem specAt_any {w : World} {v0 v1 v2 v3 v4 : Value} {m : SmyV} (b : Int) (h : Smy w v0 v1 v2 v3 v4 m) :
    Calls Tryz.prog 15 #[.agg #[v0, v1, v2, v3, v4, .int .i64 m.now], .int .i64 b] w fun e w' => ∃ v', e = .returned v' ∧ EntsAt w.heap.size w' v' (smyAtV m b) ∧ Below w.heap.size w w' := by
  have Hv := hide (h.alloc (.cells #[v0, v1, v2, v3, v4, .int .i64 m.now] 32))
  obtain ⟨a0, p0, rfl, _, _⟩ := IsRooms.shape h.rooms
  obtain ⟨a1, p1, rfl, _, _⟩ := IsRec.shape h.guilds
  obtain ⟨a2, p2, rfl, _, _⟩ := IsRec.shape h.smiths
  obtain ⟨a3, p3, rfl, _, _⟩ := IsRec.shape h.desks
  obtain ⟨a4, p4, rfl, _, _⟩ := IsRec.shape h.paces
  clear h
  obtain ⟨q, hq⟩ : ∃ q, smyB m = q := ⟨_, rfl⟩
  have Hq := hide hq
  clear hq
  obtain ⟨qb, hqb⟩ : ∃ q, isBenchB m b = q := ⟨_, rfl⟩
  have Hqb := hide hqb
  clear hqb
  go_enter Tryz.func15, Tryz.ntmps15
  go_wp2_with fail
  refine (spec_q (unhide Hq) (unhide Hv)).mono ?_
  rintro e w1 ⟨rfl, hb⟩
  have kb : Hid (Blk w1 w.heap.size 32 #[.slice a0 m.rooms.length p0, .slice a1 m.guilds.length p1, .slice a2 m.smiths.length p2, .slice a3 m.desks.length p3, .slice a4 m.paces.length p4, .int .i64 m.now]) := hide ((Blk.new w _ _).below hb (by simp))
  have BB : Hid (Below w.heap.size w w1) := hide (((Below.refl _ _).alloc (Nat.le_refl _) _).trans (hb.mono (by simp)))
  replace Hv := hide ((unhide Hv).below hb)
  clear hb
  have c0 := (unhide kb).cell (i := 0) (v := .slice a0 m.rooms.length p0) rfl
  have c1 := (unhide kb).cell (i := 1) (v := .slice a1 m.guilds.length p1) rfl
  have c2 := (unhide kb).cell (i := 2) (v := .slice a2 m.smiths.length p2) rfl
  have c3 := (unhide kb).cell (i := 3) (v := .slice a3 m.desks.length p3) rfl
  have c4 := (unhide kb).cell (i := 4) (v := .slice a4 m.paces.length p4) rfl
  have c5 := (unhide kb).cell (i := 5) (v := .int .i64 m.now) rfl
  cases q
  · go_wp2_with fail
    go_ret
    have hz : smyAtV m b = [] := by unfold smyAtV; rw [unhide Hq]; rfl
    exact ⟨_, rfl, by rw [hz]; exact ents_empty rfl (unhide BB).size, (unhide BB).alloc (unhide BB).size _⟩
  go_wp2_with fail
  refine (l11Bench_q (unhide Hqb) (unhide Hv)).mono ?_
  rintro e w2 ⟨rfl, hb⟩
  clear c0 c1 c2 c3 c4 c5
  replace kb := hide ((unhide kb).below hb (unhide kb).lt)
  replace Hv := hide ((unhide Hv).below hb)
  replace BB := hide ((unhide BB).trans (hb.mono (unhide BB).size))
  clear hb
  have c0 := (unhide kb).cell (i := 0) (v := .slice a0 m.rooms.length p0) rfl
  have c1 := (unhide kb).cell (i := 1) (v := .slice a1 m.guilds.length p1) rfl
  have c2 := (unhide kb).cell (i := 2) (v := .slice a2 m.smiths.length p2) rfl
  have c3 := (unhide kb).cell (i := 3) (v := .slice a3 m.desks.length p3) rfl
  have c4 := (unhide kb).cell (i := 4) (v := .slice a4 m.paces.length p4) rfl
  have c5 := (unhide kb).cell (i := 5) (v := .int .i64 m.now) rfl
  cases qb
  · go_wp2_with fail
    go_ret
    have hz : smyAtV m b = [] := by unfold smyAtV; rw [unhide Hq, unhide Hqb]; rfl
    exact ⟨_, rfl, by rw [hz]; exact ents_empty rfl (unhide BB).size, (unhide BB).alloc (unhide BB).size _⟩
  go_wp2_with fail
  have hfew := smyB_few (unhide Hq)
  refine (l11At_any b (unhide Hv) (by omega)).mono ?_
  rintro e w3 ⟨v3, rfl, he, hb⟩
  have hz : smyAtV m b = atV m.smiths b m.smiths.length := by unfold smyAtV; rw [unhide Hq, unhide Hqb]; rfl
  have hsz := (unhide BB).size
  have he2 := EntsAt.mono he hsz
  rw [← hz] at he2
  have He := hide he2
  have Bb := hide ((unhide BB).trans (hb.mono hsz))
  obtain ⟨qa, qc, rfl⟩ := EntsAt.shape he2
  clear he he2 hb hz
  go_wp2_with fail
  go_ret
  exact ⟨_, rfl, unhide He, unhide Bb⟩

end Go.Proofs.YtmhagllddhjgmaaGreat

/- Contracts of the laws' own helpers that mark a hall and ask whether it holds its marks: halls that the call itself made, no two rows in one block. Conditions: those that each theorem names. -/
namespace Go.Proofs.YtmhagllddhjgmaaGreat
open Go.ChangeShapes Go.WideShapes Go.ChangeAt Go.RowKit Go.Sort
set_option linter.unusedVariables false

theorem rput (b : Int) (x : List PaceV) : ∀ (qs : List (RoomV × Value)) (j : Nat) (h : j < qs.length), (rcells qs).set (j * 2) (.int .i64 b) = rcells (qs.set j ((b, x), qs[j].2))
  | q :: qs, 0, _ => by simp [rcells]
  | q :: qs, j + 1, h => by
    have ih := rput b x qs j (by simpa using h)
    unfold rcells at ih ⊢
    rw [List.flatMap_cons, show (j + 1) * 2 = j * 2 + 2 by omega]
    simpa using ih
set_option maxRecDepth 100000 in
set_option maxHeartbeats 2000000 in
theorem markPaceS_any {n₀ : Nat} {w : World} {v : Value} {ps : List PaceV} (k : Int) (h : PacesAt n₀ w v ps) (hk0 : 0 ≤ k) (hk1 : k ≤ 1000000000000000) (hl : ps.length ≤ 1000000000) :
    Calls Tryz.prog 168 #[v, .int .i64 k] w fun e w' => e = .returned (.int .i64 (k + 2 * (ps.length : Int))) ∧ PacesAt n₀ w' v (mps k ps.length) ∧ w.grownBy w' v.ownBlock := by
  have Hv := hide h
  obtain ⟨a, cap, rfl⟩ := h.shape
  clear h
  go_enter Tryz.func168, Tryz.ntmps168
  go_wp2_with fail
  go_loopw [5, 1] (fun i q wr => ∃ j : Nat, j ≤ ps.length ∧ i = .int .i64 j ∧ q = .int .i64 (k + 2 * (j : Int)) ∧ PacesAt n₀ wr (.slice a ps.length cap) (mpd ps k j) ∧ w.grownBy wr (Value.ownBlock (.slice a ps.length cap))) (fun i _ _ => ps.length - (intOf i).toNat)
  case atStart => exact ⟨0, Nat.zero_le _, rfl, by simp, by simpa [mpd, mps] using unhide Hv, grown_refl _ _⟩
  case round =>
    obtain ⟨j, hj, rfl, rfl, hin, hgr⟩ := hrel
    by_cases hlt : j < ps.length
    · unfold PacesAt at hin
      rw [mpd_len hj] at hin
      obtain ⟨g, rfl⟩ : ∃ g, a = some ⟨g, 0, none⟩ := by
        rcases hin.2 with ⟨h9, h8⟩ | ⟨g, c', cur, h9, _⟩
        · omega
        · cases h9; exact ⟨g, rfl⟩
      have hcell := fun (o : Nat) (ho : o < ps.length * 2) => World.ownsRow.cellAt hin o (by omega)
      have hpl : (pcells (mpd ps k j)).length = ps.length * 2 := by unfold pcells; rw [pairs_len, mpd_len hj]
      obtain ⟨c0, hc0⟩ : ∃ c, wr.cell? ⟨g, j * 2, none⟩ = some c := ⟨_, (hcell (j * 2) (by omega)).trans (List.getElem?_eq_getElem (by omega))⟩
      obtain ⟨c1, hc1⟩ : ∃ c, wr.cell? ⟨g, j * 2 + 1, none⟩ = some c := ⟨_, (hcell (j * 2 + 1) (by omega)).trans (List.getElem?_eq_getElem (by omega))⟩
      have f0 := World.ownsRow.frozenAt hin (j * 2)
      have f1 := World.ownsRow.frozenAt hin (j * 2 + 1)
      obtain ⟨s1, s2⟩ := World.ownsRow.stored hin (j * 2) (.int .i64 (k + 2 * (j : Int)))
      obtain ⟨t1, t2⟩ := World.ownsRow.stored s1 (j * 2 + 1) (.int .i64 (k + 2 * (j : Int) + 1))
      rw [pput _ _ _ _ (by rw [mpd_len hj]; exact hlt), mpd_succ hlt] at t1
      have H1 : Hid (PacesAt n₀ ((wr.setCell ⟨g, j * 2, none⟩ (.int .i64 (k + 2 * (j : Int)))).setCell ⟨g, j * 2 + 1, none⟩ (.int .i64 (k + 2 * (j : Int) + 1))) (.slice (some ⟨g, 0, none⟩) ps.length cap) (mpd ps k (j + 1))) := hide (by unfold PacesAt; rw [mpd_len hlt]; exact t1)
      have H2 := hide (grown_trans hgr (grown_trans s2 t2))
      have hc1' : (wr.setCell ⟨g, j * 2, none⟩ (.int .i64 (k + 2 * (j : Int)))).cell? ⟨g, j * 2 + 1, none⟩ = some c1 := by rw [World.cell?_setCell_other _ _ _ _ (by simp)]; exact hc1
      have f1' : (wr.setCell ⟨g, j * 2, none⟩ (.int .i64 (k + 2 * (j : Int)))).frozen? ⟨g, j * 2 + 1, none⟩ = false := by rw [World.frozen?_setCell]; exact f1
      clear hin hgr s1 s2 t1 t2 hcell hpl
      go_wp2_with fail
      go_roundw
      case rel => exact ⟨j + 1, by omega, by go_num, by go_num, unhide H1, unhide H2⟩
      case measure => simp [intOf]; omega
    · obtain rfl : j = ps.length := by omega
      rw [mpd_all] at hin
      go_wp2_with fail
      go_ret
      exact ⟨rfl, hin, hgr⟩

end Go.Proofs.YtmhagllddhjgmaaGreat

/- Contracts of the laws' own helpers that mark a hall's rooms and ask whether they hold their marks. Conditions: those that each theorem names. -/
namespace Go.Proofs.YtmhagllddhjgmaaGreat
open Go.ChangeShapes Go.WideShapes Go.ChangeAt Go.RowKit Go.Sort
set_option linter.unusedVariables false

theorem rsame (x : List PaceV) : ∀ (qs : List (RoomV × Value)) (j : Nat) (h : j < qs.length), rcells (qs.set j ((qs[j].1.1, x), qs[j].2)) = rcells qs
  | q :: qs, 0, _ => by simp [rcells]
  | q :: qs, j + 1, h => by
    have ih := rsame x qs j (by simpa using h)
    unfold rcells at ih ⊢
    simpa using ih
theorem map_keep {qs : List (RoomV × Value)} {j : Nat} (hj : j < qs.length) (r : RoomV) : (qs.set j (r, qs[j].2)).map (·.2) = qs.map (·.2) := by
  rw [List.map_set]
  simp only
  have : (qs.map (·.2))[j]'(by simpa using hj) = qs[j].2 := by simp
  rw [← this, List.set_getElem_self]
theorem mem_put {qs : List (RoomV × Value)} {j : Nat} (hj : j < qs.length) {r : RoomV} {q : RoomV × Value} (h : q ∈ qs.set j (r, qs[j].2)) : (q ∈ qs) ∨ q = (r, qs[j].2) := List.mem_or_eq_of_mem_set h

theorem OwnHall.bench {n₀ g cap : Nat} {w : World} {qs : List (RoomV × Value)} (h : OwnHall n₀ w (.slice (some ⟨g, 0, none⟩) qs.length cap) qs) {j : Nat} (hj : j < qs.length) (b : Int) :
    OwnHall n₀ (w.setCell ⟨g, j * 2, none⟩ (.int .i64 b)) (.slice (some ⟨g, 0, none⟩) qs.length cap) (qs.set j ((b, qs[j].1.2), qs[j].2)) := by
  have hst := (World.ownsRow.stored h.row (j * 2) (.int .i64 b)).1
  rw [rput b qs[j].1.2 qs j hj] at hst
  have hold : ∀ q ∈ qs, PacesAt n₀ (w.setCell ⟨g, j * 2, none⟩ (.int .i64 b)) q.2 q.1.2 := fun q hq => own_same (h.paces q hq) (fun k e => Below.heap_setCell w ⟨g, j * 2, none⟩ _ k (fun e' => h.off q hq k e (by show some g = some k; rw [e'])))
  refine ⟨by simpa using hst, fun q hq => ?_, fun q hq b' e => ?_, by rw [map_keep hj]; exact h.apart⟩
  · rcases mem_put hj hq with hq | rfl
    · exact hold q hq
    · exact hold qs[j] (List.getElem_mem hj)
  · rcases mem_put hj hq with hq | rfl
    · exact h.off q hq b' e
    · exact h.off qs[j] (List.getElem_mem hj) b' e
theorem apart_ne {qs : List (RoomV × Value)} (h : (qs.map (·.2)).Pairwise fun x y => ∀ b, x.ownBlock = some b → y.ownBlock ≠ some b) {i j : Nat} (hi : i < qs.length) (hj : j < qs.length) (hne : i ≠ j) {b : Nat} (e : qs[i].2.ownBlock = some b) : qs[j].2.ownBlock ≠ some b := by
  rw [List.pairwise_iff_getElem] at h
  rcases Nat.lt_or_gt_of_ne hne with hlt | hgt
  · have := h i j (by simpa using hi) (by simpa using hj) hlt b (by simpa using e)
    simpa using this
  · intro e'
    have := h j i (by simpa using hj) (by simpa using hi) hgt b (by simpa using e')
    simp at this
    exact this e
theorem OwnHall.repace {n₀ : Nat} {w w' : World} {v : Value} {qs : List (RoomV × Value)} (h : OwnHall n₀ w v qs) {j : Nat} (hj : j < qs.length) {ps : List PaceV} (hp : PacesAt n₀ w' qs[j].2 ps) (hg : w.grownBy w' qs[j].2.ownBlock) :
    OwnHall n₀ w' v (qs.set j ((qs[j].1.1, ps), qs[j].2)) := by
  have hs : ∀ k, k < w.heap.size → qs[j].2.ownBlock ≠ some k → w'.heap[k]? = w.heap[k]? := fun k hk hn => hg.block k hk (fun e => hn e.symm)
  refine ⟨?_, fun q hq => ?_, fun q hq b' e => ?_, by rw [map_keep hj]; exact h.apart⟩
  · have := own_same h.row (fun k e => hs k (h.lt (.inl e)).2 (fun e' => h.off qs[j] (List.getElem_mem hj) k e' e))
    rw [List.length_set, rsame ps qs j hj]; exact this
  · obtain ⟨i, hi, rfl⟩ := List.getElem_of_mem hq
    have hi' : i < qs.length := by simpa using hi
    by_cases hij : i = j
    · subst hij; simpa using hp
    · rw [List.getElem_set_ne (fun e => hij e.symm)]
      exact own_same (h.paces qs[i] (List.getElem_mem hi')) (fun k e => hs k (h.lt (.inr ⟨qs[i], List.getElem_mem hi', e⟩)).2 (apart_ne h.apart hi' hj hij e))
  · rcases mem_put hj hq with hq | rfl
    · exact h.off q hq b' e
    · exact h.off qs[j] (List.getElem_mem hj) b' e

/-- Only blocks of that hall and new ones may differ. -/
structure OwnOnly (v : Value) (qs : List (RoomV × Value)) (w w' : World) : Prop where
  os : w'.os = w.os
  tape : w'.tape = w.tape
  output : w'.output = w.output
  size : w.heap.size ≤ w'.heap.size
  block : ∀ k, k < w.heap.size → v.ownBlock ≠ some k → (∀ q ∈ qs, q.2.ownBlock ≠ some k) → w'.heap[k]? = w.heap[k]?
theorem OwnOnly.refl (v : Value) (qs : List (RoomV × Value)) (w : World) : OwnOnly v qs w w := ⟨rfl, rfl, rfl, Nat.le_refl _, fun _ _ _ _ => rfl⟩
theorem OwnOnly.trans {v : Value} {qs : List (RoomV × Value)} {a b c : World} (h : OwnOnly v qs a b) (k : OwnOnly v qs b c) : OwnOnly v qs a c :=
  ⟨k.os.trans h.os, k.tape.trans h.tape, k.output.trans h.output, Nat.le_trans h.size k.size, fun i hi h1 h2 => (k.block i (Nat.lt_of_lt_of_le hi h.size) h1 h2).trans (h.block i hi h1 h2)⟩
theorem OwnOnly.set {g n cap o : Nat} {qs : List (RoomV × Value)} {w : World} (x : Value) : OwnOnly (.slice (some ⟨g, 0, none⟩) n cap) qs w (w.setCell ⟨g, o, none⟩ x) :=
  ⟨rfl, rfl, rfl, by simp, fun k hk h1 _ => Below.heap_setCell w ⟨g, o, none⟩ x k (fun e => h1 (by show some g = some k; rw [e]))⟩
theorem OwnOnly.grown {v : Value} {qs : List (RoomV × Value)} {w w' : World} {q : RoomV × Value} (hq : q ∈ qs) (hg : w.grownBy w' q.2.ownBlock) : OwnOnly v qs w w' :=
  ⟨hg.os, hg.tape, hg.output, hg.size, fun k hk _ h2 => hg.block k hk (fun e => h2 q hq e.symm)⟩
theorem OwnOnly.alloc (v : Value) (qs : List (RoomV × Value)) (w : World) (o : Obj) : OwnOnly v qs w (w.alloc o) := ⟨rfl, rfl, rfl, by simp, fun k hk _ _ => Below.heap_alloc w o k hk⟩
def kEnd : Int → List (RoomV × Value) → Int
  | k, [] => k
  | k, q :: qs => kEnd (k + 1 + 2 * (q.1.2.length : Int)) qs
def markQ : Int → List (RoomV × Value) → List (RoomV × Value)
  | _, [] => []
  | k, q :: qs => ((k, mps (k + 1) q.1.2.length), q.2) :: markQ (k + 1 + 2 * (q.1.2.length : Int)) qs
theorem kEnd_app : ∀ (a : List (RoomV × Value)) (k : Int) (b : List (RoomV × Value)), kEnd k (a ++ b) = kEnd (kEnd k a) b
  | [], _, _ => rfl
  | q :: a, k, b => kEnd_app a _ b
theorem markQ_app : ∀ (a : List (RoomV × Value)) (k : Int) (b : List (RoomV × Value)), markQ k (a ++ b) = markQ k a ++ markQ (kEnd k a) b
  | [], _, _ => rfl
  | q :: a, k, b => by simp only [List.cons_append, markQ, kEnd]; rw [markQ_app a _ b]
theorem markQ_len : ∀ (a : List (RoomV × Value)) (k : Int), (markQ k a).length = a.length
  | [], _ => rfl
  | q :: a, k => by simp [markQ, markQ_len a]
theorem take_s {α : Type} {l : List α} {j : Nat} (h : j < l.length) : l.take (j + 1) = l.take j ++ [l[j]] := List.take_succ_eq_append_getElem h
theorem kEnd_s {qs : List (RoomV × Value)} {k : Int} {j : Nat} (h : j < qs.length) : kEnd k (qs.take (j + 1)) = kEnd k (qs.take j) + 1 + 2 * (qs[j].1.2.length : Int) := by rw [take_s h, kEnd_app]; rfl
theorem kEnd_bd {qs : List (RoomV × Value)} (hp : ∀ q ∈ qs, q.1.2.length ≤ 1048576) (k : Int) : ∀ j, j ≤ qs.length → k ≤ kEnd k (qs.take j) ∧ kEnd k (qs.take j) ≤ k + 2097153 * j
  | 0, _ => by simp [kEnd]
  | j + 1, hj => by
    have ih := kEnd_bd hp k j (by omega)
    have hq := hp qs[j] (List.getElem_mem (by omega))
    rw [kEnd_s (by omega)]; omega
def markedTo (k : Int) (qs : List (RoomV × Value)) (j : Nat) : List (RoomV × Value) := markQ k (qs.take j) ++ qs.drop j
theorem markedTo_len {k : Int} {qs : List (RoomV × Value)} {j : Nat} (h : j ≤ qs.length) : (markedTo k qs j).length = qs.length := by unfold markedTo; rw [List.length_append, markQ_len]; simp; omega
theorem markedTo_at? {k : Int} {qs : List (RoomV × Value)} {j : Nat} (h : j < qs.length) : (markedTo k qs j)[j]? = some qs[j] := by
  have hl : (markQ k (qs.take j)).length = j := by rw [markQ_len]; simp; omega
  unfold markedTo
  rw [List.getElem?_append_right (by omega), hl, Nat.sub_self, List.drop_eq_getElem_cons h]; rfl
theorem markedTo_at {k : Int} {qs : List (RoomV × Value)} {j : Nat} (h : j < qs.length) (h' : j < (markedTo k qs j).length) : (markedTo k qs j)[j] = qs[j] := by
  have h1 := markedTo_at? (k := k) h
  rw [List.getElem?_eq_getElem h'] at h1
  exact Option.some.inj h1
theorem markedTo_s {k : Int} {qs : List (RoomV × Value)} {j : Nat} (h : j < qs.length) : (markedTo k qs j).set j ((kEnd k (qs.take j), mps (kEnd k (qs.take j) + 1) qs[j].1.2.length), qs[j].2) = markedTo k qs (j + 1) := by
  unfold markedTo
  have hl : (markQ k (qs.take j)).length = j := by rw [markQ_len]; simp; omega
  rw [List.set_append_right _ _ (by omega), hl, Nat.sub_self, List.drop_eq_getElem_cons h, List.set_cons_zero, take_s h, markQ_app]
  simp [markQ]
theorem markedTo_all (k : Int) (qs : List (RoomV × Value)) : markedTo k qs qs.length = markQ k qs := by simp [markedTo]
set_option maxRecDepth 100000 in
set_option maxHeartbeats 2000000 in
theorem markRoomS_any {n₀ : Nat} {w : World} {v : Value} {qs : List (RoomV × Value)} (k : Int) (h : OwnHall n₀ w v qs) (hn : n₀ ≤ w.heap.size) (hk0 : 0 ≤ k) (hk1 : k ≤ 1000000000) (hl : qs.length ≤ 1048576) (hp : ∀ q ∈ qs, q.1.2.length ≤ 1048576) :
    Calls Tryz.prog 132 #[v, .int .i64 k] w fun e w' => e = .returned (.int .i64 (kEnd k qs)) ∧ OwnHall n₀ w' v (markQ k qs) ∧ OwnOnly v qs w w' := by
  have Hv := hide h
  obtain ⟨a, cap, rfl⟩ := h.shape
  have Hp := hide hp
  clear h hp
  go_enter Tryz.func132, Tryz.ntmps132
  go_wp2_with fail
  go_loopw [5, 1] (fun i q wr => ∃ j : Nat, j ≤ qs.length ∧ i = .int .i64 j ∧ q = .int .i64 (kEnd k (qs.take j)) ∧ OwnHall n₀ wr (.slice a qs.length cap) (markedTo k qs j) ∧ OwnOnly (.slice a qs.length cap) qs w wr) (fun i _ _ => qs.length - (intOf i).toNat)
  case atStart => exact ⟨0, Nat.zero_le _, rfl, rfl, by simpa [markedTo, markQ] using unhide Hv, OwnOnly.refl _ _ _⟩
  case round =>
    obtain ⟨j, hj, rfl, rfl, hin, hbl⟩ := hrel
    by_cases hlt : j < qs.length
    · have hml := markedTo_len (k := k) (Nat.le_of_lt hlt)
      have hjm : j < (markedTo k qs j).length := by rw [hml]; exact hlt
      have hat := markedTo_at (k := k) hlt hjm
      have hkb := kEnd_bd (unhide Hp) k j hj
      have hks := kEnd_s (k := k) hlt
      have Hms := hide (markedTo_s (k := k) hlt)
      have hpl := unhide Hp qs[j] (List.getElem_mem hlt)
      obtain ⟨g, rfl⟩ : ∃ g, a = some ⟨g, 0, none⟩ := by
        rcases hin.row.2 with ⟨h9, h8⟩ | ⟨g, c', cur, h9, _⟩
        · omega
        · simp only [Value.slice.injEq] at h9; exact ⟨g, h9.1⟩
      have hin0 := hin
      rw [← hml] at hin
      have hb1 := hin.bench hjm (kEnd k (qs.take j))
      rw [hml] at hb1
      have hrow := hin0.row
      rw [hml] at hrow
      have hc0 := World.ownsRow.cellAt hrow (j * 2) (by omega)
      have hc1 := World.ownsRow.cellAt hrow (j * 2 + 1) (by omega)
      have hpg := pairs_get (f := fun q : RoomV × Value => Value.int .i64 q.1.1) (g := fun q : RoomV × Value => q.2) (markedTo k qs j) j hjm
      have hc0' := hc0.trans hpg.1
      have hc1' := hc1.trans hpg.2
      have f0 := World.ownsRow.frozenAt hrow (j * 2)
      rw [hat] at hc0' hc1' hb1
      have HW1 : Hid (OwnOnly (.slice (some ⟨g, 0, none⟩) qs.length cap) qs w (wr.setCell ⟨g, j * 2, none⟩ (.int .i64 (kEnd k (qs.take j))))) := hide (hbl.trans (OwnOnly.set _))
      have hjs : j < ((markedTo k qs j).set j ((kEnd k (qs.take j), qs[j].1.2), qs[j].2)).length := by rw [List.length_set]; exact hjm
      have hpa := hb1.paces _ (List.getElem_mem hjs)
      rw [List.getElem_set_self] at hpa
      simp only at hpa
      have Hb1 := hide hb1
      have Hpa := hide hpa
      have hd1 : (wr.setCell ⟨g, j * 2, none⟩ (.int .i64 (kEnd k (qs.take j)))).cell? ⟨g, j * 2 + 1, none⟩ = some qs[j].2 := by rw [World.cell?_setCell_other _ _ _ _ (by simp)]; exact hc1'
      obtain ⟨pa, pcap, hps⟩ := hpa.shape
      rw [hps] at hd1
      have Hps := hide hps
      generalize kEnd k (qs.take j) = kj at *
      generalize hk' : kEnd k (qs.take (j + 1)) = kj' at *
      have Hk' := hide hk'
      clear hin hin0 hb1 hrow hc0 hc1 hpg hc1' hpa hps hat hk'
      generalize hbb : qs[j].1.1 = bb at *
      clear hbb
      generalize hll : qs[j].1.2.length = ll at *
      have Hll := hide hll
      clear hll
      go_wp2_with fail
      refine (markPaceS_any (n₀ := n₀) (ps := qs[j].1.2) (kj + 1) (by have h2 := unhide Hpa; rw [unhide Hps] at h2; exact h2) (by omega) (by omega) (by rw [unhide Hll]; omega)).mono ?_
      rw [unhide Hll]
      rintro e w2 ⟨rfl, hpa2, hgr⟩
      have Hrep : Hid (OwnHall n₀ w2 (.slice (some ⟨g, 0, none⟩) qs.length cap) (markedTo k qs (j + 1)) ∧ OwnOnly (.slice (some ⟨g, 0, none⟩) qs.length cap) qs w w2) := hide (by
        have hj2 : j < ((markedTo k qs j).set j ((kj, qs[j].1.2), qs[j].2)).length := hjs
        have e2 : (((markedTo k qs j).set j ((kj, qs[j].1.2), qs[j].2))[j]'hj2) = ((kj, qs[j].1.2), qs[j].2) := List.getElem_set_self _
        have h3 := OwnHall.repace (unhide Hb1) hj2 (ps := mps (kj + 1) ll) (w' := w2) (by rw [e2]; simp only; rw [unhide Hps]; exact hpa2) (by rw [e2]; simp only; rw [unhide Hps]; exact hgr)
        rw [e2, List.set_set] at h3
        simp only at h3
        have h4 := unhide Hms
        rw [h4] at h3
        exact ⟨h3, (unhide HW1).trans (OwnOnly.grown (List.getElem_mem hlt) (by rw [unhide Hps]; exact hgr))⟩)
      clear hpa2 hgr
      go_wp2_with fail
      go_roundw
      case rel => exact ⟨j + 1, by omega, by go_num, by rw [unhide Hk', hks], (unhide Hrep).1, (unhide Hrep).2⟩
      case measure => simp [intOf]; omega
    · obtain rfl : j = qs.length := by omega
      rw [markedTo_all] at hin
      rw [List.take_length]
      go_wp2_with fail
      go_ret
      exact ⟨rfl, hin, hbl⟩

set_option maxRecDepth 100000 in
set_option maxHeartbeats 1000000 in
theorem markHall_any {n₀ : Nat} {w : World} {v : Value} {qs : List (RoomV × Value)} (k : Int) (h : OwnHall n₀ w v qs) (hn : n₀ ≤ w.heap.size) (hk0 : 0 ≤ k) (hk1 : k ≤ 1000000000) (hl : qs.length ≤ 1048576) (hp : ∀ q ∈ qs, q.1.2.length ≤ 1048576) :
    Calls Tryz.prog 88 #[.agg #[v], .int .i64 k] w fun e w' => e = .returned (.int .i64 (kEnd k qs)) ∧ OwnHall n₀ w' v (markQ k qs) ∧ OwnOnly v qs w w' := by
  have Hv := hide h
  obtain ⟨a, cap, rfl⟩ := h.shape
  have Hp := hide hp
  clear h hp
  go_enter Tryz.func88, Tryz.ntmps88
  go_wp2_with fail
  refine (markRoomS_any k ((unhide Hv).later ((Below.refl _ _).alloc (Nat.le_refl _) _)) (by simp; omega) hk0 hk1 hl (unhide Hp)).mono ?_
  rintro e w1 ⟨rfl, ho, hb⟩
  have Ho := hide ho
  have Hb := hide hb
  clear ho hb
  go_wp2_with fail
  go_ret
  exact ⟨rfl, unhide Ho, (OwnOnly.alloc _ _ _ _).trans (unhide Hb)⟩

end Go.Proofs.YtmhagllddhjgmaaGreat

