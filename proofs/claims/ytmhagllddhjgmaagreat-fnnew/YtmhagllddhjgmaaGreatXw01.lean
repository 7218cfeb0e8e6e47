/- What the proof rests on, part 1: lists and numbers, how they lie in memory, and contracts of the calls. No condition but those that a theorem names. -/
import Derived.Test.YtmhagllddhjgmaaGreatRows
import Derived.WalkKit
import Derived.ProofKit
import Derived.OpenShut
import Derived.Outline
import Derived.Deep.QuietTactic
import Derived.BigQuiet
import Derived.Laws.OwnMore
import Derived.OwnWalk
import Derived.Lib.QuietBelow
import Derived.Maps.AppendAt
/- Contracts of the small functions of chapter 1 and of their models: what each call returns. No condition but those that a theorem names. -/
namespace Go.Proofs.YtmhagllddhjgmaaGreat
open Go.ChangeShapes Go.WideShapes Go.ChangeAt Go.RowKit
set_option linter.unusedVariables false

theorem ret_int {k : IntKind} {a b : Int} (h : a = b) : Ending.returned (.int k a) = .returned (.int k b) := by rw [h]
theorem ret_bool {a b : Bool} (h : a = b) : Ending.returned (.bool a) = .returned (.bool b) := by rw [h]

def inB (x lo hi : Int) : Bool := decide (lo ≤ x ∧ x ≤ hi)
theorem inB_t {x lo hi : Int} (h1 : lo ≤ x) (h2 : x ≤ hi) : inB x lo hi = true := by unfold inB; exact decide_eq_true ⟨h1, h2⟩
theorem inB_f {x lo hi : Int} (h : x < lo ∨ hi < x) : inB x lo hi = false := by unfold inB; exact decide_eq_false (by omega)
theorem inB_of {x lo hi : Int} (h : inB x lo hi = true) : lo ≤ x ∧ x ≤ hi := by unfold inB at h; exact of_decide_eq_true h
theorem hide {p : Prop} (h : p) : Hid p := h
theorem unhide {p : Prop} (h : Hid p) : p := h

theorem l1In_any (x lo hi : Int) (w : World) : Calls Tryz.prog 71 #[.int .i64 x, .int .i64 lo, .int .i64 hi] w fun e w' => e = .returned (.bool (inB x lo hi)) ∧ w' = w := by
  by_cases h1 : lo ≤ x
  · by_cases h2 : x ≤ hi
    all_goals
      go_enter Tryz.func71, Tryz.ntmps71
      go_wp2
      go_ret
      exact ⟨ret_bool (by first | exact (inB_t h1 h2).symm | exact (inB_f (by omega)).symm), rfl⟩
  · go_enter Tryz.func71, Tryz.ntmps71
    go_wp2
    go_ret
    exact ⟨ret_bool (inB_f (by omega)).symm, rfl⟩

theorem isUtil_any (x : Int) (w : World) : Calls Tryz.prog 261 #[.int .i64 x] w fun e w' => e = .returned (.bool (inB x 0 1024)) ∧ w' = w := by
  by_cases h1 : 0 ≤ x
  · by_cases h2 : x ≤ 1024
    all_goals
      go_enter Tryz.func261, Tryz.ntmps261
      go_wp2
      go_ret
      exact ⟨ret_bool (by first | exact (inB_t h1 h2).symm | exact (inB_f (by omega)).symm), rfl⟩
  · go_enter Tryz.func261, Tryz.ntmps261
    go_wp2
    go_ret
    exact ⟨ret_bool (inB_f (by omega)).symm, rfl⟩

end Go.Proofs.YtmhagllddhjgmaaGreat

/- Halls, rooms and paces as lists, and how they lie in memory: what a slice of paces or rooms reads as, and that it reads so on wherever older blocks lie as they lay. No condition. -/
namespace Go.Proofs.YtmhagllddhjgmaaGreat
open Go.ChangeShapes Go.WideShapes Go.ChangeAt Go.RowKit
set_option linter.unusedVariables false

abbrev PaceV := Int × Int
abbrev RoomV := Int × List PaceV
def paceAt (ps : List PaceV) (k : Nat) : PaceV := ps.getD k (0, 0)
def roomAt (rs : List RoomV) (k : Nat) : RoomV := rs.getD k (0, [])

/-- The slice v reads as the paces ps. -/
def IsPaces (w : World) (v : Value) (ps : List PaceV) : Prop :=
  ∃ (a : Option Addr) (cap : Nat), v = .slice a ps.length cap ∧ ps.length ≤ cap ∧ cap ≤ 9223372036854775807 ∧ (ps = [] ∨ ∃ b off, a = some ⟨b, off, none⟩ ∧ b < w.heap.size ∧
    ∀ k, k < ps.length → w.cell? ⟨b, off + k * 2, none⟩ = some (.int .i64 (paceAt ps k).1) ∧ w.cell? ⟨b, off + k * 2 + 1, none⟩ = some (.int .i64 (paceAt ps k).2))
/-- The slice v reads as the rooms rs. -/
def IsRooms (w : World) (v : Value) (rs : List RoomV) : Prop :=
  ∃ (a : Option Addr) (cap : Nat), v = .slice a rs.length cap ∧ rs.length ≤ cap ∧ cap ≤ 9223372036854775807 ∧ (rs = [] ∨ ∃ b off, a = some ⟨b, off, none⟩ ∧ b < w.heap.size ∧
    ∀ k, k < rs.length → w.cell? ⟨b, off + k * 2, none⟩ = some (.int .i64 (roomAt rs k).1) ∧ ∃ pv, w.cell? ⟨b, off + k * 2 + 1, none⟩ = some pv ∧ IsPaces w pv (roomAt rs k).2)

theorem IsPaces.below {w w' : World} {v : Value} {ps : List PaceV} (h : IsPaces w v ps) (hb : Below w.heap.size w w') : IsPaces w' v ps := by
  obtain ⟨a, cap, rfl, hc, hm, hr⟩ := h
  refine ⟨a, cap, rfl, hc, hm, ?_⟩
  rcases hr with hr | ⟨b, off, rfl, hlt, hcl⟩
  · exact .inl hr
  · refine .inr ⟨b, off, rfl, Nat.lt_of_lt_of_le hlt hb.size, fun k hk => ?_⟩
    obtain ⟨h1, h2⟩ := hcl k hk
    exact ⟨by rw [hb.cell (p := ⟨b, off + k * 2, none⟩) hlt]; exact h1, by rw [hb.cell (p := ⟨b, off + k * 2 + 1, none⟩) hlt]; exact h2⟩
theorem IsRooms.below {w w' : World} {v : Value} {rs : List RoomV} (h : IsRooms w v rs) (hb : Below w.heap.size w w') : IsRooms w' v rs := by
  obtain ⟨a, cap, rfl, hc, hm, hr⟩ := h
  refine ⟨a, cap, rfl, hc, hm, ?_⟩
  rcases hr with hr | ⟨b, off, rfl, hlt, hcl⟩
  · exact .inl hr
  · refine .inr ⟨b, off, rfl, Nat.lt_of_lt_of_le hlt hb.size, fun k hk => ?_⟩
    obtain ⟨h1, pv, h2, h3⟩ := hcl k hk
    exact ⟨by rw [hb.cell (p := ⟨b, off + k * 2, none⟩) hlt]; exact h1, pv, by rw [hb.cell (p := ⟨b, off + k * 2 + 1, none⟩) hlt]; exact h2, h3.below hb⟩
def paceB (p : PaceV) : Bool := inB p.1 1 1024 && inB p.2 1 1024
def aboveB (p q : PaceV) : Bool := decide (q.1 < p.1) && decide (q.2 < p.2)
def stepB (ps : List PaceV) (k : Nat) : Bool := paceB (paceAt ps k) && (k == 0 || aboveB (paceAt ps k) (paceAt ps (k - 1)))
def pacesB (ps : List PaceV) : Bool := (List.range ps.length).all (stepB ps)
def roomB (r : RoomV) : Bool := inB r.1 1 4 && (inB r.2.length 1 4 && pacesB r.2)
def benchSum (rs : List RoomV) : Int := (rs.map (·.1)).sum
def hallB (rs : List RoomV) : Bool := inB rs.length 1 3 && (rs.all roomB && decide (benchSum rs ≤ 8))

theorem pacesB_t {ps : List PaceV} (h : ∀ j, j < ps.length → stepB ps j = true) : pacesB ps = true := by
  unfold pacesB; rw [List.all_eq_true]; intro j hj; exact h j (List.mem_range.1 hj)
theorem pacesB_f {ps : List PaceV} {j : Nat} (hj : j < ps.length) (h : stepB ps j = false) : pacesB ps = false := by
  unfold pacesB; rw [List.all_eq_false]; exact ⟨j, List.mem_range.2 hj, by simp [h]⟩
theorem roomAt_mem {rs : List RoomV} {k : Nat} (h : k < rs.length) : roomAt rs k ∈ rs := by
  unfold roomAt; simp [List.getD, h]
theorem allRooms_t {rs : List RoomV} (h : ∀ j, j < rs.length → roomB (roomAt rs j) = true) : rs.all roomB = true := by
  rw [List.all_eq_true]; intro r hr
  obtain ⟨j, hj, rfl⟩ := List.getElem_of_mem hr
  have := h j hj
  unfold roomAt at this; simpa [List.getD, hj] using this
theorem allRooms_f {rs : List RoomV} {j : Nat} (hj : j < rs.length) (h : roomB (roomAt rs j) = false) : rs.all roomB = false := by
  rw [List.all_eq_false]; exact ⟨_, roomAt_mem hj, by simp [h]⟩
theorem allRooms_of {rs : List RoomV} (h : rs.all roomB = true) {j : Nat} (hj : j < rs.length) : roomB (roomAt rs j) = true := by
  rw [List.all_eq_true] at h; exact h _ (roomAt_mem hj)
theorem room_bd {r : RoomV} (h : roomB r = true) : 1 ≤ r.1 ∧ r.1 ≤ 4 ∧ 1 ≤ r.2.length ∧ r.2.length ≤ 4 := by
  unfold roomB at h; simp only [Bool.and_eq_true] at h
  have h1 := inB_of h.1; have h2 := inB_of h.2.1
  omega
theorem benchSum_take (rs : List RoomV) {k : Nat} (h : k < rs.length) : benchSum (rs.take (k + 1)) = benchSum (rs.take k) + (roomAt rs k).1 := by
  unfold benchSum roomAt
  rw [List.take_succ_eq_append_getElem h, List.map_append, List.sum_append]; simp [List.getD, h]
theorem benchSum_bd {rs : List RoomV} (h : rs.all roomB = true) : ∀ k, k ≤ rs.length → (k : Int) ≤ benchSum (rs.take k) ∧ benchSum (rs.take k) ≤ 4 * k
  | 0, _ => by simp [benchSum]
  | k + 1, hk => by
    have ih := benchSum_bd h k (by omega)
    have hb := room_bd (allRooms_of h (j := k) (by omega))
    rw [benchSum_take rs (by omega)]; omega
theorem benchSum_all (rs : List RoomV) : benchSum (rs.take rs.length) = benchSum rs := by rw [List.take_length]
theorem hallB_of {rs : List RoomV} (h : hallB rs = true) : 1 ≤ rs.length ∧ rs.length ≤ 3 ∧ rs.all roomB = true ∧ benchSum rs ≤ 8 := by
  unfold hallB at h; simp only [Bool.and_eq_true, decide_eq_true_eq] at h
  have h1 := inB_of h.1
  exact ⟨by omega, by omega, h.2.1, h.2.2⟩

end Go.Proofs.YtmhagllddhjgmaaGreat

/- Rows of pairs of numbers that the call itself made: what they read as, that they stay where their blocks do, how one is written into; marks. No condition but those that a theorem names. -/
namespace Go.Proofs.YtmhagllddhjgmaaGreat
open Go.ChangeShapes Go.WideShapes Go.ChangeAt Go.RowKit Go.Sort
set_option linter.unusedVariables false

theorem bcell {W w1 : World} {B : Nat} (hb : Below B W w1) : (∀ b o, b < B → w1.cell? ⟨b, o, none⟩ = W.cell? ⟨b, o, none⟩) ∧ (∀ b o, b < B → w1.frozen? ⟨b, o, none⟩ = W.frozen? ⟨b, o, none⟩) :=
  ⟨fun b o h => hb.cell (p := ⟨b, o, none⟩) h, fun b o h => hb.frozen (p := ⟨b, o, none⟩) h⟩

theorem liesFrom_any (lo n hi : Int) (w : World) : Calls Tryz.prog 119 #[.int .i64 lo, .int .i64 n, .int .i64 hi] w fun e w' => e = .returned (.bool (inB n lo hi)) ∧ w' = w := by
  by_cases h1 : lo ≤ n
  · by_cases h2 : n ≤ hi
    all_goals
      go_enter Tryz.func119, Tryz.ntmps119
      go_wp2
      go_ret
      exact ⟨ret_bool (by unfold inB; simp [h1, h2]), rfl⟩
  · go_enter Tryz.func119, Tryz.ntmps119
    go_wp2
    go_ret
    exact ⟨ret_bool (by unfold inB; simp; omega), rfl⟩

theorem next_all {P : Nat → Prop} {k : Nat} (h : ∀ j, j < k → P j) (hk : P k) : ∀ j, j < k + 1 → P j := fun j hj => by
  by_cases e : j < k
  · exact h j e
  · obtain rfl : j = k := by omega
    exact hk

/-- Only block bc and new blocks may differ. -/
structure But (bc : Nat) (w w' : World) : Prop where
  os : w'.os = w.os
  tape : w'.tape = w.tape
  output : w'.output = w.output
  size : w.heap.size ≤ w'.heap.size
  block : ∀ k, k < w.heap.size → k ≠ bc → w'.heap[k]? = w.heap[k]?
theorem But.refl (bc : Nat) (w : World) : But bc w w := ⟨rfl, rfl, rfl, Nat.le_refl _, fun _ _ _ => rfl⟩
theorem But.trans {bc : Nat} {a b c : World} (h : But bc a b) (k : But bc b c) : But bc a c :=
  ⟨k.os.trans h.os, k.tape.trans h.tape, k.output.trans h.output, Nat.le_trans h.size k.size, fun i hi hn => (k.block i (Nat.lt_of_lt_of_le hi h.size) hn).trans (h.block i hi hn)⟩
theorem But.below {bc B : Nat} {a w : World} (h : But bc a w) (hB : B ≤ bc) (hs : B ≤ a.heap.size) : Below B a w :=
  ⟨h.os, h.tape, h.output, h.size, fun k hk => h.block k (Nat.lt_of_lt_of_le hk hs) (by omega)⟩
/-- What a call that keeps all older blocks leaves. -/
theorem But.later {bc : Nat} {a b c : World} (h : But bc a b) (k : Below b.heap.size b c) : But bc a c :=
  h.trans ⟨k.os, k.tape, k.output, k.size, fun i hi _ => k.block i hi⟩
theorem But.within {bc : Nat} {a b c : World} (h : But bc a b) (k : Below a.heap.size b c) : But bc a c :=
  ⟨k.os.trans h.os, k.tape.trans h.tape, k.output.trans h.output, Nat.le_trans h.size k.size, fun i hi hn => (k.block i hi).trans (h.block i hi hn)⟩
theorem But.alloc {bc : Nat} {a w : World} (h : But bc a w) (o : Obj) : But bc a (w.alloc o) := h.later ((Below.refl _ _).alloc (Nat.le_refl _) _)
theorem But.setCell {bc : Nat} {a w : World} (h : But bc a w) (o : Nat) (v : Value) : But bc a (w.setCell ⟨bc, o, none⟩ v) :=
  h.trans ⟨rfl, rfl, rfl, by simp, fun k hk hn => Below.heap_setCell w ⟨bc, o, none⟩ v k hn⟩
theorem But.cell {bc : Nat} {w w' : World} (h : But bc w w') {p : Addr} (hp : p.block < w.heap.size) (hn : p.block ≠ bc) : w'.cell? p = w.cell? p :=
  World.cell?_of_block (w := w) (h.block p.block hp hn)

/-- A row that the call made stays where its block does. -/
theorem own_same {w w' : World} {B t size n : Nat} {v : Value} {xs : List Value} (h : w.ownsRow B t size v n xs) (hs : ∀ k, v.ownBlock = some k → w'.heap[k]? = w.heap[k]?) : w'.ownsRow B t size v n xs := by
  refine ⟨h.1, ?_⟩
  rcases h.2 with hz | ⟨g, cap, cur, rfl, hb, hg, r⟩
  · exact .inl hz
  · exact .inr ⟨g, cap, cur, rfl, hb, (hs g rfl).trans hg, r⟩
theorem own_mono {w : World} {B B' t size n : Nat} {v : Value} {xs : List Value} (h : w.ownsRow B t size v n xs) (hb : B' ≤ B) : w.ownsRow B' t size v n xs := by
  refine ⟨h.1, ?_⟩
  rcases h.2 with hz | ⟨g, cap, cur, rfl, hb', r⟩
  · exact .inl hz
  · exact .inr ⟨g, cap, cur, rfl, by omega, r⟩

def pcells (ps : List PaceV) : List Value := ps.flatMap fun p => [.int .i64 p.1, .int .i64 p.2]
def rcells (qs : List (RoomV × Value)) : List Value := qs.flatMap fun q => [.int .i64 q.1.1, q.2]
theorem pairs_len {α : Type} {f g : α → Value} : ∀ l : List α, (l.flatMap fun p => [f p, g p]).length = l.length * 2
  | [] => rfl
  | p :: l => by rw [List.flatMap_cons, List.length_append, pairs_len l]; simp; omega
theorem pairs_get {α : Type} {f g : α → Value} : ∀ (l : List α) (k : Nat) (h : k < l.length), (l.flatMap fun p => [f p, g p])[k * 2]? = some (f l[k]) ∧ (l.flatMap fun p => [f p, g p])[k * 2 + 1]? = some (g l[k])
  | p :: l, 0, _ => by simp
  | p :: l, k + 1, h => by
    have ih := pairs_get (f := f) (g := g) l k (by simpa using h)
    rw [List.flatMap_cons, show (k + 1) * 2 = k * 2 + 2 by omega, show k * 2 + 2 + 1 = (k * 2 + 1) + 2 by omega]
    simpa using ih

theorem own_cell {w : World} {B g n cap t : Nat} {xs : List Value} (h : w.ownsRow B t 2 (.slice (some ⟨g, 0, none⟩) n cap) n xs) {j : Nat} (hj : j < n * 2) : (∃ c, w.cell? ⟨g, j, none⟩ = some c) ∧ w.frozen? ⟨g, j, none⟩ = false := by
  refine ⟨?_, World.ownsRow.frozenAt h j⟩
  rw [World.ownsRow.cellAt h j hj]
  exact ⟨xs[j]'(by rw [h.1]; exact hj), List.getElem?_eq_getElem _⟩

theorem grown_refl (w : World) (r : Option Nat) : w.grownBy w r := ⟨rfl, rfl, rfl, Nat.le_refl _, fun _ _ _ => rfl⟩

theorem frozen_far {w : World} {b o : Nat} (h : w.heap.size ≤ b) : w.frozen? ⟨b, o, none⟩ = false := by
  unfold World.frozen?
  rw [Array.getElem?_eq_none h]

end Go.Proofs.YtmhagllddhjgmaaGreat

/- Contracts of RoomOk and HallOk, the program's and the model's, and of what they call: each returns what the lists say and writes into no memory that was there. Condition: the slices can be read. -/
namespace Go.Proofs.YtmhagllddhjgmaaGreat
open Go.ChangeShapes Go.WideShapes Go.ChangeAt Go.RowKit Go.Sort
set_option linter.unusedVariables false

theorem isPace_any (f c : Int) (w : World) : Calls Tryz.prog 226 #[.agg #[.int .i64 f, .int .i64 c]] w fun e w' => e = .returned (.bool (paceB (f, c))) ∧ Below w.heap.size w w' := by
  cases h1 : inB f 1 1024
  · go_enter Tryz.func226, Tryz.ntmps226
    go_wp2_with fail
    refine (liesFrom_any _ _ _ _).mono ?_
    rintro e w' ⟨rfl, rfl⟩
    go_wp2_with fail
    go_ret
    exact ⟨ret_bool (by unfold paceB; simp [h1]), (Below.refl _ _).alloc (Nat.le_refl _) _⟩
  · go_enter Tryz.func226, Tryz.ntmps226
    go_wp2_with fail
    refine (liesFrom_any _ _ _ _).mono ?_
    rintro e w' ⟨rfl, rfl⟩
    go_wp2_with fail
    refine (liesFrom_any _ _ _ _).mono ?_
    rintro e w' ⟨rfl, rfl⟩
    go_wp2_with fail
    go_ret
    exact ⟨ret_bool (by unfold paceB; simp [h1]), (Below.refl _ _).alloc (Nat.le_refl _) _⟩

theorem isAbove_any (f c f' c' : Int) (w : World) : Calls Tryz.prog 227 #[.agg #[.int .i64 f, .int .i64 c], .agg #[.int .i64 f', .int .i64 c']] w fun e w' => e = .returned (.bool (aboveB (f, c) (f', c'))) ∧ Below w.heap.size w w' := by
  by_cases h1 : f' < f
  · go_enter Tryz.func227, Tryz.ntmps227
    go_wp2_with fail
    all_goals
      go_ret
      exact ⟨ret_bool (by unfold aboveB; simp [h1]), ((Below.refl _ _).alloc (Nat.le_refl _) _).alloc (by simp) _⟩
  · go_enter Tryz.func227, Tryz.ntmps227
    go_wp2_with fail
    all_goals
      go_ret
      exact ⟨ret_bool (by unfold aboveB; simp; omega), ((Below.refl _ _).alloc (Nat.le_refl _) _).alloc (by simp) _⟩

theorem stepB_p {ps : List PaceV} {k : Nat} {p : PaceV} (hp : paceAt ps k = p) (h : paceB p = false) : stepB ps k = false := by unfold stepB; rw [hp]; simp [h]
theorem stepB_0 {ps : List PaceV} {p : PaceV} (hp : paceAt ps 0 = p) (h : paceB p = true) : stepB ps 0 = true := by unfold stepB; rw [hp]; simp [h]
theorem stepB_s {ps : List PaceV} {k : Nat} {p q : PaceV} (hp : paceAt ps (k + 1) = p) (hq : paceAt ps k = q) (h : paceB p = true) : stepB ps (k + 1) = aboveB p q := by unfold stepB; simp [hp, hq, h]

set_option maxHeartbeats 1000000 in
theorem pacesOk_any {w : World} {v : Value} {ps : List PaceV} (h : IsPaces w v ps) :
    Calls Tryz.prog 195 #[v] w fun e w' => e = .returned (.bool (pacesB ps)) ∧ Below w.heap.size w w' := by
  obtain ⟨a, cap, rfl, hc, hm, hr⟩ := h
  have Hr := hide hr
  clear hr
  go_enter Tryz.func195, Tryz.ntmps195
  go_wp2_with fail
  go_loopw [7] (fun i wr => ∃ k : Nat, k ≤ ps.length ∧ i = .int .i64 k ∧ (∀ j, j < k → stepB ps j = true) ∧ Below w.heap.size w wr) (fun i _ => ps.length - (intOf i).toNat)
  case atStart => exact ⟨0, Nat.zero_le _, rfl, fun j hj => by omega, Below.refl _ _⟩
  case round =>
    obtain ⟨k, hk, rfl, hst, hb⟩ := hrel
    have Hst := hide hst
    have Hb := hide hb
    clear hst
    by_cases hlt : k < ps.length
    · rcases unhide Hr with h0 | ⟨b, off, rfl, hbw, hcl⟩
      · rw [h0] at hlt; simp at hlt
      have hbr : b < wr.heap.size := Nat.lt_of_lt_of_le hbw hb.size
      have hne : b ≠ wr.heap.size := Nat.ne_of_lt hbr
      obtain ⟨c0, c1⟩ := hcl k hlt
      rw [← hb.cell (p := ⟨b, off + k * 2, none⟩) hbw] at c0
      rw [← hb.cell (p := ⟨b, off + k * 2 + 1, none⟩) hbw] at c1
      generalize hp : paceAt ps k = p at c0 c1
      have Hp := hide hp
      clear hp
      obtain ⟨f, c⟩ := p
      simp only at c0 c1
      have d0 : (wr.alloc (.cells #[.int .i64 f, .int .i64 c] 138)).cell? ⟨wr.heap.size, 0, none⟩ = some (.int .i64 f) := by simp
      have d1 : (wr.alloc (.cells #[.int .i64 f, .int .i64 c] 138)).cell? ⟨wr.heap.size, 1, none⟩ = some (.int .i64 c) := by simp
      have k0 := cell_regrown d0
      have k1 := cell_regrown d1
      clear d0 d1
      cases hpb : paceB (f, c)
      · clear hcl
        go_wp2_with fail
        refine wp_region_quiet_below (by kernel_rfl) (by kernel_rfl) ?_
        repeat (go_big_quiet_step (first | exact Calls.regrown_of (isPace_any _ _ _) | exact Calls.regrown_of (isAbove_any _ _ _ _ _)))
        refine wpQuiet_nil ?_
        intro _ hw'
        obtain ⟨⟨dq, osq⟩, hw''⟩ := hw'
        subst hw''
        go_wp2_with fail
        go_ret
        exact ⟨ret_bool (pacesB_f hlt (stepB_p (unhide Hp) hpb)).symm, (unhide Hb).trans (((Below.refl _ _).alloc (unhide Hb).size _).trans ((below_regrown _ _ _).mono (by simp; have := (unhide Hb).size; omega)))⟩
      · by_cases hz : 0 < k
        · have hd : decide (0 < k) = true := decide_eq_true hz
          obtain ⟨e0, e1⟩ := hcl (k - 1) (by omega)
          rw [← hb.cell (p := ⟨b, off + (k - 1) * 2, none⟩) hbw] at e0
          rw [← hb.cell (p := ⟨b, off + (k - 1) * 2 + 1, none⟩) hbw] at e1
          generalize hq : paceAt ps (k - 1) = q at e0 e1
          have Hq := hide hq
          clear hq
          obtain ⟨f', c'⟩ := q
          simp only at e0 e1
          have m0 := cell_regrown (w := wr.alloc (.cells #[.int .i64 f, .int .i64 c] 138)) (a := ⟨b, off + (k - 1) * 2, none⟩) (v := .int .i64 f') (by rw [World.cell?_alloc_old _ _ _ hne]; exact e0)
          have m1 := cell_regrown (w := wr.alloc (.cells #[.int .i64 f, .int .i64 c] 138)) (a := ⟨b, off + (k - 1) * 2 + 1, none⟩) (v := .int .i64 c') (by rw [World.cell?_alloc_old _ _ _ hne]; exact e1)
          clear hcl e0 e1
          cases hab : aboveB (f, c) (f', c')
          all_goals
            go_wp2_with fail
            refine wp_region_quiet_below (by kernel_rfl) (by kernel_rfl) ?_
            repeat (go_big_quiet_step (first | exact Calls.regrown_of (isPace_any _ _ _) | exact Calls.regrown_of (isAbove_any _ _ _ _ _)))
            refine wpQuiet_nil ?_
            intro _ hw'
            obtain ⟨⟨dq, osq⟩, hw''⟩ := hw'
            subst hw''
            go_wp2_with fail
          · go_ret
            exact ⟨ret_bool (pacesB_f hlt (by obtain ⟨m, rfl⟩ : ∃ m, k = m + 1 := ⟨k - 1, by omega⟩; rw [stepB_s (unhide Hp) (unhide Hq) hpb]; exact hab)).symm, (unhide Hb).trans (((Below.refl _ _).alloc (unhide Hb).size _).trans ((below_regrown _ _ _).mono (by simp; have := (unhide Hb).size; omega)))⟩
          · have hs : stepB ps k = true := by obtain ⟨m, rfl⟩ : ∃ m, k = m + 1 := ⟨k - 1, by omega⟩; rw [stepB_s (unhide Hp) (unhide Hq) hpb]; exact hab
            go_roundw
            case rel => exact ⟨k + 1, by omega, by go_num, next_all (unhide Hst) hs, (unhide Hb).trans (((Below.refl _ _).alloc (unhide Hb).size _).trans ((below_regrown _ _ _).mono (by simp; have := (unhide Hb).size; omega)))⟩
            case measure => simp [intOf]; omega
        · obtain rfl : k = 0 := by omega
          simp only [Nat.zero_mul, Nat.add_zero] at c0 c1
          clear hcl hz
          go_wp2_with fail
          refine wp_region_quiet_below (by kernel_rfl) (by kernel_rfl) ?_
          repeat (go_big_quiet_step (first | exact Calls.regrown_of (isPace_any _ _ _) | exact Calls.regrown_of (isAbove_any _ _ _ _ _)))
          refine wpQuiet_nil ?_
          intro _ hw'
          obtain ⟨⟨dq, osq⟩, hw''⟩ := hw'
          subst hw''
          go_wp2_with fail
          go_roundw
          case rel => exact ⟨1, by omega, by go_num, next_all (unhide Hst) (stepB_0 (unhide Hp) hpb), (unhide Hb).trans (((Below.refl _ _).alloc (unhide Hb).size _).trans ((below_regrown _ _ _).mono (by simp; have := (unhide Hb).size; omega)))⟩
          case measure => simp [intOf]; omega
    · obtain rfl : k = ps.length := by omega
      go_wp2_with fail
      go_ret
      exact ⟨ret_bool (pacesB_t (unhide Hst)).symm, hb⟩

end Go.Proofs.YtmhagllddhjgmaaGreat

