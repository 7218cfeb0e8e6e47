/- What the proof rests on, part 1: lists and numbers, how they lie in memory, and contracts of the calls. No condition but those that a theorem names. -/
import Derived.Test.YtffcgajndmhpkaaGreatChecked
import GoSem.Claim
import GoSem.ClaimJoined
import GoSem.ClaimMapViews
import Derived.JoinedTies
import Derived.KernelRfl
import Derived.RowKit
import Derived.WalkKit
import Derived.ProofKit
import Derived.OpenShut
import Derived.Outline
import Derived.Lib.QuietBelow
import Derived.Deep.QuietTactic
import Derived.BigQuiet
import Derived.Laws.OwnMore
import Derived.OwnWalk
import Derived.Maps.AppendAt
/- Contracts of the small functions of chapter 1 and of their models: what each call returns. No condition but those that a theorem names. -/
namespace Go.Proofs.YtffcgajndmhpkaaGreat
open Go.ChangeShapes Go.WideShapes Go.ChangeAt Go.RowKit
set_option linter.unusedVariables false

theorem ret_int {k : IntKind} {a b : Int} (h : a = b) : Ending.returned (.int k a) = .returned (.int k b) := by rw [h]
theorem ret_bool {a b : Bool} (h : a = b) : Ending.returned (.bool a) = .returned (.bool b) := by rw [h]

def inB (x lo hi : Int) : Bool := decide (lo ≤ x ∧ x ≤ hi)
theorem inB_t {x lo hi : Int} (h1 : lo ≤ x) (h2 : x ≤ hi) : inB x lo hi = true := by unfold inB; exact decide_eq_true ⟨h1, h2⟩
theorem inB_f {x lo hi : Int} (h : x < lo ∨ hi < x) : inB x lo hi = false := by unfold inB; exact decide_eq_false (by omega)
theorem inB_of {x lo hi : Int} (h : inB x lo hi = true) : lo ≤ x ∧ x ≤ hi := by unfold inB at h; exact of_decide_eq_true h
theorem hide {p : Prop} (h : p) : Hid p := h
theorem unhide {p : Prop} (h : Hid p) : p := h

theorem l1Min_any (a b : Int) (w : World) : Calls Tryz.prog 124 #[.int .i64 a, .int .i64 b] w fun e w' => e = .returned (.int .i64 (min a b)) ∧ w' = w := by
  by_cases h : a < b
  all_goals
    go_enter Tryz.func124, Tryz.ntmps124
    go_wp2
    go_ret
    exact ⟨ret_int (by omega), rfl⟩

theorem l1Max_any (a b : Int) (w : World) : Calls Tryz.prog 58 #[.int .i64 a, .int .i64 b] w fun e w' => e = .returned (.int .i64 (max a b)) ∧ w' = w := by
  by_cases h : b < a
  all_goals
    go_enter Tryz.func58, Tryz.ntmps58
    go_wp2
    go_ret
    exact ⟨ret_int (by omega), rfl⟩

theorem specClamped_any (x l h : Int) (w : World) : Calls Tryz.prog 101 #[.int .i64 x, .int .i64 l, .int .i64 h] w fun e w' => e = .returned (.int .i64 (min (max x l) h)) ∧ w' = w := by
  go_enter Tryz.func101, Tryz.ntmps101
  go_wp2_with (first | (go_at_call 124; refine (l1Min_any _ _ _).mono ?_; rintro e w' ⟨rfl, rfl⟩) | (go_at_call 58; refine (l1Max_any _ _ _).mono ?_; rintro e w' ⟨rfl, rfl⟩))
  go_ret
  exact ⟨rfl, rfl⟩

theorem implClamped_any (x l h : Int) (w : World) : Calls Tryz.prog 119 #[.int .i64 x, .int .i64 l, .int .i64 h] w fun e w' => e = .returned (.int .i64 (min (max x l) h)) ∧ w' = w := by
  by_cases c1 : x < l
  · by_cases c2 : h < l
    all_goals
      go_enter Tryz.func119, Tryz.ntmps119
      go_wp2
      all_goals (go_ret; exact ⟨ret_int (by omega), rfl⟩)
  · by_cases c2 : h < x
    all_goals
      go_enter Tryz.func119, Tryz.ntmps119
      go_wp2
      all_goals (go_ret; exact ⟨ret_int (by omega), rfl⟩)

theorem l1In_any (x lo hi : Int) (w : World) : Calls Tryz.prog 32 #[.int .i64 x, .int .i64 lo, .int .i64 hi] w fun e w' => e = .returned (.bool (inB x lo hi)) ∧ w' = w := by
  by_cases h1 : lo ≤ x
  · by_cases h2 : x ≤ hi
    all_goals
      go_enter Tryz.func32, Tryz.ntmps32
      go_wp2
      go_ret
      exact ⟨ret_bool (by first | exact (inB_t h1 h2).symm | exact (inB_f (by omega)).symm), rfl⟩
  · go_enter Tryz.func32, Tryz.ntmps32
    go_wp2
    go_ret
    exact ⟨ret_bool (inB_f (by omega)).symm, rfl⟩

theorem isUtil_any (x : Int) (w : World) : Calls Tryz.prog 150 #[.int .i64 x] w fun e w' => e = .returned (.bool (inB x 0 1024)) ∧ w' = w := by
  by_cases h1 : 0 ≤ x
  · by_cases h2 : x ≤ 1024
    all_goals
      go_enter Tryz.func150, Tryz.ntmps150
      go_wp2
      go_ret
      exact ⟨ret_bool (by first | exact (inB_t h1 h2).symm | exact (inB_f (by omega)).symm), rfl⟩
  · go_enter Tryz.func150, Tryz.ntmps150
    go_wp2
    go_ret
    exact ⟨ret_bool (inB_f (by omega)).symm, rfl⟩

end Go.Proofs.YtffcgajndmhpkaaGreat

/- Halls, rooms and paces as lists, and how they lie in memory: what a slice of paces or rooms reads as, and that it reads so on wherever older blocks lie as they lay. No condition. -/
namespace Go.Proofs.YtffcgajndmhpkaaGreat
open Go.ChangeShapes Go.WideShapes Go.ChangeAt Go.RowKit
set_option linter.unusedVariables false

abbrev PaceV := Int × Int
abbrev RoomV := Int × List PaceV
def paceAt (ps : List PaceV) (k : Nat) : PaceV := ps.getD k (0, 0)
def roomAt (rs : List RoomV) (k : Nat) : RoomV := rs.getD k (0, [])

/-- The slice v reads as the paces ps. -/
def IsPaces (w : World) (v : Value) (ps : List PaceV) : Prop :=
  ∃ (a : Option Addr) (cap : Nat), v = .slice a ps.length cap ∧ ps.length ≤ cap ∧ cap ≤ 9223372036854775807 ∧ (ps = [] ∨ ∃ b off, a = some ⟨b, off, none⟩ ∧ b < w.heap.size ∧
    ∀ k, k < ps.length → w.cell? ⟨b, off + k * 2, none⟩ = some (.int .i64 (paceAt ps k).1) ∧ w.cell? ⟨b, off + k * 2 + 1, none⟩ = some (.int .i64 (paceAt ps k).2))
/-- The slice v reads as the rooms rs. -/
def IsRooms (w : World) (v : Value) (rs : List RoomV) : Prop :=
  ∃ (a : Option Addr) (cap : Nat), v = .slice a rs.length cap ∧ rs.length ≤ cap ∧ cap ≤ 9223372036854775807 ∧ (rs = [] ∨ ∃ b off, a = some ⟨b, off, none⟩ ∧ b < w.heap.size ∧
    ∀ k, k < rs.length → w.cell? ⟨b, off + k * 2, none⟩ = some (.int .i64 (roomAt rs k).1) ∧ ∃ pv, w.cell? ⟨b, off + k * 2 + 1, none⟩ = some pv ∧ IsPaces w pv (roomAt rs k).2)

theorem IsPaces.below {w w' : World} {v : Value} {ps : List PaceV} (h : IsPaces w v ps) (hb : Below w.heap.size w w') : IsPaces w' v ps := by
  obtain ⟨a, cap, rfl, hc, hm, hr⟩ := h
  refine ⟨a, cap, rfl, hc, hm, ?_⟩
  rcases hr with hr | ⟨b, off, rfl, hlt, hcl⟩
  · exact .inl hr
  · refine .inr ⟨b, off, rfl, Nat.lt_of_lt_of_le hlt hb.size, fun k hk => ?_⟩
    obtain ⟨h1, h2⟩ := hcl k hk
    exact ⟨by rw [hb.cell (p := ⟨b, off + k * 2, none⟩) hlt]; exact h1, by rw [hb.cell (p := ⟨b, off + k * 2 + 1, none⟩) hlt]; exact h2⟩
theorem IsRooms.below {w w' : World} {v : Value} {rs : List RoomV} (h : IsRooms w v rs) (hb : Below w.heap.size w w') : IsRooms w' v rs := by
  obtain ⟨a, cap, rfl, hc, hm, hr⟩ := h
  refine ⟨a, cap, rfl, hc, hm, ?_⟩
  rcases hr with hr | ⟨b, off, rfl, hlt, hcl⟩
  · exact .inl hr
  · refine .inr ⟨b, off, rfl, Nat.lt_of_lt_of_le hlt hb.size, fun k hk => ?_⟩
    obtain ⟨h1, pv, h2, h3⟩ := hcl k hk
    exact ⟨by rw [hb.cell (p := ⟨b, off + k * 2, none⟩) hlt]; exact h1, pv, by rw [hb.cell (p := ⟨b, off + k * 2 + 1, none⟩) hlt]; exact h2, h3.below hb⟩
theorem roomAt_take {rs : List RoomV} {n k : Nat} (h : k < n) : roomAt (rs.take n) k = roomAt rs k := by
  unfold roomAt; simp [List.getD, h]
/-- The first n of them, where n is not more than there are. -/
theorem IsRooms.taken {w : World} {a : Option Addr} {len cap : Nat} {rs : List RoomV} (h : IsRooms w (.slice a len cap) rs) {n : Nat} (hn : n ≤ len) : IsRooms w (.slice a n cap) (rs.take n) := by
  obtain ⟨a', cap', he, hc, hm, hr⟩ := h
  cases he
  have hl : (rs.take n).length = n := by simp; omega
  refine ⟨a, cap, by rw [hl], by omega, hm, ?_⟩
  rcases hr with hr | ⟨b, off, rfl, hlt, hcl⟩
  · exact .inl (by rw [hr]; simp)
  · refine .inr ⟨b, off, rfl, hlt, fun k hk => ?_⟩
    rw [roomAt_take (by omega)]
    exact hcl k (by omega)

def paceB (p : PaceV) : Bool := inB p.1 1 1024 && inB p.2 1 1024
def aboveB (p q : PaceV) : Bool := decide (q.1 < p.1) && decide (q.2 < p.2)
def stepB (ps : List PaceV) (k : Nat) : Bool := paceB (paceAt ps k) && (k == 0 || aboveB (paceAt ps k) (paceAt ps (k - 1)))
def pacesB (ps : List PaceV) : Bool := (List.range ps.length).all (stepB ps)
def roomB (r : RoomV) : Bool := inB r.1 1 4 && (inB r.2.length 1 4 && pacesB r.2)
def benchSum (rs : List RoomV) : Int := (rs.map (·.1)).sum
def hallB (rs : List RoomV) : Bool := inB rs.length 1 3 && (rs.all roomB && decide (benchSum rs ≤ 8))

theorem pacesB_t {ps : List PaceV} (h : ∀ j, j < ps.length → stepB ps j = true) : pacesB ps = true := by
  unfold pacesB; rw [List.all_eq_true]; intro j hj; exact h j (List.mem_range.1 hj)
theorem pacesB_f {ps : List PaceV} {j : Nat} (hj : j < ps.length) (h : stepB ps j = false) : pacesB ps = false := by
  unfold pacesB; rw [List.all_eq_false]; exact ⟨j, List.mem_range.2 hj, by simp [h]⟩
theorem pacesB_of {ps : List PaceV} (h : pacesB ps = true) {j : Nat} (hj : j < ps.length) : stepB ps j = true := by
  unfold pacesB at h; rw [List.all_eq_true] at h; exact h j (List.mem_range.2 hj)
theorem roomAt_mem {rs : List RoomV} {k : Nat} (h : k < rs.length) : roomAt rs k ∈ rs := by
  unfold roomAt; simp [List.getD, h]
theorem allRooms_t {rs : List RoomV} (h : ∀ j, j < rs.length → roomB (roomAt rs j) = true) : rs.all roomB = true := by
  rw [List.all_eq_true]; intro r hr
  obtain ⟨j, hj, rfl⟩ := List.getElem_of_mem hr
  have := h j hj
  unfold roomAt at this; simpa [List.getD, hj] using this
theorem allRooms_f {rs : List RoomV} {j : Nat} (hj : j < rs.length) (h : roomB (roomAt rs j) = false) : rs.all roomB = false := by
  rw [List.all_eq_false]; exact ⟨_, roomAt_mem hj, by simp [h]⟩
theorem allRooms_of {rs : List RoomV} (h : rs.all roomB = true) {j : Nat} (hj : j < rs.length) : roomB (roomAt rs j) = true := by
  rw [List.all_eq_true] at h; exact h _ (roomAt_mem hj)
theorem room_bd {r : RoomV} (h : roomB r = true) : 1 ≤ r.1 ∧ r.1 ≤ 4 ∧ 1 ≤ r.2.length ∧ r.2.length ≤ 4 := by
  unfold roomB at h; simp only [Bool.and_eq_true] at h
  have h1 := inB_of h.1; have h2 := inB_of h.2.1
  omega
theorem benchSum_take (rs : List RoomV) {k : Nat} (h : k < rs.length) : benchSum (rs.take (k + 1)) = benchSum (rs.take k) + (roomAt rs k).1 := by
  unfold benchSum roomAt
  rw [List.take_succ_eq_append_getElem h, List.map_append, List.sum_append]; simp [List.getD, h]
theorem benchSum_bd {rs : List RoomV} (h : rs.all roomB = true) : ∀ k, k ≤ rs.length → (k : Int) ≤ benchSum (rs.take k) ∧ benchSum (rs.take k) ≤ 4 * k
  | 0, _ => by simp [benchSum]
  | k + 1, hk => by
    have ih := benchSum_bd h k (by omega)
    have hb := room_bd (allRooms_of h (j := k) (by omega))
    rw [benchSum_take rs (by omega)]; omega
theorem benchSum_all (rs : List RoomV) : benchSum (rs.take rs.length) = benchSum rs := by rw [List.take_length]
theorem hallB_of {rs : List RoomV} (h : hallB rs = true) : 1 ≤ rs.length ∧ rs.length ≤ 3 ∧ rs.all roomB = true ∧ benchSum rs ≤ 8 := by
  unfold hallB at h; simp only [Bool.and_eq_true, decide_eq_true_eq] at h
  have h1 := inB_of h.1
  exact ⟨by omega, by omega, h.2.1, h.2.2⟩

end Go.Proofs.YtffcgajndmhpkaaGreat

/- Rows of pairs of numbers that the call itself made: what they read as, that they stay where their blocks do, how one is written into; marks. No condition but those that a theorem names. -/
namespace Go.Proofs.YtffcgajndmhpkaaGreat
open Go.ChangeShapes Go.WideShapes Go.ChangeAt Go.RowKit Go.Sort
set_option linter.unusedVariables false

theorem bcell {W w1 : World} {B : Nat} (hb : Below B W w1) : (∀ b o, b < B → w1.cell? ⟨b, o, none⟩ = W.cell? ⟨b, o, none⟩) ∧ (∀ b o, b < B → w1.frozen? ⟨b, o, none⟩ = W.frozen? ⟨b, o, none⟩) :=
  ⟨fun b o h => hb.cell (p := ⟨b, o, none⟩) h, fun b o h => hb.frozen (p := ⟨b, o, none⟩) h⟩

theorem liesFrom_any (lo n hi : Int) (w : World) : Calls Tryz.prog 43 #[.int .i64 lo, .int .i64 n, .int .i64 hi] w fun e w' => e = .returned (.bool (inB n lo hi)) ∧ w' = w := by
  by_cases h1 : lo ≤ n
  · by_cases h2 : n ≤ hi
    all_goals
      go_enter Tryz.func43, Tryz.ntmps43
      go_wp2
      go_ret
      exact ⟨ret_bool (by unfold inB; simp [h1, h2]), rfl⟩
  · go_enter Tryz.func43, Tryz.ntmps43
    go_wp2
    go_ret
    exact ⟨ret_bool (by unfold inB; simp; omega), rfl⟩

theorem next_all {P : Nat → Prop} {k : Nat} (h : ∀ j, j < k → P j) (hk : P k) : ∀ j, j < k + 1 → P j := fun j hj => by
  by_cases e : j < k
  · exact h j e
  · obtain rfl : j = k := by omega
    exact hk

/-- A row that the call made stays where its block does. -/
theorem own_same {w w' : World} {B t size n : Nat} {v : Value} {xs : List Value} (h : w.ownsRow B t size v n xs) (hs : ∀ k, v.ownBlock = some k → w'.heap[k]? = w.heap[k]?) : w'.ownsRow B t size v n xs := by
  refine ⟨h.1, ?_⟩
  rcases h.2 with hz | ⟨g, cap, cur, rfl, hb, hg, r⟩
  · exact .inl hz
  · exact .inr ⟨g, cap, cur, rfl, hb, (hs g rfl).trans hg, r⟩
theorem own_mono {w : World} {B B' t size n : Nat} {v : Value} {xs : List Value} (h : w.ownsRow B t size v n xs) (hb : B' ≤ B) : w.ownsRow B' t size v n xs := by
  refine ⟨h.1, ?_⟩
  rcases h.2 with hz | ⟨g, cap, cur, rfl, hb', r⟩
  · exact .inl hz
  · exact .inr ⟨g, cap, cur, rfl, by omega, r⟩

def pcells (ps : List PaceV) : List Value := ps.flatMap fun p => [.int .i64 p.1, .int .i64 p.2]
theorem pairs_len {α : Type} {f g : α → Value} : ∀ l : List α, (l.flatMap fun p => [f p, g p]).length = l.length * 2
  | [] => rfl
  | p :: l => by rw [List.flatMap_cons, List.length_append, pairs_len l]; simp; omega
theorem pairs_get {α : Type} {f g : α → Value} : ∀ (l : List α) (k : Nat) (h : k < l.length), (l.flatMap fun p => [f p, g p])[k * 2]? = some (f l[k]) ∧ (l.flatMap fun p => [f p, g p])[k * 2 + 1]? = some (g l[k])
  | p :: l, 0, _ => by simp
  | p :: l, k + 1, h => by
    have ih := pairs_get (f := f) (g := g) l k (by simpa using h)
    rw [List.flatMap_cons, show (k + 1) * 2 = k * 2 + 2 by omega, show k * 2 + 2 + 1 = (k * 2 + 1) + 2 by omega]
    simpa using ih

def szV (n : Nat) (left : Int) : Int := if left - n < 0 then -1 else left - n
theorem szV_f {n : Nat} {left : Int} (h : left - n < 0) : szV n left = -1 := by unfold szV; rw [if_pos h]
theorem szV_t {n : Nat} {left : Int} (h : ¬ left - n < 0) : szV n left = left - n := by unfold szV; rw [if_neg h]

/-- The first k pairs of cells of a row. -/
def Pairs (xs : List Value) (P : Nat → Value → Value → Prop) (k : Nat) : Prop := ∀ j, j < k → ∃ u u', xs[j * 2]? = some u ∧ xs[j * 2 + 1]? = some u' ∧ P j u u'
theorem Pairs.next {xs : List Value} {P : Nat → Value → Value → Prop} {k : Nat} {u u' : Value} (h : Pairs xs P k) (hl : k * 2 + 1 < xs.length) (hp : P k u u') : Pairs ((xs.set (k * 2) u).set (k * 2 + 1) u') P (k + 1) := fun j hj => by
  by_cases e : j < k
  · obtain ⟨a, a', h1, h2, h3⟩ := h j e
    refine ⟨a, a', ?_, ?_, h3⟩
    · rw [List.getElem?_set_ne (by omega), List.getElem?_set_ne (by omega)]; exact h1
    · rw [List.getElem?_set_ne (by omega), List.getElem?_set_ne (by omega)]; exact h2
  · obtain rfl : j = k := by omega
    refine ⟨u, u', ?_, ?_, hp⟩
    · rw [List.getElem?_set_ne (by omega), List.getElem?_set_self (by omega)]
    · rw [List.getElem?_set_self (by simp; omega)]
theorem Pairs.mono {xs : List Value} {P Q : Nat → Value → Value → Prop} {k : Nat} (h : Pairs xs P k) (hpq : ∀ j u u', P j u u' → Q j u u') : Pairs xs Q k := fun j hj => by
  obtain ⟨a, a', h1, h2, h3⟩ := h j hj
  exact ⟨a, a', h1, h2, hpq _ _ _ h3⟩

def isPaceOf (ps : List PaceV) (j : Nat) (u u' : Value) : Prop := u = .int .i64 (paceAt ps j).1 ∧ u' = .int .i64 (paceAt ps j).2
/-- A row of paces that the call made. -/
theorem IsPaces.of_row {w : World} {B g n cap t : Nat} {ps : List PaceV} {xs : List Value} (h : w.ownsRow B t 2 (.slice (some ⟨g, 0, none⟩) n cap) n xs) (hp : Pairs xs (isPaceOf ps) ps.length) (hn : n = ps.length) : IsPaces w (.slice (some ⟨g, 0, none⟩) n cap) ps := by
  subst hn
  have h' := h
  rcases h.2 with ⟨hh, _⟩ | ⟨g', cap', cur, hh, hb, hg, hnc, hcm, r⟩
  · simp at hh
  · simp only [Value.slice.injEq, Option.some.injEq, Addr.mk.injEq, and_true, true_and] at hh
    obtain ⟨rfl, rfl⟩ := hh
    refine ⟨_, cap, rfl, hnc, by unfold maxLen at hcm; omega, .inr ⟨g, 0, rfl, (Array.getElem?_eq_some_iff.1 hg).1, fun k hk => ?_⟩⟩
    obtain ⟨u, u', h1, h2, rfl, rfl⟩ := hp k hk
    refine ⟨?_, ?_⟩
    · rw [Nat.zero_add, World.ownsRow.cellAt h' _ (by omega)]; exact h1
    · rw [Nat.zero_add, World.ownsRow.cellAt h' _ (by omega)]; exact h2

theorem own_cell {w : World} {B g n cap t : Nat} {xs : List Value} (h : w.ownsRow B t 2 (.slice (some ⟨g, 0, none⟩) n cap) n xs) {j : Nat} (hj : j < n * 2) : (∃ c, w.cell? ⟨g, j, none⟩ = some c) ∧ w.frozen? ⟨g, j, none⟩ = false := by
  refine ⟨?_, World.ownsRow.frozenAt h j⟩
  rw [World.ownsRow.cellAt h j hj]
  exact ⟨xs[j]'(by rw [h.1]; exact hj), List.getElem?_eq_getElem _⟩

theorem below_grown {B g : Nat} {w w' : World} (hg : w.grownBy w' (some g)) (hB : B ≤ g) (hs : B ≤ w.heap.size) : Below B w w' := (Below.refl B w).grown hg hs (fun k e => by cases e; exact hB)
theorem grown_trans {a b c : World} {row : Option Nat} (h : a.grownBy b row) (k : b.grownBy c row) : a.grownBy c row :=
  ⟨k.os.trans h.os, k.tape.trans h.tape, k.output.trans h.output, Nat.le_trans h.size k.size, fun i hi hn => (k.block i (Nat.lt_of_lt_of_le hi h.size) hn).trans (h.block i hi hn)⟩

/-- Two stores into one pair of a row. -/
theorem own_pair {w : World} {B g n cap t : Nat} {xs : List Value} (h : w.ownsRow B t 2 (.slice (some ⟨g, 0, none⟩) n cap) n xs) (j : Nat) (u u' : Value) :
    ((w.setCell ⟨g, j, none⟩ u).setCell ⟨g, j + 1, none⟩ u').ownsRow B t 2 (.slice (some ⟨g, 0, none⟩) n cap) n ((xs.set j u).set (j + 1) u') ∧ w.grownBy ((w.setCell ⟨g, j, none⟩ u).setCell ⟨g, j + 1, none⟩ u') (some g) := by
  have h1 := World.ownsRow.stored h j u
  have h2 := World.ownsRow.stored h1.1 (j + 1) u'
  exact ⟨h2.1, grown_trans h1.2 h2.2⟩
theorem own_later {w w' : World} {B g n cap t : Nat} {xs : List Value} (h : w.ownsRow B t 2 (.slice (some ⟨g, 0, none⟩) n cap) n xs) (hb : Below w.heap.size w w') : w'.ownsRow B t 2 (.slice (some ⟨g, 0, none⟩) n cap) n xs := by
  have hlt := (World.ownsRow.lt h g rfl).2
  refine ⟨h.1, ?_⟩
  rcases h.2 with hz | ⟨g', cap', cur, hh, hb', hg, r⟩
  · exact .inl hz
  · simp only [Value.slice.injEq, Option.some.injEq, Addr.mk.injEq, and_true, true_and] at hh
    obtain ⟨rfl, rfl⟩ := hh
    exact .inr ⟨g, cap, cur, rfl, hb', (hb.block g hlt).trans hg, r⟩

theorem grown_refl (w : World) (r : Option Nat) : w.grownBy w r := ⟨rfl, rfl, rfl, Nat.le_refl _, fun _ _ _ => rfl⟩

end Go.Proofs.YtffcgajndmhpkaaGreat

/- Contracts of RoomOk and HallOk, the program's and the model's, and of what they call: each returns what the lists say and writes into no memory that was there. Condition: the slices can be read. -/
namespace Go.Proofs.YtffcgajndmhpkaaGreat
open Go.ChangeShapes Go.WideShapes Go.ChangeAt Go.RowKit Go.Sort
set_option linter.unusedVariables false

theorem isPace_any (f c : Int) (w : World) : Calls Tryz.prog 96 #[.agg #[.int .i64 f, .int .i64 c]] w fun e w' => e = .returned (.bool (paceB (f, c))) ∧ Below w.heap.size w w' := by
  cases h1 : inB f 1 1024
  · go_enter Tryz.func96, Tryz.ntmps96
    go_wp2_with fail
    refine (liesFrom_any _ _ _ _).mono ?_
    rintro e w' ⟨rfl, rfl⟩
    go_wp2_with fail
    go_ret
    exact ⟨ret_bool (by unfold paceB; simp [h1]), (Below.refl _ _).alloc (Nat.le_refl _) _⟩
  · go_enter Tryz.func96, Tryz.ntmps96
    go_wp2_with fail
    refine (liesFrom_any _ _ _ _).mono ?_
    rintro e w' ⟨rfl, rfl⟩
    go_wp2_with fail
    refine (liesFrom_any _ _ _ _).mono ?_
    rintro e w' ⟨rfl, rfl⟩
    go_wp2_with fail
    go_ret
    exact ⟨ret_bool (by unfold paceB; simp [h1]), (Below.refl _ _).alloc (Nat.le_refl _) _⟩

theorem isAbove_any (f c f' c' : Int) (w : World) : Calls Tryz.prog 97 #[.agg #[.int .i64 f, .int .i64 c], .agg #[.int .i64 f', .int .i64 c']] w fun e w' => e = .returned (.bool (aboveB (f, c) (f', c'))) ∧ Below w.heap.size w w' := by
  by_cases h1 : f' < f
  · go_enter Tryz.func97, Tryz.ntmps97
    go_wp2_with fail
    all_goals
      go_ret
      exact ⟨ret_bool (by unfold aboveB; simp [h1]), ((Below.refl _ _).alloc (Nat.le_refl _) _).alloc (by simp) _⟩
  · go_enter Tryz.func97, Tryz.ntmps97
    go_wp2_with fail
    all_goals
      go_ret
      exact ⟨ret_bool (by unfold aboveB; simp; omega), ((Below.refl _ _).alloc (Nat.le_refl _) _).alloc (by simp) _⟩

theorem stepB_p {ps : List PaceV} {k : Nat} {p : PaceV} (hp : paceAt ps k = p) (h : paceB p = false) : stepB ps k = false := by unfold stepB; rw [hp]; simp [h]
theorem stepB_0 {ps : List PaceV} {p : PaceV} (hp : paceAt ps 0 = p) (h : paceB p = true) : stepB ps 0 = true := by unfold stepB; rw [hp]; simp [h]
theorem stepB_s {ps : List PaceV} {k : Nat} {p q : PaceV} (hp : paceAt ps (k + 1) = p) (hq : paceAt ps k = q) (h : paceB p = true) : stepB ps (k + 1) = aboveB p q := by unfold stepB; simp [hp, hq, h]

set_option maxHeartbeats 1000000 in
theorem pacesOk_any {w : World} {v : Value} {ps : List PaceV} (h : IsPaces w v ps) :
    Calls Tryz.prog 69 #[v] w fun e w' => e = .returned (.bool (pacesB ps)) ∧ Below w.heap.size w w' := by
  obtain ⟨a, cap, rfl, hc, hm, hr⟩ := h
  have Hr := hide hr
  clear hr
  go_enter Tryz.func69, Tryz.ntmps69
  go_wp2_with fail
  go_loopw [7] (fun i wr => ∃ k : Nat, k ≤ ps.length ∧ i = .int .i64 k ∧ (∀ j, j < k → stepB ps j = true) ∧ Below w.heap.size w wr) (fun i _ => ps.length - (intOf i).toNat)
  case atStart => exact ⟨0, Nat.zero_le _, rfl, fun j hj => by omega, Below.refl _ _⟩
  case round =>
    obtain ⟨k, hk, rfl, hst, hb⟩ := hrel
    have Hst := hide hst
    have Hb := hide hb
    clear hst
    by_cases hlt : k < ps.length
    · rcases unhide Hr with h0 | ⟨b, off, rfl, hbw, hcl⟩
      · rw [h0] at hlt; simp at hlt
      have hbr : b < wr.heap.size := Nat.lt_of_lt_of_le hbw hb.size
      have hne : b ≠ wr.heap.size := Nat.ne_of_lt hbr
      obtain ⟨c0, c1⟩ := hcl k hlt
      rw [← hb.cell (p := ⟨b, off + k * 2, none⟩) hbw] at c0
      rw [← hb.cell (p := ⟨b, off + k * 2 + 1, none⟩) hbw] at c1
      generalize hp : paceAt ps k = p at c0 c1
      have Hp := hide hp
      clear hp
      obtain ⟨f, c⟩ := p
      simp only at c0 c1
      have d0 : (wr.alloc (.cells #[.int .i64 f, .int .i64 c] 102)).cell? ⟨wr.heap.size, 0, none⟩ = some (.int .i64 f) := by simp
      have d1 : (wr.alloc (.cells #[.int .i64 f, .int .i64 c] 102)).cell? ⟨wr.heap.size, 1, none⟩ = some (.int .i64 c) := by simp
      have k0 := cell_regrown d0
      have k1 := cell_regrown d1
      clear d0 d1
      cases hpb : paceB (f, c)
      · clear hcl
        go_wp2_with fail
        refine wp_region_quiet_below (by kernel_rfl) (by kernel_rfl) ?_
        repeat (go_big_quiet_step (first | exact Calls.regrown_of (isPace_any _ _ _) | exact Calls.regrown_of (isAbove_any _ _ _ _ _)))
        refine wpQuiet_nil ?_
        intro _ hw'
        obtain ⟨⟨dq, osq⟩, hw''⟩ := hw'
        subst hw''
        go_wp2_with fail
        go_ret
        exact ⟨ret_bool (pacesB_f hlt (stepB_p (unhide Hp) hpb)).symm, (unhide Hb).trans (((Below.refl _ _).alloc (unhide Hb).size _).trans ((below_regrown _ _ _).mono (by simp; have := (unhide Hb).size; omega)))⟩
      · by_cases hz : 0 < k
        · have hd : decide (0 < k) = true := decide_eq_true hz
          obtain ⟨e0, e1⟩ := hcl (k - 1) (by omega)
          rw [← hb.cell (p := ⟨b, off + (k - 1) * 2, none⟩) hbw] at e0
          rw [← hb.cell (p := ⟨b, off + (k - 1) * 2 + 1, none⟩) hbw] at e1
          generalize hq : paceAt ps (k - 1) = q at e0 e1
          have Hq := hide hq
          clear hq
          obtain ⟨f', c'⟩ := q
          simp only at e0 e1
          have m0 := cell_regrown (w := wr.alloc (.cells #[.int .i64 f, .int .i64 c] 102)) (a := ⟨b, off + (k - 1) * 2, none⟩) (v := .int .i64 f') (by rw [World.cell?_alloc_old _ _ _ hne]; exact e0)
          have m1 := cell_regrown (w := wr.alloc (.cells #[.int .i64 f, .int .i64 c] 102)) (a := ⟨b, off + (k - 1) * 2 + 1, none⟩) (v := .int .i64 c') (by rw [World.cell?_alloc_old _ _ _ hne]; exact e1)
          clear hcl e0 e1
          cases hab : aboveB (f, c) (f', c')
          all_goals
            go_wp2_with fail
            refine wp_region_quiet_below (by kernel_rfl) (by kernel_rfl) ?_
            repeat (go_big_quiet_step (first | exact Calls.regrown_of (isPace_any _ _ _) | exact Calls.regrown_of (isAbove_any _ _ _ _ _)))
            refine wpQuiet_nil ?_
            intro _ hw'
            obtain ⟨⟨dq, osq⟩, hw''⟩ := hw'
            subst hw''
            go_wp2_with fail
          · go_ret
            exact ⟨ret_bool (pacesB_f hlt (by obtain ⟨m, rfl⟩ : ∃ m, k = m + 1 := ⟨k - 1, by omega⟩; rw [stepB_s (unhide Hp) (unhide Hq) hpb]; exact hab)).symm, (unhide Hb).trans (((Below.refl _ _).alloc (unhide Hb).size _).trans ((below_regrown _ _ _).mono (by simp; have := (unhide Hb).size; omega)))⟩
          · have hs : stepB ps k = true := by obtain ⟨m, rfl⟩ : ∃ m, k = m + 1 := ⟨k - 1, by omega⟩; rw [stepB_s (unhide Hp) (unhide Hq) hpb]; exact hab
            go_roundw
            case rel => exact ⟨k + 1, by omega, by go_num, next_all (unhide Hst) hs, (unhide Hb).trans (((Below.refl _ _).alloc (unhide Hb).size _).trans ((below_regrown _ _ _).mono (by simp; have := (unhide Hb).size; omega)))⟩
            case measure => simp [intOf]; omega
        · obtain rfl : k = 0 := by omega
          simp only [Nat.zero_mul, Nat.add_zero] at c0 c1
          clear hcl hz
          go_wp2_with fail
          refine wp_region_quiet_below (by kernel_rfl) (by kernel_rfl) ?_
          repeat (go_big_quiet_step (first | exact Calls.regrown_of (isPace_any _ _ _) | exact Calls.regrown_of (isAbove_any _ _ _ _ _)))
          refine wpQuiet_nil ?_
          intro _ hw'
          obtain ⟨⟨dq, osq⟩, hw''⟩ := hw'
          subst hw''
          go_wp2_with fail
          go_roundw
          case rel => exact ⟨1, by omega, by go_num, next_all (unhide Hst) (stepB_0 (unhide Hp) hpb), (unhide Hb).trans (((Below.refl _ _).alloc (unhide Hb).size _).trans ((below_regrown _ _ _).mono (by simp; have := (unhide Hb).size; omega)))⟩
          case measure => simp [intOf]; omega
    · obtain rfl : k = ps.length := by omega
      go_wp2_with fail
      go_ret
      exact ⟨ret_bool (pacesB_t (unhide Hst)).symm, hb⟩

end Go.Proofs.YtffcgajndmhpkaaGreat

/- Contracts of RoomOk, HallOk and BenchesIn, the program's and the model's, at whatever room or hall can be read. No other condition. -/
namespace Go.Proofs.YtffcgajndmhpkaaGreat
open Go.ChangeShapes Go.WideShapes Go.ChangeAt Go.RowKit Go.Sort
set_option linter.unusedVariables false

theorem roomB_1 {b : Int} {ps : List PaceV} (h : inB b 1 4 = false) : roomB (b, ps) = false := by unfold roomB; simp [h]
theorem roomB_2 {b : Int} {ps : List PaceV} (h : inB ps.length 1 4 = false) : roomB (b, ps) = false := by unfold roomB; simp [h]
theorem roomB_3 {b : Int} {ps : List PaceV} (h : inB b 1 4 = true) (h2 : inB ps.length 1 4 = true) : roomB (b, ps) = pacesB ps := by unfold roomB; simp [h, h2]

set_option maxHeartbeats 1000000 in
theorem implRoomOk_any {w : World} {v : Value} {ps : List PaceV} (b : Int) (h : IsPaces w v ps) :
    Calls Tryz.prog 42 #[.agg #[.int .i64 b, v]] w fun e w' => e = .returned (.bool (roomB (b, ps))) ∧ Below w.heap.size w w' := by
  have Hv := hide h
  obtain ⟨a, cap, rfl, hc, hm, hr⟩ := h
  clear hr
  have hl : (ps.length : Int) ≤ 9223372036854775807 := by omega
  cases h1 : inB b 1 4
  · go_enter Tryz.func42, Tryz.ntmps42
    go_wp2_with fail
    refine (liesFrom_any _ _ _ _).mono ?_
    rintro e w' ⟨rfl, rfl⟩
    go_wp2_with fail
    go_ret
    exact ⟨ret_bool (roomB_1 h1).symm, (Below.refl _ _).alloc (Nat.le_refl _) _⟩
  cases h2 : inB ps.length 1 4
  · go_enter Tryz.func42, Tryz.ntmps42
    go_wp2_with fail
    refine (liesFrom_any _ _ _ _).mono ?_
    rintro e w' ⟨rfl, rfl⟩
    go_wp2_with fail
    refine (liesFrom_any _ _ _ _).mono ?_
    rintro e w' ⟨rfl, rfl⟩
    go_wp2_with fail
    go_ret
    exact ⟨ret_bool (roomB_2 h2).symm, (Below.refl _ _).alloc (Nat.le_refl _) _⟩
  · have H3 := hide (roomB_3 h1 h2)
    go_enter Tryz.func42, Tryz.ntmps42
    go_wp2_with fail
    refine (liesFrom_any _ _ _ _).mono ?_
    rintro e w' ⟨rfl, rfl⟩
    go_wp2_with fail
    refine (liesFrom_any _ _ _ _).mono ?_
    rintro e w' ⟨rfl, rfl⟩
    go_wp2_with fail
    refine (pacesOk_any ((unhide Hv).below ((Below.refl _ _).alloc (Nat.le_refl _) _))).mono ?_
    rintro e w1 ⟨rfl, hb⟩
    go_wp2_with fail
    go_ret
    exact ⟨ret_bool (unhide H3).symm, ((Below.refl _ _).alloc (Nat.le_refl _) _).trans (hb.mono (by simp))⟩

theorem below_drewN {B : Nat} {w w' : World} (h : Below B w w') (n : Nat) : Below B w (w'.drewN n) := ⟨h.os, h.tape, h.output, h.size, h.block⟩
theorem stepB_f1 {ps : List PaceV} {k : Nat} {f c : Int} (hp : paceAt ps k = (f, c)) (h : inB f 1 1024 = false) : stepB ps k = false := by unfold stepB paceB; rw [hp]; simp [h]
theorem stepB_f2 {ps : List PaceV} {k : Nat} {f c : Int} (hp : paceAt ps k = (f, c)) (h : inB c 1 1024 = false) : stepB ps k = false := by unfold stepB paceB; rw [hp]; simp [h]
theorem stepB_b {ps : List PaceV} {k : Nat} {f c f' c' : Int} (hp : paceAt ps k = (f, c)) (hz : 0 < k) (hq : paceAt ps (k - 1) = (f', c')) (h1 : inB f 1 1024 = true) (h2 : inB c 1 1024 = true) : stepB ps k = (decide (f' < f) && decide (c' < c)) := by
  unfold stepB paceB aboveB; rw [hp, hq]; simp [h1, h2]; omega
theorem stepB_t0 {ps : List PaceV} {f c : Int} (hp : paceAt ps 0 = (f, c)) (h1 : inB f 1 1024 = true) (h2 : inB c 1 1024 = true) : stepB ps 0 = true := by unfold stepB paceB; rw [hp]; simp [h1, h2]

set_option maxHeartbeats 4000000 in
theorem specRoomOk_any {w : World} {v : Value} {ps : List PaceV} (rb : Int) (h : IsPaces w v ps) :
    Calls Tryz.prog 59 #[.agg #[.int .i64 rb, v]] w fun e w' => e = .returned (.bool (roomB (rb, ps))) ∧ Below w.heap.size w w' := by
  obtain ⟨a, cap, rfl, hc, hm, hr⟩ := h
  have Hr := hide hr
  clear hr
  have hl : (ps.length : Int) ≤ 9223372036854775807 := by omega
  cases h1 : inB rb 1 4
  · go_enter Tryz.func59, Tryz.ntmps59
    go_wp2_with fail
    refine (l1In_any _ _ _ _).mono ?_
    rintro e w' ⟨rfl, rfl⟩
    go_wp2_with fail
    go_ret
    exact ⟨ret_bool (roomB_1 h1).symm, (Below.refl _ _).alloc (Nat.le_refl _) _⟩
  cases h2 : inB ps.length 1 4
  · go_enter Tryz.func59, Tryz.ntmps59
    go_wp2_with fail
    refine (l1In_any _ _ _ _).mono ?_
    rintro e w' ⟨rfl, rfl⟩
    go_wp2_with fail
    refine (l1In_any _ _ _ _).mono ?_
    rintro e w' ⟨rfl, rfl⟩
    go_wp2_with fail
    go_ret
    exact ⟨ret_bool (roomB_2 h2).symm, (Below.refl _ _).alloc (Nat.le_refl _) _⟩
  have H3 := hide (roomB_3 h1 h2)
  go_enter Tryz.func59, Tryz.ntmps59
  go_wp2_with fail
  refine (l1In_any _ _ _ _).mono ?_
  rintro e w' ⟨rfl, rfl⟩
  go_wp2_with fail
  refine (l1In_any _ _ _ _).mono ?_
  rintro e w' ⟨rfl, rfl⟩
  go_wp2_with fail
  clear h1 h2
  go_loopw [3] (fun i wr => ∃ k : Nat, k ≤ ps.length ∧ i = .int .i64 k ∧ (∀ j, j < k → stepB ps j = true) ∧ Below (w.heap.size + 1) (w.alloc (.cells #[.int .i64 rb, .slice a ps.length cap] 59)) wr) (fun i _ => ps.length - (intOf i).toNat)
  case atStart => exact ⟨0, Nat.zero_le _, rfl, fun j hj => by omega, Below.refl _ _⟩
  case round =>
    obtain ⟨k, hk, rfl, hst, hb⟩ := hrel
    have Hst := hide hst
    have Hb := hide hb
    clear hst
    have hsz : w.heap.size + 1 ≤ wr.heap.size := by have := hb.size; simpa using this
    have hbox : wr.cell? ⟨w.heap.size, 1, none⟩ = some (.slice a ps.length cap) := by rw [hb.cell (p := ⟨w.heap.size, 1, none⟩) (by simp)]; simp
    have hne0 : w.heap.size ≠ wr.heap.size := by omega
    by_cases hlt : k < ps.length
    · rcases unhide Hr with h0 | ⟨b, off, rfl, hbw, hcl⟩
      · rw [h0] at hlt; simp at hlt
      have hbB : Below w.heap.size w wr := ((Below.refl _ _).alloc (Nat.le_refl _) _).trans (hb.mono (by omega))
      have hne : b ≠ wr.heap.size := by omega
      have hne' : b ≠ w.heap.size := by omega
      obtain ⟨c0, c1⟩ := hcl k hlt
      rw [← hbB.cell (p := ⟨b, off + k * 2, none⟩) hbw] at c0
      rw [← hbB.cell (p := ⟨b, off + k * 2 + 1, none⟩) hbw] at c1
      generalize hp : paceAt ps k = p at c0 c1
      have Hp := hide hp
      obtain ⟨f, c⟩ := p
      simp only at c0 c1
      clear hp hb
      cases h1 : inB f 1 1024
      · clear hcl
        go_wp2_with fail
        go_quiet (exact Calls.quiet_of_same (l1In_any _ _ _ _))
        go_wp2_with fail
        go_ret
        exact ⟨ret_bool (by rw [unhide H3]; exact (pacesB_f hlt (stepB_f1 (unhide Hp) h1)).symm), ((Below.refl _ _).alloc (Nat.le_refl _) _).trans ((below_drewN ((unhide Hb).alloc hsz _) _).mono (by omega))⟩
      cases h2 : inB c 1 1024
      · clear hcl
        go_wp2_with fail
        go_quiet (exact Calls.quiet_of_same (l1In_any _ _ _ _))
        go_wp2_with fail
        go_ret
        exact ⟨ret_bool (by rw [unhide H3]; exact (pacesB_f hlt (stepB_f2 (unhide Hp) h2)).symm), ((Below.refl _ _).alloc (Nat.le_refl _) _).trans ((below_drewN ((unhide Hb).alloc hsz _) _).mono (by omega))⟩
      by_cases hz : 0 < k
      · have hd : decide (0 < k) = true := decide_eq_true hz
        obtain ⟨e0, e1⟩ := hcl (k - 1) (by omega)
        rw [← hbB.cell (p := ⟨b, off + (k - 1) * 2, none⟩) hbw] at e0
        rw [← hbB.cell (p := ⟨b, off + (k - 1) * 2 + 1, none⟩) hbw] at e1
        generalize hq : paceAt ps (k - 1) = q at e0 e1
        have Hq := hide hq
        obtain ⟨f', c'⟩ := q
        simp only at e0 e1
        have q0 : (wr.alloc (.cells #[.int .i64 f, .int .i64 c] 102)).cell? ⟨w.heap.size, 1, none⟩ = some (.slice (some ⟨b, off, none⟩) ps.length cap) := by rw [World.cell?_alloc_old _ _ _ hne0]; exact hbox
        have q1 : (wr.alloc (.cells #[.int .i64 f, .int .i64 c] 102)).cell? ⟨b, off + (k - 1) * 2, none⟩ = some (.int .i64 f') := by rw [World.cell?_alloc_old _ _ _ hne]; exact e0
        have q2 : (wr.alloc (.cells #[.int .i64 f, .int .i64 c] 102)).cell? ⟨b, off + (k - 1) * 2 + 1, none⟩ = some (.int .i64 c') := by rw [World.cell?_alloc_old _ _ _ hne]; exact e1
        clear hcl hq e0 e1
        have Hs := hide (stepB_b (unhide Hp) hz (unhide Hq) h1 h2)
        by_cases g1 : f ≤ f'
        · have g1' : decide (f ≤ f') = true := decide_eq_true g1
          go_wp2_with fail
          go_quiet (exact Calls.quiet_of_same (l1In_any _ _ _ _))
          go_wp2_with fail
          go_ret
          exact ⟨ret_bool (by rw [unhide H3]; exact (pacesB_f hlt (by rw [unhide Hs]; simp; omega)).symm), ((Below.refl _ _).alloc (Nat.le_refl _) _).trans ((below_drewN ((unhide Hb).alloc hsz _) _).mono (by omega))⟩
        have g1' : decide (f ≤ f') = false := decide_eq_false g1
        by_cases g2 : c ≤ c'
        · have g2' : decide (c ≤ c') = true := decide_eq_true g2
          go_wp2_with fail
          go_quiet (exact Calls.quiet_of_same (l1In_any _ _ _ _))
          go_wp2_with fail
          go_ret
          exact ⟨ret_bool (by rw [unhide H3]; exact (pacesB_f hlt (by rw [unhide Hs]; simp; omega)).symm), ((Below.refl _ _).alloc (Nat.le_refl _) _).trans ((below_drewN ((unhide Hb).alloc hsz _) _).mono (by omega))⟩
        · have g2' : decide (c ≤ c') = false := decide_eq_false g2
          go_wp2_with fail
          go_quiet (exact Calls.quiet_of_same (l1In_any _ _ _ _))
          go_wp2_with fail
          go_roundw
          case rel => exact ⟨k + 1, by omega, by go_num, next_all (unhide Hst) (by rw [unhide Hs]; simp; omega), below_drewN ((unhide Hb).alloc hsz _) _⟩
          case measure => simp [intOf]; omega
      · obtain rfl : k = 0 := by omega
        simp only [Nat.zero_mul, Nat.add_zero] at c0 c1
        clear hcl hz
        go_wp2_with fail
        go_quiet (exact Calls.quiet_of_same (l1In_any _ _ _ _))
        go_wp2_with fail
        go_roundw
        case rel => exact ⟨1, by omega, by go_num, next_all (unhide Hst) (stepB_t0 (unhide Hp) h1 h2), below_drewN ((unhide Hb).alloc hsz _) _⟩
        case measure => simp [intOf]; omega
    · obtain rfl : k = ps.length := by omega
      clear hb
      go_wp2_with fail
      go_ret
      exact ⟨ret_bool (by rw [unhide H3]; exact (pacesB_t (unhide Hst)).symm), ((Below.refl _ _).alloc (Nat.le_refl _) _).trans ((unhide Hb).mono (by omega))⟩

end Go.Proofs.YtffcgajndmhpkaaGreat

/- Contracts of HallOk, of the count of benches and of BenchesIn, the program's and the model's, at whatever hall can be read. No other condition but that what is counted can be added up. -/
namespace Go.Proofs.YtffcgajndmhpkaaGreat
open Go.ChangeShapes Go.WideShapes Go.ChangeAt Go.RowKit Go.Sort
set_option linter.unusedVariables false

/-- What adds up without overflow. -/
def Adds (rs : List RoomV) : Prop := ∀ k, k ≤ rs.length → 0 ≤ benchSum (rs.take k) ∧ benchSum (rs.take k) ≤ 1000000
theorem adds_of {rs : List RoomV} (h : rs.all roomB = true) (hl : rs.length ≤ 3) : Adds rs := fun k hk => by have := benchSum_bd h k hk; omega
theorem Adds.taken {rs : List RoomV} (h : Adds rs) (n : Nat) : Adds (rs.take n) := fun k hk => by
  have hk' : k ≤ n ∧ k ≤ rs.length := by simp at hk; omega
  rw [List.take_take, Nat.min_eq_left hk'.1]; exact h k hk'.2

set_option maxHeartbeats 1000000 in
theorem roomsOk_any {w : World} {v : Value} {rs : List RoomV} (h : IsRooms w v rs) :
    Calls Tryz.prog 114 #[v] w fun e w' => e = .returned (.bool (rs.all roomB)) ∧ Below w.heap.size w w' := by
  obtain ⟨a, cap, rfl, hc, hm, hr⟩ := h
  have Hr := hide hr
  clear hr
  go_enter Tryz.func114, Tryz.ntmps114
  go_wp2_with fail
  go_loopw [7] (fun i wr => ∃ k : Nat, k ≤ rs.length ∧ i = .int .i64 k ∧ (∀ j, j < k → roomB (roomAt rs j) = true) ∧ Below w.heap.size w wr) (fun i _ => rs.length - (intOf i).toNat)
  case atStart => exact ⟨0, Nat.zero_le _, rfl, fun j hj => by omega, Below.refl _ _⟩
  case round =>
    obtain ⟨k, hk, rfl, hst, hb⟩ := hrel
    have Hst := hide hst
    have Hb := hide hb
    have hsz := hb.size
    clear hst
    by_cases hlt : k < rs.length
    · rcases unhide Hr with h0 | ⟨b, off, rfl, hbw, hcl⟩
      · rw [h0] at hlt; simp at hlt
      obtain ⟨c0, pv, c1, hip⟩ := hcl k hlt
      rw [← hb.cell (p := ⟨b, off + k * 2, none⟩) hbw] at c0
      rw [← hb.cell (p := ⟨b, off + k * 2 + 1, none⟩) hbw] at c1
      have Hip := hide (hip.below hb)
      obtain ⟨pa, pcap, rfl, _⟩ := hip
      generalize hp : roomAt rs k = p at *
      obtain ⟨rb, ps⟩ := p
      simp only at c0 c1
      have Hp := hide hp
      clear hp hcl hb
      cases hrb : roomB (rb, ps)
      · go_wp2_with fail
        refine (implRoomOk_any rb ((unhide Hip).below ((Below.refl _ _).alloc (Nat.le_refl _) _))).mono ?_
        rintro e w1 ⟨rfl, hb1⟩
        go_wp2_with fail
        go_ret
        exact ⟨ret_bool (allRooms_f hlt (by rw [unhide Hp]; exact hrb)).symm, ((unhide Hb).alloc hsz _).trans (hb1.mono (by simp; omega))⟩
      · go_wp2_with fail
        refine (implRoomOk_any rb ((unhide Hip).below ((Below.refl _ _).alloc (Nat.le_refl _) _))).mono ?_
        rintro e w1 ⟨rfl, hb1⟩
        have Hb1 := hide hb1
        clear hb1
        go_wp2_with fail
        go_roundw
        case rel => exact ⟨k + 1, by omega, by go_num, next_all (unhide Hst) (by rw [unhide Hp]; exact hrb), ((unhide Hb).alloc hsz _).trans ((unhide Hb1).mono (by simp; omega))⟩
        case measure => simp [intOf]; omega
    · obtain rfl : k = rs.length := by omega
      go_wp2_with fail
      go_ret
      exact ⟨ret_bool (allRooms_t (unhide Hst)).symm, hb⟩

set_option maxHeartbeats 1000000 in
theorem benchesOf_any {w : World} {v : Value} {rs : List RoomV} (h : IsRooms w v rs) (ha : Adds rs) :
    Calls Tryz.prog 90 #[v] w fun e w' => e = .returned (.int .i64 (benchSum rs)) ∧ Below w.heap.size w w' := by
  obtain ⟨a, cap, rfl, hc, hm, hr⟩ := h
  have Hr := hide hr
  have Ha := hide ha
  clear hr ha
  go_enter Tryz.func90, Tryz.ntmps90
  go_wp2_with fail
  go_loopw [3, 8] (fun s i wr => ∃ k : Nat, k ≤ rs.length ∧ i = .int .i64 k ∧ s = .int .i64 (benchSum (rs.take k)) ∧ Below w.heap.size w wr) (fun _ i _ => rs.length - (intOf i).toNat)
  case atStart => exact ⟨0, Nat.zero_le _, rfl, rfl, Below.refl _ _⟩
  case round =>
    obtain ⟨k, hk, rfl, rfl, hb⟩ := hrel
    have Hb := hide hb
    have hsz := hb.size
    by_cases hlt : k < rs.length
    · rcases unhide Hr with h0 | ⟨b, off, rfl, hbw, hcl⟩
      · rw [h0] at hlt; simp at hlt
      obtain ⟨c0, pv, c1, hip⟩ := hcl k hlt
      rw [← hb.cell (p := ⟨b, off + k * 2, none⟩) hbw] at c0
      rw [← hb.cell (p := ⟨b, off + k * 2 + 1, none⟩) hbw] at c1
      obtain ⟨pa, pcap, rfl, _⟩ := hip
      have hs0 := unhide Ha k hk
      have hs1 := unhide Ha (k + 1) hlt
      have Hs := hide (benchSum_take rs hlt)
      rw [benchSum_take rs hlt] at hs1
      generalize benchSum (rs.take k) = s at *
      generalize (roomAt rs k).1 = rb at *
      obtain ⟨s0, s1⟩ := hs0
      obtain ⟨s2, s3⟩ := hs1
      clear hcl hb
      go_wp2_with fail
      go_roundw
      case rel => exact ⟨k + 1, by omega, by go_num, by rw [unhide Hs], (unhide Hb).alloc hsz _⟩
      case measure => simp [intOf]; omega
    · obtain rfl : k = rs.length := by omega
      go_wp2_with fail
      go_ret
      exact ⟨ret_int (by rw [benchSum_all]), hb⟩

theorem hallB_1 {rs : List RoomV} (h : inB rs.length 1 3 = false) : hallB rs = false := by unfold hallB; simp [h]
theorem hallB_2 {rs : List RoomV} (h : rs.all roomB = false) : hallB rs = false := by unfold hallB; rw [h]; simp
theorem hallB_3 {rs : List RoomV} (h : inB rs.length 1 3 = true) (h2 : rs.all roomB = true) : hallB rs = decide (benchSum rs ≤ 8) := by unfold hallB; rw [h, h2]; simp

theorem IsRooms.alloc {w : World} {v : Value} {rs : List RoomV} (h : IsRooms w v rs) (o : Obj) : IsRooms (w.alloc o) v rs := h.below ((Below.refl _ _).alloc (Nat.le_refl _) _)

set_option maxHeartbeats 1000000 in
theorem implHallOk_any {w : World} {v : Value} {rs : List RoomV} (h : IsRooms w v rs) :
    Calls Tryz.prog 89 #[.agg #[v]] w fun e w' => e = .returned (.bool (hallB rs)) ∧ Below w.heap.size w w' := by
  have Hv := hide h
  obtain ⟨a, cap, rfl, hc, hm, hr⟩ := h
  clear hr
  have hl : (rs.length : Int) ≤ 9223372036854775807 := by omega
  cases h1 : inB rs.length 1 3
  · go_enter Tryz.func89, Tryz.ntmps89
    go_wp2_with fail
    refine (liesFrom_any _ _ _ _).mono ?_
    rintro e w' ⟨rfl, rfl⟩
    go_wp2_with fail
    go_ret
    exact ⟨ret_bool (hallB_1 h1).symm, (Below.refl _ _).alloc (Nat.le_refl _) _⟩
  cases h2 : rs.all roomB
  · have H2 := hide (hallB_2 h2)
    generalize hx : rs.all roomB = x at *
    have Hx := hide hx
    clear hx
    subst h2
    go_enter Tryz.func89, Tryz.ntmps89
    go_wp2_with fail
    refine (liesFrom_any _ _ _ _).mono ?_
    rintro e w' ⟨rfl, rfl⟩
    go_wp2_with fail
    refine (roomsOk_any ((unhide Hv).alloc _)).mono ?_
    rw [unhide Hx]
    rintro e w1 ⟨rfl, hb⟩
    go_wp2_with fail
    go_ret
    exact ⟨ret_bool (unhide H2).symm, ((Below.refl _ _).alloc (Nat.le_refl _) _).trans (hb.mono (by simp))⟩
  · have H3 := hide (hallB_3 h1 h2)
    have Ha := hide (adds_of h2 (by have := inB_of h1; omega))
    generalize hx : rs.all roomB = x at *
    have Hx := hide hx
    clear hx
    subst h2
    go_enter Tryz.func89, Tryz.ntmps89
    go_wp2_with fail
    refine (liesFrom_any _ _ _ _).mono ?_
    rintro e w' ⟨rfl, rfl⟩
    go_wp2_with fail
    refine (roomsOk_any ((unhide Hv).alloc _)).mono ?_
    rw [unhide Hx]
    rintro e w1 ⟨rfl, hb⟩
    have hz : w.heap.size + 1 ≤ w1.heap.size := by have := hb.size; simpa using this
    have hbox : w1.cell? ⟨w.heap.size, 0, none⟩ = some (.slice a rs.length cap) := by rw [hb.cell (p := ⟨w.heap.size, 0, none⟩) (by simp)]; simp
    have hw1 := hide (((unhide Hv).alloc _).below hb)
    have Hb := hide hb
    clear hb
    go_wp2_with fail
    refine (benchesOf_any (unhide hw1) (unhide Ha)).mono ?_
    rintro e w2 ⟨rfl, hb2⟩
    have Hb2 := hide hb2
    clear hb2
    go_wp2_with fail
    go_ret
    exact ⟨ret_bool (by rw [unhide H3]), ((Below.refl _ _).alloc (Nat.le_refl _) _).trans (((unhide Hb).trans ((unhide Hb2).mono (unhide Hb).size)).mono (by simp))⟩

end Go.Proofs.YtffcgajndmhpkaaGreat

/- Contracts of the model's HallOk, of its count of benches and of its BenchesIn, and of the program's BenchesIn, at whatever hall can be read. No other condition but that what is counted can be added up. -/
namespace Go.Proofs.YtffcgajndmhpkaaGreat
open Go.ChangeShapes Go.WideShapes Go.ChangeAt Go.RowKit Go.Sort
set_option linter.unusedVariables false

def benchesV (rs : List RoomV) : Int := if hallB rs = true then benchSum rs else -1
theorem benchesV_t {rs : List RoomV} (h : hallB rs = true) : benchesV rs = benchSum rs := by unfold benchesV; rw [if_pos h]
theorem benchesV_f {rs : List RoomV} (h : hallB rs = false) : benchesV rs = -1 := by unfold benchesV; rw [h]; rfl
theorem adds_hall {rs : List RoomV} (h : hallB rs = true) : Adds rs := adds_of (hallB_of h).2.2.1 (hallB_of h).2.1

set_option maxHeartbeats 1000000 in
theorem implBenchesIn_any {w : World} {v : Value} {rs : List RoomV} (h : IsRooms w v rs) :
    Calls Tryz.prog 106 #[.agg #[v]] w fun e w' => e = .returned (.int .i64 (benchesV rs)) ∧ Below w.heap.size w w' := by
  have Hv := hide h
  obtain ⟨a, cap, rfl, hc, hm, hr⟩ := h
  clear hr
  cases h1 : hallB rs
  · have H1 := hide h1
    clear h1
    go_enter Tryz.func106, Tryz.ntmps106
    go_wp2_with fail
    refine (implHallOk_any ((unhide Hv).alloc _)).mono ?_
    rw [unhide H1]
    rintro e w1 ⟨rfl, hb⟩
    go_wp2_with fail
    go_ret
    exact ⟨ret_int (benchesV_f (unhide H1)).symm, ((Below.refl _ _).alloc (Nat.le_refl _) _).trans (hb.mono (by simp))⟩
  · have H1 := hide h1
    clear h1
    go_enter Tryz.func106, Tryz.ntmps106
    go_wp2_with fail
    refine (implHallOk_any ((unhide Hv).alloc _)).mono ?_
    rw [unhide H1]
    rintro e w1 ⟨rfl, hb⟩
    have hz : w.heap.size + 1 ≤ w1.heap.size := by have := hb.size; simpa using this
    have hbox : w1.cell? ⟨w.heap.size, 0, none⟩ = some (.slice a rs.length cap) := by rw [hb.cell (p := ⟨w.heap.size, 0, none⟩) (by simp)]; simp
    have hw1 := hide (((unhide Hv).alloc _).below hb)
    have Hb := hide hb
    clear hb
    go_wp2_with fail
    refine (benchesOf_any (unhide hw1) (adds_hall (unhide H1))).mono ?_
    rintro e w2 ⟨rfl, hb2⟩
    have Hb2 := hide hb2
    clear hb2
    go_wp2_with fail
    go_ret
    exact ⟨ret_int (benchesV_t (unhide H1)).symm, ((Below.refl _ _).alloc (Nat.le_refl _) _).trans (((unhide Hb).trans ((unhide Hb2).mono (unhide Hb).size)).mono (by simp))⟩

set_option maxHeartbeats 1000000 in
theorem l4Count_any {w : World} {v : Value} {rs : List RoomV} (h : IsRooms w v rs) (ha : Adds rs) :
    Calls Tryz.prog 52 #[.agg #[v]] w fun e w' => e = .returned (.int .i64 (benchSum rs)) ∧ Below w.heap.size w w' := by
  obtain ⟨a, cap, rfl, hc, hm, hr⟩ := h
  have Hr := hide hr
  have Ha := hide ha
  clear hr ha
  go_enter Tryz.func52, Tryz.ntmps52
  go_wp2_with fail
  go_loop [3, 4] (fun s i => ∃ k : Nat, k ≤ rs.length ∧ i = .int .i64 k ∧ s = .int .i64 (benchSum (rs.take k))) (fun _ i => rs.length - (intOf i).toNat)
  case atStart => exact ⟨0, Nat.zero_le _, rfl, rfl⟩
  case round =>
    obtain ⟨k, hk, rfl, rfl⟩ := hrel
    by_cases hlt : k < rs.length
    · rcases unhide Hr with h0 | ⟨b, off, rfl, hbw, hcl⟩
      · rw [h0] at hlt; simp at hlt
      obtain ⟨c0, pv, c1, hip⟩ := hcl k hlt
      have hne : b ≠ w.heap.size := Nat.ne_of_lt hbw
      have hs0 := unhide Ha k hk
      have hs1 := unhide Ha (k + 1) hlt
      have Hs := hide (benchSum_take rs hlt)
      rw [benchSum_take rs hlt] at hs1
      generalize benchSum (rs.take k) = s at *
      generalize (roomAt rs k).1 = rb at *
      obtain ⟨s0, s1⟩ := hs0
      obtain ⟨s2, s3⟩ := hs1
      clear hcl hip
      go_wp2_with fail
      go_round
      case rel => exact ⟨k + 1, by omega, by go_num, by rw [unhide Hs]⟩
      case measure => simp [intOf]; omega
    · obtain rfl : k = rs.length := by omega
      go_wp2_with fail
      go_ret
      exact ⟨ret_int (by first | rfl | rw [benchSum_all]), (Below.refl _ _).alloc (Nat.le_refl _) _⟩

set_option maxHeartbeats 1000000 in
theorem specHallOk_any {w : World} {v : Value} {rs : List RoomV} (h : IsRooms w v rs) :
    Calls Tryz.prog 50 #[.agg #[v]] w fun e w' => e = .returned (.bool (hallB rs)) ∧ Below w.heap.size w w' := by
  have Hv := hide h
  obtain ⟨a, cap, rfl, hc, hm, hr⟩ := h
  have Hr := hide hr
  clear hr
  have hl : (rs.length : Int) ≤ 9223372036854775807 := by omega
  go_enter Tryz.func50, Tryz.ntmps50
  go_wp2_with fail
  go_loopw [3] (fun i wr => ∃ k : Nat, k ≤ rs.length ∧ i = .int .i64 k ∧ (∀ j, j < k → roomB (roomAt rs j) = true) ∧ Below (w.heap.size + 1) (w.alloc (.cells #[.slice a rs.length cap] 35)) wr) (fun i _ => rs.length - (intOf i).toNat)
  case atStart => exact ⟨0, Nat.zero_le _, rfl, fun j hj => by omega, Below.refl _ _⟩
  case round =>
    obtain ⟨k, hk, rfl, hst, hb⟩ := hrel
    have Hst := hide hst
    have Hb := hide hb
    have hsz : w.heap.size + 1 ≤ wr.heap.size := by have := hb.size; simpa using this
    have hbox : wr.cell? ⟨w.heap.size, 0, none⟩ = some (.slice a rs.length cap) := by rw [hb.cell (p := ⟨w.heap.size, 0, none⟩) (by simp)]; simp
    have hbB : Below w.heap.size w wr := ((Below.refl _ _).alloc (Nat.le_refl _) _).trans (hb.mono (by omega))
    clear hst
    by_cases hlt : k < rs.length
    · rcases unhide Hr with h0 | ⟨b, off, rfl, hbw, hcl⟩
      · rw [h0] at hlt; simp at hlt
      obtain ⟨c0, pv, c1, hip⟩ := hcl k hlt
      rw [← hbB.cell (p := ⟨b, off + k * 2, none⟩) hbw] at c0
      rw [← hbB.cell (p := ⟨b, off + k * 2 + 1, none⟩) hbw] at c1
      have Hip := hide (hip.below hbB)
      obtain ⟨pa, pcap, rfl, _⟩ := hip
      generalize hp : roomAt rs k = p at *
      obtain ⟨rb, ps⟩ := p
      simp only at c0 c1
      have Hp := hide hp
      have HbB := hide hbB
      clear hp hcl hb hbB
      cases hrb : roomB (rb, ps)
      · go_wp2_with fail
        refine (specRoomOk_any rb (unhide Hip)).mono ?_
        rintro e w1 ⟨rfl, hb1⟩
        have Hb1 := hide hb1
        clear hb1
        go_wp2_with fail
        go_ret
        exact ⟨ret_bool (hallB_2 (allRooms_f hlt (by rw [unhide Hp]; exact hrb))).symm, (unhide HbB).trans ((unhide Hb1).mono (unhide HbB).size)⟩
      · go_wp2_with fail
        refine (specRoomOk_any rb (unhide Hip)).mono ?_
        rintro e w1 ⟨rfl, hb1⟩
        have Hb1 := hide hb1
        clear hb1
        go_wp2_with fail
        go_roundw
        case rel => exact ⟨k + 1, by omega, by go_num, next_all (unhide Hst) (by rw [unhide Hp]; exact hrb), (unhide Hb).trans ((unhide Hb1).mono hsz)⟩
        case measure => simp [intOf]; omega
    · obtain rfl : k = rs.length := by omega
      have h2 := allRooms_t (unhide Hst)
      have HbB := hide hbB
      have hw1 := hide ((unhide Hv).below hbB)
      clear hb hbB
      cases h1 : inB rs.length 1 3
      · have H2 := hide (hallB_1 h1)
        clear h2
        go_wp2_with fail
        refine (l1In_any _ _ _ _).mono ?_
        rintro e w' ⟨rfl, rfl⟩
        go_wp2_with fail
        go_ret
        exact ⟨ret_bool (unhide H2).symm, unhide HbB⟩
      · have H3 := hide (hallB_3 h1 h2)
        have Ha := hide (adds_of h2 (by have := inB_of h1; omega))
        clear h2
        go_wp2_with fail
        refine (l1In_any _ _ _ _).mono ?_
        rintro e w' ⟨rfl, rfl⟩
        go_wp2_with fail
        refine (l4Count_any (unhide hw1) (unhide Ha)).mono ?_
        rintro e w2 ⟨rfl, hb2⟩
        have Hb2 := hide hb2
        clear hb2
        go_wp2_with fail
        go_ret
        exact ⟨ret_bool (by rw [unhide H3]), (unhide HbB).trans ((unhide Hb2).mono (unhide HbB).size)⟩

end Go.Proofs.YtffcgajndmhpkaaGreat

