/- What the proof rests on, part 1: lists and numbers, how they lie in memory, and contracts of the calls. No condition but those that a theorem names. -/
import Derived.Test.YtifolooecfebfaaGreatChecked
import GoSem.Claim
import GoSem.ClaimJoined
import GoSem.ClaimMapViews
import Derived.JoinedTies
import Derived.KernelRfl
import Derived.RowKit
import Derived.WalkKit
import Derived.ProofKit
import Derived.OpenShut
import Derived.Outline
import Derived.Lib.QuietBelow
import Derived.Deep.QuietTactic
import Derived.BigQuiet
import Derived.Laws.OwnMore
import Derived.OwnWalk
import Derived.Maps.AppendAt
import Derived.Lib.SmallJoins
import Derived.Deep.RegionWith
/- Contracts of the small functions of chapter 1 and of their models: what each call returns. No condition but those that a theorem names. -/
namespace Go.Proofs.YtifolooecfebfaaGreat
open Go.ChangeShapes Go.WideShapes Go.ChangeAt Go.RowKit
set_option linter.unusedVariables false

theorem ret_int {k : IntKind} {a b : Int} (h : a = b) : Ending.returned (.int k a) = .returned (.int k b) := by rw [h]
theorem ret_bool {a b : Bool} (h : a = b) : Ending.returned (.bool a) = .returned (.bool b) := by rw [h]

def inB (x lo hi : Int) : Bool := decide (lo ≤ x ∧ x ≤ hi)
theorem inB_t {x lo hi : Int} (h1 : lo ≤ x) (h2 : x ≤ hi) : inB x lo hi = true := by unfold inB; exact decide_eq_true ⟨h1, h2⟩
theorem inB_f {x lo hi : Int} (h : x < lo ∨ hi < x) : inB x lo hi = false := by unfold inB; exact decide_eq_false (by omega)
theorem inB_of {x lo hi : Int} (h : inB x lo hi = true) : lo ≤ x ∧ x ≤ hi := by unfold inB at h; exact of_decide_eq_true h
theorem hide {p : Prop} (h : p) : Hid p := h
theorem unhide {p : Prop} (h : Hid p) : p := h

theorem l1Min_any (a b : Int) (w : World) : Calls Tryz.prog 155 #[.int .i64 a, .int .i64 b] w fun e w' => e = .returned (.int .i64 (min a b)) ∧ w' = w := by
  by_cases h : a < b
  all_goals
    go_enter Tryz.func155, Tryz.ntmps155
    go_wp2
    go_ret
    exact ⟨ret_int (by omega), rfl⟩

theorem l1Max_any (a b : Int) (w : World) : Calls Tryz.prog 156 #[.int .i64 a, .int .i64 b] w fun e w' => e = .returned (.int .i64 (max a b)) ∧ w' = w := by
  by_cases h : b < a
  all_goals
    go_enter Tryz.func156, Tryz.ntmps156
    go_wp2
    go_ret
    exact ⟨ret_int (by omega), rfl⟩

theorem specClamped_any (x l h : Int) (w : World) : Calls Tryz.prog 110 #[.int .i64 x, .int .i64 l, .int .i64 h] w fun e w' => e = .returned (.int .i64 (min (max x l) h)) ∧ w' = w := by
  go_enter Tryz.func110, Tryz.ntmps110
  go_wp2_with (first | (go_at_call 155; refine (l1Min_any _ _ _).mono ?_; rintro e w' ⟨rfl, rfl⟩) | (go_at_call 156; refine (l1Max_any _ _ _).mono ?_; rintro e w' ⟨rfl, rfl⟩))
  go_ret
  exact ⟨rfl, rfl⟩

theorem implClamped_any (x l h : Int) (w : World) : Calls Tryz.prog 188 #[.int .i64 x, .int .i64 l, .int .i64 h] w fun e w' => e = .returned (.int .i64 (min (max x l) h)) ∧ w' = w := by
  by_cases c1 : x < l
  · by_cases c2 : h < l
    all_goals
      go_enter Tryz.func188, Tryz.ntmps188
      go_wp2
      all_goals (go_ret; exact ⟨ret_int (by omega), rfl⟩)
  · by_cases c2 : h < x
    all_goals
      go_enter Tryz.func188, Tryz.ntmps188
      go_wp2
      all_goals (go_ret; exact ⟨ret_int (by omega), rfl⟩)

theorem l1In_any (x lo hi : Int) (w : World) : Calls Tryz.prog 113 #[.int .i64 x, .int .i64 lo, .int .i64 hi] w fun e w' => e = .returned (.bool (inB x lo hi)) ∧ w' = w := by
  by_cases h1 : lo ≤ x
  · by_cases h2 : x ≤ hi
    all_goals
      go_enter Tryz.func113, Tryz.ntmps113
      go_wp2
      go_ret
      exact ⟨ret_bool (by first | exact (inB_t h1 h2).symm | exact (inB_f (by omega)).symm), rfl⟩
  · go_enter Tryz.func113, Tryz.ntmps113
    go_wp2
    go_ret
    exact ⟨ret_bool (inB_f (by omega)).symm, rfl⟩

theorem isUtil_any (x : Int) (w : World) : Calls Tryz.prog 277 #[.int .i64 x] w fun e w' => e = .returned (.bool (inB x 0 1024)) ∧ w' = w := by
  by_cases h1 : 0 ≤ x
  · by_cases h2 : x ≤ 1024
    all_goals
      go_enter Tryz.func277, Tryz.ntmps277
      go_wp2
      go_ret
      exact ⟨ret_bool (by first | exact (inB_t h1 h2).symm | exact (inB_f (by omega)).symm), rfl⟩
  · go_enter Tryz.func277, Tryz.ntmps277
    go_wp2
    go_ret
    exact ⟨ret_bool (inB_f (by omega)).symm, rfl⟩

theorem all_snoc {p : Int → Bool} {zs : List Int} {k : Nat} {z : Int} (hlt : k < zs.length) (hz : zs.getD k 0 = z) (ha : (zs.take k).all p = true) (hp : p z = true) : (zs.take (k + 1)).all p = true := by
  rw [List.take_succ_eq_append_getElem hlt, List.all_append, ha]
  have : zs[k] = z := by rw [← hz]; simp [List.getD, hlt]
  simp [this, hp]
theorem all_snoc_f {p : Int → Bool} {zs : List Int} {k : Nat} {z : Int} (hlt : k < zs.length) (hz : zs.getD k 0 = z) (hp : p z = false) : zs.all p = false := by
  have : zs[k] = z := by rw [← hz]; simp [List.getD, hlt]
  rw [List.all_eq_false]
  exact ⟨zs[k], List.getElem_mem hlt, by rw [this, hp]; simp⟩

end Go.Proofs.YtifolooecfebfaaGreat

/- Halls, rooms and paces as lists, and how they lie in memory: what a slice of paces or rooms reads as, and that it reads so on wherever older blocks lie as they lay. No condition. -/
namespace Go.Proofs.YtifolooecfebfaaGreat
open Go.ChangeShapes Go.WideShapes Go.ChangeAt Go.RowKit
set_option linter.unusedVariables false

abbrev PaceV := Int × Int
abbrev RoomV := Int × List PaceV
def paceAt (ps : List PaceV) (k : Nat) : PaceV := ps.getD k (0, 0)
def roomAt (rs : List RoomV) (k : Nat) : RoomV := rs.getD k (0, [])

/-- The slice v reads as the paces ps. -/
def IsPaces (w : World) (v : Value) (ps : List PaceV) : Prop :=
  ∃ (a : Option Addr) (cap : Nat), v = .slice a ps.length cap ∧ ps.length ≤ cap ∧ cap ≤ 9223372036854775807 ∧ (ps = [] ∨ ∃ b off, a = some ⟨b, off, none⟩ ∧ b < w.heap.size ∧
    ∀ k, k < ps.length → w.cell? ⟨b, off + k * 2, none⟩ = some (.int .i64 (paceAt ps k).1) ∧ w.cell? ⟨b, off + k * 2 + 1, none⟩ = some (.int .i64 (paceAt ps k).2))
/-- The slice v reads as the rooms rs. -/
def IsRooms (w : World) (v : Value) (rs : List RoomV) : Prop :=
  ∃ (a : Option Addr) (cap : Nat), v = .slice a rs.length cap ∧ rs.length ≤ cap ∧ cap ≤ 9223372036854775807 ∧ (rs = [] ∨ ∃ b off, a = some ⟨b, off, none⟩ ∧ b < w.heap.size ∧
    ∀ k, k < rs.length → w.cell? ⟨b, off + k * 2, none⟩ = some (.int .i64 (roomAt rs k).1) ∧ ∃ pv, w.cell? ⟨b, off + k * 2 + 1, none⟩ = some pv ∧ IsPaces w pv (roomAt rs k).2)

theorem IsPaces.below {w w' : World} {v : Value} {ps : List PaceV} (h : IsPaces w v ps) (hb : Below w.heap.size w w') : IsPaces w' v ps := by
  obtain ⟨a, cap, rfl, hc, hm, hr⟩ := h
  refine ⟨a, cap, rfl, hc, hm, ?_⟩
  rcases hr with hr | ⟨b, off, rfl, hlt, hcl⟩
  · exact .inl hr
  · refine .inr ⟨b, off, rfl, Nat.lt_of_lt_of_le hlt hb.size, fun k hk => ?_⟩
    obtain ⟨h1, h2⟩ := hcl k hk
    exact ⟨by rw [hb.cell (p := ⟨b, off + k * 2, none⟩) hlt]; exact h1, by rw [hb.cell (p := ⟨b, off + k * 2 + 1, none⟩) hlt]; exact h2⟩
theorem IsRooms.below {w w' : World} {v : Value} {rs : List RoomV} (h : IsRooms w v rs) (hb : Below w.heap.size w w') : IsRooms w' v rs := by
  obtain ⟨a, cap, rfl, hc, hm, hr⟩ := h
  refine ⟨a, cap, rfl, hc, hm, ?_⟩
  rcases hr with hr | ⟨b, off, rfl, hlt, hcl⟩
  · exact .inl hr
  · refine .inr ⟨b, off, rfl, Nat.lt_of_lt_of_le hlt hb.size, fun k hk => ?_⟩
    obtain ⟨h1, pv, h2, h3⟩ := hcl k hk
    exact ⟨by rw [hb.cell (p := ⟨b, off + k * 2, none⟩) hlt]; exact h1, pv, by rw [hb.cell (p := ⟨b, off + k * 2 + 1, none⟩) hlt]; exact h2, h3.below hb⟩
theorem roomAt_take {rs : List RoomV} {n k : Nat} (h : k < n) : roomAt (rs.take n) k = roomAt rs k := by
  unfold roomAt; simp [List.getD, h]
/-- The first n of them, where n is not more than there are. -/
theorem IsRooms.taken {w : World} {a : Option Addr} {len cap : Nat} {rs : List RoomV} (h : IsRooms w (.slice a len cap) rs) {n : Nat} (hn : n ≤ len) : IsRooms w (.slice a n cap) (rs.take n) := by
  obtain ⟨a', cap', he, hc, hm, hr⟩ := h
  cases he
  have hl : (rs.take n).length = n := by simp; omega
  refine ⟨a, cap, by rw [hl], by omega, hm, ?_⟩
  rcases hr with hr | ⟨b, off, rfl, hlt, hcl⟩
  · exact .inl (by rw [hr]; simp)
  · refine .inr ⟨b, off, rfl, hlt, fun k hk => ?_⟩
    rw [roomAt_take (by omega)]
    exact hcl k (by omega)

def paceB (p : PaceV) : Bool := inB p.1 1 1024 && inB p.2 1 1024
def aboveB (p q : PaceV) : Bool := decide (q.1 < p.1) && decide (q.2 < p.2)
def stepB (ps : List PaceV) (k : Nat) : Bool := paceB (paceAt ps k) && (k == 0 || aboveB (paceAt ps k) (paceAt ps (k - 1)))
def pacesB (ps : List PaceV) : Bool := (List.range ps.length).all (stepB ps)
def roomB (r : RoomV) : Bool := inB r.1 1 4 && (inB r.2.length 1 4 && pacesB r.2)
def benchSum (rs : List RoomV) : Int := (rs.map (·.1)).sum
def hallB (rs : List RoomV) : Bool := inB rs.length 1 3 && (rs.all roomB && decide (benchSum rs ≤ 8))

theorem pacesB_t {ps : List PaceV} (h : ∀ j, j < ps.length → stepB ps j = true) : pacesB ps = true := by
  unfold pacesB; rw [List.all_eq_true]; intro j hj; exact h j (List.mem_range.1 hj)
theorem pacesB_f {ps : List PaceV} {j : Nat} (hj : j < ps.length) (h : stepB ps j = false) : pacesB ps = false := by
  unfold pacesB; rw [List.all_eq_false]; exact ⟨j, List.mem_range.2 hj, by simp [h]⟩
theorem roomAt_mem {rs : List RoomV} {k : Nat} (h : k < rs.length) : roomAt rs k ∈ rs := by
  unfold roomAt; simp [List.getD, h]
theorem allRooms_t {rs : List RoomV} (h : ∀ j, j < rs.length → roomB (roomAt rs j) = true) : rs.all roomB = true := by
  rw [List.all_eq_true]; intro r hr
  obtain ⟨j, hj, rfl⟩ := List.getElem_of_mem hr
  have := h j hj
  unfold roomAt at this; simpa [List.getD, hj] using this
theorem allRooms_f {rs : List RoomV} {j : Nat} (hj : j < rs.length) (h : roomB (roomAt rs j) = false) : rs.all roomB = false := by
  rw [List.all_eq_false]; exact ⟨_, roomAt_mem hj, by simp [h]⟩
theorem allRooms_of {rs : List RoomV} (h : rs.all roomB = true) {j : Nat} (hj : j < rs.length) : roomB (roomAt rs j) = true := by
  rw [List.all_eq_true] at h; exact h _ (roomAt_mem hj)
theorem room_bd {r : RoomV} (h : roomB r = true) : 1 ≤ r.1 ∧ r.1 ≤ 4 ∧ 1 ≤ r.2.length ∧ r.2.length ≤ 4 := by
  unfold roomB at h; simp only [Bool.and_eq_true] at h
  have h1 := inB_of h.1; have h2 := inB_of h.2.1
  omega
theorem benchSum_take (rs : List RoomV) {k : Nat} (h : k < rs.length) : benchSum (rs.take (k + 1)) = benchSum (rs.take k) + (roomAt rs k).1 := by
  unfold benchSum roomAt
  rw [List.take_succ_eq_append_getElem h, List.map_append, List.sum_append]; simp [List.getD, h]
theorem benchSum_bd {rs : List RoomV} (h : rs.all roomB = true) : ∀ k, k ≤ rs.length → (k : Int) ≤ benchSum (rs.take k) ∧ benchSum (rs.take k) ≤ 4 * k
  | 0, _ => by simp [benchSum]
  | k + 1, hk => by
    have ih := benchSum_bd h k (by omega)
    have hb := room_bd (allRooms_of h (j := k) (by omega))
    rw [benchSum_take rs (by omega)]; omega
theorem benchSum_all (rs : List RoomV) : benchSum (rs.take rs.length) = benchSum rs := by rw [List.take_length]
theorem hallB_of {rs : List RoomV} (h : hallB rs = true) : 1 ≤ rs.length ∧ rs.length ≤ 3 ∧ rs.all roomB = true ∧ benchSum rs ≤ 8 := by
  unfold hallB at h; simp only [Bool.and_eq_true, decide_eq_true_eq] at h
  have h1 := inB_of h.1
  exact ⟨by omega, by omega, h.2.1, h.2.2⟩

end Go.Proofs.YtifolooecfebfaaGreat

/- Rows of pairs of numbers that the call itself made: what they read as, that they stay where their blocks do, how one is written into; marks. No condition but those that a theorem names. -/
namespace Go.Proofs.YtifolooecfebfaaGreat
open Go.ChangeShapes Go.WideShapes Go.ChangeAt Go.RowKit Go.Sort
set_option linter.unusedVariables false

theorem bcell {W w1 : World} {B : Nat} (hb : Below B W w1) : (∀ b o, b < B → w1.cell? ⟨b, o, none⟩ = W.cell? ⟨b, o, none⟩) ∧ (∀ b o, b < B → w1.frozen? ⟨b, o, none⟩ = W.frozen? ⟨b, o, none⟩) :=
  ⟨fun b o h => hb.cell (p := ⟨b, o, none⟩) h, fun b o h => hb.frozen (p := ⟨b, o, none⟩) h⟩

theorem liesFrom_any (lo n hi : Int) (w : World) : Calls Tryz.prog 169 #[.int .i64 lo, .int .i64 n, .int .i64 hi] w fun e w' => e = .returned (.bool (inB n lo hi)) ∧ w' = w := by
  by_cases h1 : lo ≤ n
  · by_cases h2 : n ≤ hi
    all_goals
      go_enter Tryz.func169, Tryz.ntmps169
      go_wp2
      go_ret
      exact ⟨ret_bool (by unfold inB; simp [h1, h2]), rfl⟩
  · go_enter Tryz.func169, Tryz.ntmps169
    go_wp2
    go_ret
    exact ⟨ret_bool (by unfold inB; simp; omega), rfl⟩

theorem next_all {P : Nat → Prop} {k : Nat} (h : ∀ j, j < k → P j) (hk : P k) : ∀ j, j < k + 1 → P j := fun j hj => by
  by_cases e : j < k
  · exact h j e
  · obtain rfl : j = k := by omega
    exact hk

/-- A row that the call made stays where its block does. -/
theorem own_same {w w' : World} {B t size n : Nat} {v : Value} {xs : List Value} (h : w.ownsRow B t size v n xs) (hs : ∀ k, v.ownBlock = some k → w'.heap[k]? = w.heap[k]?) : w'.ownsRow B t size v n xs := by
  refine ⟨h.1, ?_⟩
  rcases h.2 with hz | ⟨g, cap, cur, rfl, hb, hg, r⟩
  · exact .inl hz
  · exact .inr ⟨g, cap, cur, rfl, hb, (hs g rfl).trans hg, r⟩
theorem own_mono {w : World} {B B' t size n : Nat} {v : Value} {xs : List Value} (h : w.ownsRow B t size v n xs) (hb : B' ≤ B) : w.ownsRow B' t size v n xs := by
  refine ⟨h.1, ?_⟩
  rcases h.2 with hz | ⟨g, cap, cur, rfl, hb', r⟩
  · exact .inl hz
  · exact .inr ⟨g, cap, cur, rfl, by omega, r⟩

def pcells (ps : List PaceV) : List Value := ps.flatMap fun p => [.int .i64 p.1, .int .i64 p.2]
def rcells (qs : List (RoomV × Value)) : List Value := qs.flatMap fun q => [.int .i64 q.1.1, q.2]
theorem pairs_len {α : Type} {f g : α → Value} : ∀ l : List α, (l.flatMap fun p => [f p, g p]).length = l.length * 2
  | [] => rfl
  | p :: l => by rw [List.flatMap_cons, List.length_append, pairs_len l]; simp; omega
theorem pairs_get {α : Type} {f g : α → Value} : ∀ (l : List α) (k : Nat) (h : k < l.length), (l.flatMap fun p => [f p, g p])[k * 2]? = some (f l[k]) ∧ (l.flatMap fun p => [f p, g p])[k * 2 + 1]? = some (g l[k])
  | p :: l, 0, _ => by simp
  | p :: l, k + 1, h => by
    have ih := pairs_get (f := f) (g := g) l k (by simpa using h)
    rw [List.flatMap_cons, show (k + 1) * 2 = k * 2 + 2 by omega, show k * 2 + 2 + 1 = (k * 2 + 1) + 2 by omega]
    simpa using ih

def szV (n : Nat) (left : Int) : Int := if left - n < 0 then -1 else left - n
theorem szV_f {n : Nat} {left : Int} (h : left - n < 0) : szV n left = -1 := by unfold szV; rw [if_pos h]
theorem szV_t {n : Nat} {left : Int} (h : ¬ left - n < 0) : szV n left = left - n := by unfold szV; rw [if_neg h]

/-- The first k pairs of cells of a row. -/
def Pairs (xs : List Value) (P : Nat → Value → Value → Prop) (k : Nat) : Prop := ∀ j, j < k → ∃ u u', xs[j * 2]? = some u ∧ xs[j * 2 + 1]? = some u' ∧ P j u u'
theorem Pairs.next {xs : List Value} {P : Nat → Value → Value → Prop} {k : Nat} {u u' : Value} (h : Pairs xs P k) (hl : k * 2 + 1 < xs.length) (hp : P k u u') : Pairs ((xs.set (k * 2) u).set (k * 2 + 1) u') P (k + 1) := fun j hj => by
  by_cases e : j < k
  · obtain ⟨a, a', h1, h2, h3⟩ := h j e
    refine ⟨a, a', ?_, ?_, h3⟩
    · rw [List.getElem?_set_ne (by omega), List.getElem?_set_ne (by omega)]; exact h1
    · rw [List.getElem?_set_ne (by omega), List.getElem?_set_ne (by omega)]; exact h2
  · obtain rfl : j = k := by omega
    refine ⟨u, u', ?_, ?_, hp⟩
    · rw [List.getElem?_set_ne (by omega), List.getElem?_set_self (by omega)]
    · rw [List.getElem?_set_self (by simp; omega)]
theorem Pairs.mono {xs : List Value} {P Q : Nat → Value → Value → Prop} {k : Nat} (h : Pairs xs P k) (hpq : ∀ j u u', P j u u' → Q j u u') : Pairs xs Q k := fun j hj => by
  obtain ⟨a, a', h1, h2, h3⟩ := h j hj
  exact ⟨a, a', h1, h2, hpq _ _ _ h3⟩

def isPaceOf (ps : List PaceV) (j : Nat) (u u' : Value) : Prop := u = .int .i64 (paceAt ps j).1 ∧ u' = .int .i64 (paceAt ps j).2
/-- A row of paces that the call made. -/
theorem IsPaces.of_row {w : World} {B g n cap t : Nat} {ps : List PaceV} {xs : List Value} (h : w.ownsRow B t 2 (.slice (some ⟨g, 0, none⟩) n cap) n xs) (hp : Pairs xs (isPaceOf ps) ps.length) (hn : n = ps.length) : IsPaces w (.slice (some ⟨g, 0, none⟩) n cap) ps := by
  subst hn
  have h' := h
  rcases h.2 with ⟨hh, _⟩ | ⟨g', cap', cur, hh, hb, hg, hnc, hcm, r⟩
  · simp at hh
  · simp only [Value.slice.injEq, Option.some.injEq, Addr.mk.injEq, and_true, true_and] at hh
    obtain ⟨rfl, rfl⟩ := hh
    refine ⟨_, cap, rfl, hnc, by unfold maxLen at hcm; omega, .inr ⟨g, 0, rfl, (Array.getElem?_eq_some_iff.1 hg).1, fun k hk => ?_⟩⟩
    obtain ⟨u, u', h1, h2, rfl, rfl⟩ := hp k hk
    refine ⟨?_, ?_⟩
    · rw [Nat.zero_add, World.ownsRow.cellAt h' _ (by omega)]; exact h1
    · rw [Nat.zero_add, World.ownsRow.cellAt h' _ (by omega)]; exact h2

theorem own_cell {w : World} {B g n cap t : Nat} {xs : List Value} (h : w.ownsRow B t 2 (.slice (some ⟨g, 0, none⟩) n cap) n xs) {j : Nat} (hj : j < n * 2) : (∃ c, w.cell? ⟨g, j, none⟩ = some c) ∧ w.frozen? ⟨g, j, none⟩ = false := by
  refine ⟨?_, World.ownsRow.frozenAt h j⟩
  rw [World.ownsRow.cellAt h j hj]
  exact ⟨xs[j]'(by rw [h.1]; exact hj), List.getElem?_eq_getElem _⟩

theorem below_grown {B g : Nat} {w w' : World} (hg : w.grownBy w' (some g)) (hB : B ≤ g) (hs : B ≤ w.heap.size) : Below B w w' := (Below.refl B w).grown hg hs (fun k e => by cases e; exact hB)
theorem grown_trans {a b c : World} {row : Option Nat} (h : a.grownBy b row) (k : b.grownBy c row) : a.grownBy c row :=
  ⟨k.os.trans h.os, k.tape.trans h.tape, k.output.trans h.output, Nat.le_trans h.size k.size, fun i hi hn => (k.block i (Nat.lt_of_lt_of_le hi h.size) hn).trans (h.block i hi hn)⟩

/-- Two stores into one pair of a row. -/
theorem own_pair {w : World} {B g n cap t : Nat} {xs : List Value} (h : w.ownsRow B t 2 (.slice (some ⟨g, 0, none⟩) n cap) n xs) (j : Nat) (u u' : Value) :
    ((w.setCell ⟨g, j, none⟩ u).setCell ⟨g, j + 1, none⟩ u').ownsRow B t 2 (.slice (some ⟨g, 0, none⟩) n cap) n ((xs.set j u).set (j + 1) u') ∧ w.grownBy ((w.setCell ⟨g, j, none⟩ u).setCell ⟨g, j + 1, none⟩ u') (some g) := by
  have h1 := World.ownsRow.stored h j u
  have h2 := World.ownsRow.stored h1.1 (j + 1) u'
  exact ⟨h2.1, grown_trans h1.2 h2.2⟩
theorem own_later {w w' : World} {B g n cap t : Nat} {xs : List Value} (h : w.ownsRow B t 2 (.slice (some ⟨g, 0, none⟩) n cap) n xs) (hb : Below w.heap.size w w') : w'.ownsRow B t 2 (.slice (some ⟨g, 0, none⟩) n cap) n xs := by
  have hlt := (World.ownsRow.lt h g rfl).2
  refine ⟨h.1, ?_⟩
  rcases h.2 with hz | ⟨g', cap', cur, hh, hb', hg, r⟩
  · exact .inl hz
  · simp only [Value.slice.injEq, Option.some.injEq, Addr.mk.injEq, and_true, true_and] at hh
    obtain ⟨rfl, rfl⟩ := hh
    exact .inr ⟨g, cap, cur, rfl, hb', (hb.block g hlt).trans hg, r⟩

theorem pput (f c : Int) : ∀ (ps : List PaceV) (j : Nat), j < ps.length → ((pcells ps).set (j * 2) (.int .i64 f)).set (j * 2 + 1) (.int .i64 c) = pcells (ps.set j (f, c))
  | p :: ps, 0, _ => by simp [pcells]
  | p :: ps, j + 1, h => by
    have ih := pput f c ps j (by simpa using h)
    unfold pcells at ih ⊢
    rw [List.flatMap_cons, show (j + 1) * 2 = j * 2 + 2 by omega, show j * 2 + 2 + 1 = (j * 2 + 1) + 2 by omega]
    simpa using ih

/-- Marks of n paces from k on. -/
def mps (k : Int) (n : Nat) : List PaceV := (List.range n).map fun i : Nat => (k + 2 * (i : Int), k + 2 * (i : Int) + 1)
theorem mps_len (k : Int) (n : Nat) : (mps k n).length = n := by simp [mps]
theorem mps_at (k : Int) (n i : Nat) (h : i < n) : paceAt (mps k n) i = (k + 2 * (i : Int), k + 2 * (i : Int) + 1) := by unfold paceAt mps; simp [List.getD, h]
/-- The first j of them are marked. -/
def mpd (ps : List PaceV) (k : Int) (j : Nat) : List PaceV := mps k j ++ ps.drop j
theorem mpd_len {ps : List PaceV} {k : Int} {j : Nat} (h : j ≤ ps.length) : (mpd ps k j).length = ps.length := by simp [mpd, mps_len]; omega
theorem mpd_succ {ps : List PaceV} {k : Int} {j : Nat} (h : j < ps.length) : (mpd ps k j).set j (k + 2 * (j : Int), k + 2 * (j : Int) + 1) = mpd ps k (j + 1) := by
  unfold mpd
  rw [List.set_append_right _ _ (by simp [mps_len]), mps_len, Nat.sub_self, List.drop_eq_getElem_cons h, List.set_cons_zero]
  simp [mps, List.range_succ]
theorem mpd_all (ps : List PaceV) (k : Int) : mpd ps k ps.length = mps k ps.length := by simp [mpd]
theorem grown_refl (w : World) (r : Option Nat) : w.grownBy w r := ⟨rfl, rfl, rfl, Nat.le_refl _, fun _ _ _ => rfl⟩

end Go.Proofs.YtifolooecfebfaaGreat

/- Rows of records of k cells each, whatever the record: what a slice of them reads as, rows that the call itself made, how one is written into. No condition but those that a theorem names. -/
namespace Go.Proofs.YtifolooecfebfaaGreat
open Go.ChangeShapes Go.WideShapes Go.ChangeAt Go.RowKit Go.Sort
set_option linter.unusedVariables false

section
variable {α : Type} {t k : Nat} {enc : α → List Value}
def flat (enc : α → List Value) (xs : List α) : List Value := xs.flatMap enc
theorem flat_len (hk : ∀ x, (enc x).length = k) : ∀ xs : List α, (flat enc xs).length = xs.length * k
  | [] => by simp [flat]
  | x :: xs => by
    have ih := flat_len hk xs
    unfold flat at ih ⊢
    rw [List.flatMap_cons, List.length_append, ih, hk, List.length_cons, Nat.add_mul]; omega
theorem flat_append (xs ys : List α) : flat enc (xs ++ ys) = flat enc xs ++ flat enc ys := by unfold flat; rw [List.flatMap_append]
/-- The cells us, from o on, in the place of what was there. -/
def setL (L : List Value) (o : Nat) : List Value → List Value
  | [] => L
  | u :: us => setL (L.set o u) (o + 1) us
def setW (w : World) (g o : Nat) : List Value → World
  | [] => w
  | u :: us => setW (w.setCell ⟨g, o, none⟩ u) g (o + 1) us
theorem setL_len : ∀ (us L : List Value) (o : Nat), (setL L o us).length = L.length
  | [], L, o => rfl
  | u :: us, L, o => by unfold setL; rw [setL_len us]; simp
theorem setL_get : ∀ (us L : List Value) (o m : Nat), o + us.length ≤ L.length → (setL L o us)[m]? = if o ≤ m ∧ m < o + us.length then us[m - o]? else L[m]?
  | [], L, o, m, h => by unfold setL; rw [if_neg (by simp)]
  | u :: us, L, o, m, h => by
    unfold setL
    have ih := setL_get us (L.set o u) (o + 1) m (by simp at h ⊢; omega)
    rw [ih]
    simp only [List.length_cons] at h ⊢
    by_cases h1 : o + 1 ≤ m ∧ m < o + 1 + us.length
    · rw [if_pos h1, if_pos (by omega), show m - o = (m - (o + 1)) + 1 by omega]; rfl
    · rw [if_neg h1]
      by_cases h2 : m = o
      · subst h2; rw [if_pos (by omega), List.getElem?_set_self (by omega)]; simp
      · rw [if_neg (by omega), List.getElem?_set_ne (by omega)]
theorem own_setW {B t n cap g sz : Nat} : ∀ (us : List Value) {w : World} {xs : List Value} (o : Nat), w.ownsRow B t sz (.slice (some ⟨g, 0, none⟩) n cap) n xs →
    (setW w g o us).ownsRow B t sz (.slice (some ⟨g, 0, none⟩) n cap) n (setL xs o us) ∧ w.grownBy (setW w g o us) (some g)
  | [], w, xs, o, h => ⟨h, grown_refl _ _⟩
  | u :: us, w, xs, o, h => by
    obtain ⟨h1, h2⟩ := World.ownsRow.stored h o u
    obtain ⟨h3, h4⟩ := own_setW us (o + 1) h1
    exact ⟨h3, grown_trans h2 h4⟩
/-- The slice v, in a block from n₀ on, holds the records xs. -/
def RecAt (t k : Nat) (enc : α → List Value) (n₀ : Nat) (w : World) (v : Value) (xs : List α) : Prop := w.ownsRow n₀ t k v xs.length (flat enc xs)
theorem RecAt.lt {n₀ : Nat} {w : World} {v : Value} {xs : List α} (h : RecAt t k enc n₀ w v xs) {i : Nat} (hi : v.ownBlock = some i) : n₀ ≤ i ∧ i < w.heap.size := World.ownsRow.lt h i hi
theorem RecAt.mono {n₀ n₁ : Nat} {w : World} {v : Value} {xs : List α} (h : RecAt t k enc n₀ w v xs) (hn : n₁ ≤ n₀) : RecAt t k enc n₁ w v xs := own_mono h hn
theorem RecAt.same {n₀ : Nat} {w w' : World} {v : Value} {xs : List α} (h : RecAt t k enc n₀ w v xs) (hs : ∀ i, v.ownBlock = some i → w'.heap[i]? = w.heap[i]?) : RecAt t k enc n₀ w' v xs := own_same h hs
theorem RecAt.later {n₀ : Nat} {w w' : World} {v : Value} {xs : List α} (h : RecAt t k enc n₀ w v xs) (hb : Below w.heap.size w w') : RecAt t k enc n₀ w' v xs := h.same fun i hi => hb.block i (h.lt hi).2
theorem RecAt.grown {n₀ : Nat} {w w' : World} {v : Value} {xs : List α} {r : Option Nat} (h : RecAt t k enc n₀ w v xs) (hg : w.grownBy w' r) (hr : ∀ i, v.ownBlock = some i → r ≠ some i) : RecAt t k enc n₀ w' v xs := h.same fun i hi => hg.block i (h.lt hi).2 (fun e => hr i hi e.symm)
theorem RecAt.shape {n₀ : Nat} {w : World} {v : Value} {xs : List α} (h : RecAt t k enc n₀ w v xs) : ∃ a cap, v = .slice a xs.length cap := by
  rcases h.2 with ⟨rfl, hz⟩ | ⟨g, cap, cur, rfl, _⟩
  · exact ⟨none, 0, by rw [hz]⟩
  · exact ⟨_, cap, rfl⟩
end

section
variable {α : Type} [Inhabited α] {t k : Nat} {enc : α → List Value}
def recAt (xs : List α) (j : Nat) : α := xs.getD j default
theorem recAt_get {xs : List α} {j : Nat} (h : j < xs.length) : recAt xs j = xs[j] := by unfold recAt; simp [List.getD, h]
theorem recAt_mem {xs : List α} {j : Nat} (h : j < xs.length) : recAt xs j ∈ xs := by rw [recAt_get h]; exact List.getElem_mem h
theorem recAt_set {xs : List α} {i : Nat} {x : α} (h : i < xs.length) (j : Nat) : recAt (xs.set i x) j = if j = i then x else recAt xs j := by
  unfold recAt
  by_cases e : j = i
  · subst e; simp [List.getD, h]
  · rw [if_neg e]; simp [List.getD, Ne.symm e]
theorem flat_get (hk : ∀ x, (enc x).length = k) : ∀ (xs : List α) (j : Nat), j < xs.length → ∀ i, i < k → (flat enc xs)[j * k + i]? = (enc (recAt xs j))[i]?
  | x :: xs, 0, _, i, hi => by
    unfold flat recAt
    rw [List.flatMap_cons, Nat.zero_mul, Nat.zero_add, List.getElem?_append_left (by rw [hk]; exact hi)]; rfl
  | x :: xs, j + 1, h, i, hi => by
    have ih := flat_get hk xs j (by simpa using h) i hi
    unfold flat recAt at ih ⊢
    rw [List.flatMap_cons, List.getElem?_append_right (by rw [hk, Nat.add_mul]; omega), hk, show (j + 1) * k + i - k = j * k + i by rw [Nat.add_mul]; omega, ih]
    rfl
/-- A record is written into its place. -/
theorem flat_set (hk : ∀ x, (enc x).length = k) (h0 : 0 < k) (xs : List α) (j : Nat) (hj : j < xs.length) (x : α) : setL (flat enc xs) (j * k) (enc x) = flat enc (xs.set j x) := by
  have hl := flat_len hk xs
  have hjk : j * k + k ≤ xs.length * k := by rw [← Nat.succ_mul]; exact Nat.mul_le_mul_right k hj
  apply List.ext_getElem?
  intro m
  by_cases hm : m < xs.length * k
  · have hd : m / k < xs.length := (Nat.div_lt_iff_lt_mul h0).2 hm
    have hr : m % k < k := Nat.mod_lt _ h0
    have he : m = m / k * k + m % k := by rw [Nat.mul_comm]; exact (Nat.div_add_mod m k).symm
    have hg := flat_get hk (xs.set j x) (m / k) (by simpa using hd) (m % k) hr
    have hg0 := flat_get hk xs (m / k) hd (m % k) hr
    rw [← he] at hg hg0
    rw [setL_get _ _ _ _ (by rw [hl, hk]; exact hjk), hg, hk, recAt_set hj, hg0]
    by_cases e : m / k = j
    · rw [if_pos e, if_pos (by rw [← e]; omega), show m - j * k = m % k by rw [← e]; omega]
    · rw [if_neg e, if_neg]
      intro ⟨h1, h2⟩
      apply e
      exact Nat.div_eq_of_lt_le h1 (by rw [Nat.succ_mul]; exact h2)
  · rw [List.getElem?_eq_none (by rw [setL_len, hl]; omega), List.getElem?_eq_none (by rw [flat_len hk]; simp; omega)]
/-- The slice v reads as the records xs. -/
def IsRec (k : Nat) (enc : α → List Value) (w : World) (v : Value) (xs : List α) : Prop :=
  ∃ (a : Option Addr) (cap : Nat), v = .slice a xs.length cap ∧ xs.length ≤ cap ∧ cap ≤ 9223372036854775807 ∧ (xs = [] ∨ ∃ b off, a = some ⟨b, off, none⟩ ∧ b < w.heap.size ∧
    ∀ j, j < xs.length → ∀ i u, (enc (recAt xs j))[i]? = some u → w.cell? ⟨b, off + j * k + i, none⟩ = some u)
theorem IsRec.below {w w' : World} {v : Value} {xs : List α} (h : IsRec k enc w v xs) (hb : Below w.heap.size w w') : IsRec k enc w' v xs := by
  obtain ⟨a, cap, rfl, hc, hm, hr⟩ := h
  refine ⟨a, cap, rfl, hc, hm, ?_⟩
  rcases hr with hr | ⟨b, off, rfl, hlt, hcl⟩
  · exact .inl hr
  · exact .inr ⟨b, off, rfl, Nat.lt_of_lt_of_le hlt hb.size, fun j hj i u hu => (hb.cell (p := ⟨b, off + j * k + i, none⟩) hlt).trans (hcl j hj i u hu)⟩
theorem IsRec.shape {w : World} {v : Value} {xs : List α} (h : IsRec k enc w v xs) : ∃ a cap, v = .slice a xs.length cap ∧ xs.length ≤ cap ∧ cap ≤ 9223372036854775807 := by
  obtain ⟨a, cap, rfl, hc, hm, _⟩ := h; exact ⟨a, cap, rfl, hc, hm⟩
theorem RecAt.recs (hk : ∀ x, (enc x).length = k) (h0 : 0 < k) {n₀ : Nat} {w : World} {v : Value} {xs : List α} (h : RecAt t k enc n₀ w v xs) : IsRec k enc w v xs := by
  have h' := h
  rcases h.2 with ⟨rfl, hz⟩ | ⟨g, cap, cur, rfl, hb, hg, hnc, hcm, r⟩
  · exact ⟨none, 0, by rw [hz], by omega, by omega, .inl (List.eq_nil_of_length_eq_zero hz)⟩
  · refine ⟨_, cap, rfl, hnc, by unfold maxLen at hcm; omega, .inr ⟨g, 0, rfl, (Array.getElem?_eq_some_iff.1 hg).1, fun j hj i u hu => ?_⟩⟩
    have hi : i < k := by
      rcases Nat.lt_or_ge i k with h | h
      · exact h
      · rw [List.getElem?_eq_none (by rw [hk]; exact h)] at hu; cases hu
    have hjk : j * k + k ≤ xs.length * k := by rw [← Nat.succ_mul]; exact Nat.mul_le_mul_right k hj
    rw [Nat.zero_add, World.ownsRow.cellAt h' (j * k + i) (by omega), flat_get hk xs j hj i hi]
    exact hu
/-- What a walk that writes into it asks. -/
theorem RecAt.view (hk : ∀ x, (enc x).length = k) (h0 : 0 < k) {n₀ n cap : Nat} {w : World} {a : Option Addr} {xs : List α} (h : RecAt t k enc n₀ w (.slice a n cap) xs) (hn : n = xs.length) (hl : 0 < xs.length) : ∃ g, a = some ⟨g, 0, none⟩ ∧ n₀ ≤ g ∧ g < w.heap.size ∧
    (∀ j, j < xs.length → ∀ i u, (enc (recAt xs j))[i]? = some u → w.cell? ⟨g, j * k + i, none⟩ = some u) ∧ (∀ o, w.frozen? ⟨g, o, none⟩ = false) := by
  subst hn
  have h' := h
  rcases h.2 with ⟨hv, hz⟩ | ⟨g, cap', cur, hv, hb, hg, hnc, hcm, r⟩
  · omega
  · cases hv
    refine ⟨g, rfl, hb, (Array.getElem?_eq_some_iff.1 hg).1, fun j hj i u hu => ?_, fun o => World.ownsRow.frozenAt h' o⟩
    have hi : i < k := by
      rcases Nat.lt_or_ge i k with h | h
      · exact h
      · rw [List.getElem?_eq_none (by rw [hk]; exact h)] at hu; cases hu
    have hjk : j * k + k ≤ xs.length * k := by rw [← Nat.succ_mul]; exact Nat.mul_le_mul_right k hj
    rw [World.ownsRow.cellAt h' (j * k + i) (by omega), flat_get hk xs j hj i hi]
    exact hu
/-- A record is written into it. -/
theorem RecAt.put (hk : ∀ x, (enc x).length = k) (h0 : 0 < k) {n₀ n cap g : Nat} {w : World} {xs : List α} (h : RecAt t k enc n₀ w (.slice (some ⟨g, 0, none⟩) n cap) xs) (hn : n = xs.length) {j : Nat} (hj : j < xs.length) (x : α) :
    RecAt t k enc n₀ (setW w g (j * k) (enc x)) (.slice (some ⟨g, 0, none⟩) n cap) (xs.set j x) ∧ w.grownBy (setW w g (j * k) (enc x)) (some g) := by
  subst hn
  obtain ⟨h1, h2⟩ := own_setW (enc x) (j * k) h
  rw [flat_set hk h0 xs j hj x] at h1
  refine ⟨?_, h2⟩
  unfold RecAt
  rw [List.length_set]
  exact h1
end

end Go.Proofs.YtifolooecfebfaaGreat

/- Rows of records that are filled, or marked, one after the other: lists alone, and the row that make lays. No condition but those that a theorem names. -/
namespace Go.Proofs.YtifolooecfebfaaGreat
open Go.ChangeShapes Go.WideShapes Go.ChangeAt Go.RowKit Go.Sort
set_option linter.unusedVariables false

section
variable {α : Type} {t k : Nat} {enc : α → List Value}
/-- The first j of them, and behind these z. -/
def fillL (xs : List α) (z : α) (j : Nat) : List α := xs.take j ++ List.replicate (xs.length - j) z
theorem fillL_len {xs : List α} {z : α} {j : Nat} (h : j ≤ xs.length) : (fillL xs z j).length = xs.length := by unfold fillL; simp; omega
theorem fillL_zero (xs : List α) (z : α) : fillL xs z 0 = List.replicate xs.length z := by unfold fillL; simp
theorem fillL_all (xs : List α) (z : α) : fillL xs z xs.length = xs := by unfold fillL; simp
theorem fillL_set [Inhabited α] {xs : List α} {z : α} {j : Nat} (h : j < xs.length) : (fillL xs z j).set j (recAt xs j) = fillL xs z (j + 1) := by
  unfold fillL
  have hl : (xs.take j).length = j := by simp; omega
  rw [List.set_append_right _ _ (by rw [hl]; exact Nat.le_refl _), hl, Nat.sub_self, recAt_get h, List.take_succ_eq_append_getElem h, List.append_assoc]
  congr 1
  obtain ⟨m, hm⟩ : ∃ m, xs.length - j = m + 1 := ⟨xs.length - j - 1, by omega⟩
  rw [hm, List.replicate_succ, List.set_cons_zero, show xs.length - (j + 1) = m by omega]
  rfl
/-- n marks from c on, each d greater than the one ahead. -/
def markL (mk : Int → α) (d : Nat) (c : Int) (n : Nat) : List α := (List.range n).map fun i : Nat => mk (c + (d : Int) * (i : Int))
theorem markL_len (mk : Int → α) (d : Nat) (c : Int) (n : Nat) : (markL mk d c n).length = n := by simp [markL]
theorem markL_at [Inhabited α] (mk : Int → α) (d : Nat) (c : Int) {n i : Nat} (h : i < n) : recAt (markL mk d c n) i = mk (c + (d : Int) * (i : Int)) := by unfold recAt markL; simp [List.getD, h]
/-- The first j of them are marked. -/
def markedL (mk : Int → α) (d : Nat) (c : Int) (xs : List α) (j : Nat) : List α := markL mk d c j ++ xs.drop j
theorem markedL_len {mk : Int → α} {d : Nat} {c : Int} {xs : List α} {j : Nat} (h : j ≤ xs.length) : (markedL mk d c xs j).length = xs.length := by unfold markedL; simp [markL_len]; omega
theorem markedL_zero (mk : Int → α) (d : Nat) (c : Int) (xs : List α) : markedL mk d c xs 0 = xs := by unfold markedL markL; simp
theorem markedL_all (mk : Int → α) (d : Nat) (c : Int) (xs : List α) : markedL mk d c xs xs.length = markL mk d c xs.length := by unfold markedL; simp
theorem markedL_set {mk : Int → α} {d : Nat} {c : Int} {xs : List α} {j : Nat} (h : j < xs.length) : (markedL mk d c xs j).set j (mk (c + (d : Int) * (j : Int))) = markedL mk d c xs (j + 1) := by
  unfold markedL
  rw [List.set_append_right _ _ (by rw [markL_len]; exact Nat.le_refl _), markL_len, Nat.sub_self, List.drop_eq_getElem_cons h, List.set_cons_zero]
  simp [markL, List.range_succ]
/-- The row that make lays. -/
theorem made_flat [Inhabited α] (hk : ∀ x, (enc x).length = k) (h0 : 0 < k) (z : α) (zs : Array Value) (hz : zs.toList = enc z) (n : Nat) : (madeCells zs (n * k)).toList = flat enc (List.replicate n z) := by
  have hs : zs.size = k := by rw [← Array.length_toList, hz, hk]
  apply List.ext_getElem?
  intro m
  by_cases hm : m < n * k
  · have hd : m / k < n := (Nat.div_lt_iff_lt_mul h0).2 hm
    have hr : m % k < k := Nat.mod_lt _ h0
    have he : m = m / k * k + m % k := by rw [Nat.mul_comm]; exact (Nat.div_add_mod m k).symm
    have hg := flat_get hk (List.replicate n z) (m / k) (by simpa using hd) (m % k) hr
    rw [← he] at hg
    have hrec : recAt (List.replicate n z) (m / k) = z := by unfold recAt; simp [List.getD, hd]
    rw [hg, hrec, ← hz]
    simp [madeCells, hm, hs, hr]
  · rw [List.getElem?_eq_none (by simp [madeCells]; omega), List.getElem?_eq_none (by rw [flat_len hk]; simp; omega)]
end

end Go.Proofs.YtifolooecfebfaaGreat

/- Lists of records (Guild): what they read as, and contracts of the laws' own helpers over them: how many, copies in memory of their own, that two that read alike are alike. Conditions: the slices can be read; what is copied is no longer than 2^20. -/
namespace Go.Proofs.YtifolooecfebfaaGreat
open Go.ChangeShapes Go.WideShapes Go.ChangeAt Go.RowKit Go.Sort
set_option linter.unusedVariables false

abbrev GuildV := Int × Int × Int
def encGuild (p : GuildV) : List Value := [.int .i64 p.1, .int .i64 p.2.1, .int .i64 p.2.2]
theorem encGuild_len (p : GuildV) : (encGuild p).length = 3 := rfl
abbrev IsGuilds (w : World) (v : Value) (ps : List GuildV) : Prop := IsRec 3 encGuild w v ps
abbrev GuildsAt (n₀ : Nat) (w : World) (v : Value) (ps : List GuildV) : Prop := RecAt 76 3 encGuild n₀ w v ps
theorem infoGuild : (Tryz.prog.info? 76).map (fun i => (i.zero, i.size, i.bytes)) = some (some (.agg #[.int .i64 0, .int .i64 0, .int .i64 0]), 3, 24) := by kernel_rfl
theorem GuildsAt.list {n₀ : Nat} {w : World} {v : Value} {ps : List GuildV} (h : GuildsAt n₀ w v ps) : IsGuilds w v ps := RecAt.recs encGuild_len (by omega) h
theorem guild_cells {w : World} {b off : Nat} {ps : List GuildV} (h : ∀ j, j < ps.length → ∀ i u, (encGuild (recAt ps j))[i]? = some u → w.cell? ⟨b, off + j * 3 + i, none⟩ = some u) {j : Nat} (hj : j < ps.length) :
    w.cell? ⟨b, off + j * 3, none⟩ = some (.int .i64 (recAt ps j).1) ∧ w.cell? ⟨b, off + j * 3 + 1, none⟩ = some (.int .i64 (recAt ps j).2.1) ∧ w.cell? ⟨b, off + j * 3 + 2, none⟩ = some (.int .i64 (recAt ps j).2.2) :=
  ⟨h j hj 0 _ rfl, h j hj 1 _ rfl, h j hj 2 _ rfl⟩

theorem szGuildS_any (a : Option Addr) (n cap : Nat) (left : Int) (hn : n ≤ 9223372036854775807) (h0 : 0 ≤ left) (h1 : left ≤ 1048576) (w : World) :
    Calls Tryz.prog 62 #[.slice a n cap, .int .i64 left] w fun e w' => e = .returned (.int .i64 (szV n left)) ∧ w' = w := by
  by_cases h : left - n < 0
  all_goals
    go_enter Tryz.func62, Tryz.ntmps62
    go_wp2
    go_ret
    exact ⟨ret_int (by first | exact (szV_f (by omega)).symm | exact (szV_t (by omega)).symm), rfl⟩

set_option maxHeartbeats 2000000 in
theorem eqGuild_yes (x0 : Int) (x1 : Int) (x2 : Int) (w : World) :
    Calls Tryz.prog 133 #[.agg #[.int .i64 x0, .int .i64 x1, .int .i64 x2], .agg #[.int .i64 x0, .int .i64 x1, .int .i64 x2]] w fun e w' => e = .returned (.bool true) ∧ Below w.heap.size w w' := by
  go_enter Tryz.func133, Tryz.ntmps133
  go_wp2_with fail
  go_ret
  exact ⟨rfl, ((Below.refl _ _).alloc (Nat.le_refl _) _).alloc (by simp) _⟩

set_option maxHeartbeats 4000000 in
theorem eqGuildS_yes {w : World} {v u : Value} {ps : List GuildV} (hv : IsGuilds w v ps) (hu : IsGuilds w u ps) :
    Calls Tryz.prog 73 #[v, u] w fun e w' => e = .returned (.bool true) ∧ Below w.heap.size w w' := by
  obtain ⟨a, cap, rfl, hc, hm, hr⟩ := hv
  obtain ⟨a', cap', rfl, hc', hm', hr'⟩ := hu
  have Hr := hide hr
  have Hr' := hide hr'
  clear hr hr'
  go_enter Tryz.func73, Tryz.ntmps73
  go_wp2_with fail
  go_loopw [5] (fun i wr => ∃ k : Nat, k ≤ ps.length ∧ i = .int .i64 k ∧ Below w.heap.size w wr) (fun i _ => ps.length - (intOf i).toNat)
  case atStart => exact ⟨0, Nat.zero_le _, rfl, Below.refl _ _⟩
  case round =>
    obtain ⟨k, hk, rfl, hb⟩ := hrel
    have Hb := hide hb
    by_cases hlt : k < ps.length
    · rcases unhide Hr with h0 | ⟨b, off, rfl, hbw, hcl⟩
      · rw [h0] at hlt; simp at hlt
      rcases unhide Hr' with h0 | ⟨b', off', rfl, hbw', hcl'⟩
      · rw [h0] at hlt; simp at hlt
      obtain ⟨c0, c1, c2⟩ := guild_cells hcl hlt
      obtain ⟨d0, d1, d2⟩ := guild_cells hcl' hlt
      generalize recAt ps k = p at *
      obtain ⟨x0, x1, x2⟩ := p
      simp only at c0 c1 c2 d0 d1 d2
      have k0 := cell_regrown ((hb.cell (p := ⟨b, off + k * 3, none⟩) hbw).trans c0)
      have m0 := cell_regrown ((hb.cell (p := ⟨b', off' + k * 3, none⟩) hbw').trans d0)
      have k1 := cell_regrown ((hb.cell (p := ⟨b, off + k * 3 + 1, none⟩) hbw).trans c1)
      have m1 := cell_regrown ((hb.cell (p := ⟨b', off' + k * 3 + 1, none⟩) hbw').trans d1)
      have k2 := cell_regrown ((hb.cell (p := ⟨b, off + k * 3 + 2, none⟩) hbw).trans c2)
      have m2 := cell_regrown ((hb.cell (p := ⟨b', off' + k * 3 + 2, none⟩) hbw').trans d2)
      clear hcl hcl' hb c0 c1 c2 d0 d1 d2
      go_wp2_with fail
      refine wp_region_quiet_below (by kernel_rfl) (by kernel_rfl) ?_
      repeat (go_big_quiet_step (exact Calls.regrown_of (eqGuild_yes _ _ _ _)))
      refine wpQuiet_nil ?_
      intro _ hw'
      obtain ⟨⟨dq, osq⟩, hw''⟩ := hw'
      subst hw''
      go_wp2_with fail
      go_roundw
      case rel => exact ⟨k + 1, by omega, by go_num, (unhide Hb).trans ((below_regrown _ _ _).mono (unhide Hb).size)⟩
      case measure => simp [intOf]; omega
    · go_wp2_with fail
      go_ret
      exact ⟨rfl, hb⟩

set_option maxHeartbeats 1000000 in
theorem toGuild_any (x0 : Int) (x1 : Int) (x2 : Int) (w : World) :
    Calls Tryz.prog 127 #[.agg #[.int .i64 x0, .int .i64 x1, .int .i64 x2]] w fun e w' => e = .returned (.agg #[.int .i64 x0, .int .i64 x1, .int .i64 x2]) ∧ Below w.heap.size w w' := by
  go_enter Tryz.func127, Tryz.ntmps127
  go_wp2_with fail
  exact bodyPost_ret (v := .agg #[.int .i64 x0, .int .i64 x1, .int .i64 x2]) (by simp [results, Tryz.results127, go_sem]) rfl ⟨rfl, (((Below.refl _ _).alloc (Nat.le_refl _) _).alloc (by simp) _).alloc (by simp; omega) _⟩

set_option maxRecDepth 100000 in
set_option maxHeartbeats 4000000 in
theorem toGuildS_any {w : World} {v : Value} {ps : List GuildV} (h : IsGuilds w v ps) (hs : ps.length ≤ 1048576) :
    Calls Tryz.prog 67 #[v] w fun e w' => ∃ v', e = .returned v' ∧ GuildsAt w.heap.size w' v' ps ∧ Below w.heap.size w w' := by
  obtain ⟨a, cap, rfl, hc, hm, hr⟩ := h
  have Hr := hide hr
  clear hr
  obtain ⟨i0, hi, hz0, hz1, hz2⟩ := info_parts infoGuild
  go_enter Tryz.func67, Tryz.ntmps67
  go_wp2_with (at_make; refine wpList_make_full _ rfl _ _ 27 rfl w.heap.size 76 i0 (.agg #[.int .i64 0, .int .i64 0, .int .i64 0]) 3 Tryz.underlying27 hi hz0 hz1 _ _ _ _ ps.length rfl rfl rfl rfl (by rw [hz2]; omega) (by unfold maxLen; omega) (Nat.le_refl _) ?_; intro w0 hown hgrow)
  have Hown : Hid (GuildsAt w.heap.size w0 (.slice (some ⟨w.heap.size, 0, none⟩) ps.length ps.length) (fillL ps (0, 0, 0) 0)) := hide (by
    rw [made_flat encGuild_len (by omega) (0, 0, 0) (Value.agg #[.int .i64 0, .int .i64 0, .int .i64 0]).cells rfl ps.length] at hown
    rw [fillL_zero]
    show w0.ownsRow _ _ _ _ (List.replicate ps.length _).length _
    rw [List.length_replicate]
    exact hown)
  have Hgr := hide hgrow
  clear hown hgrow
  go_loopw [4] (fun i wr => ∃ k : Nat, k ≤ ps.length ∧ i = .int .i64 k ∧ GuildsAt w.heap.size wr (.slice (some ⟨w.heap.size, 0, none⟩) ps.length ps.length) (fillL ps (0, 0, 0) k) ∧ Below w.heap.size w wr) (fun i _ => ps.length - (intOf i).toNat)
  case atStart => exact ⟨0, Nat.zero_le _, rfl, unhide Hown, (Below.refl _ _).grown (unhide Hgr) (Nat.le_refl _) (fun k e => by cases e)⟩
  case round =>
    obtain ⟨k, hk, rfl, hown, hb⟩ := hrel
    have Hb := hide hb
    by_cases hlt : k < ps.length
    · rcases unhide Hr with h0 | ⟨b, off, rfl, hbw, hcl⟩
      · rw [h0] at hlt; simp at hlt
      obtain ⟨c0, c1, c2⟩ := guild_cells hcl hlt
      rw [← hb.cell (p := ⟨b, off + k * 3, none⟩) hbw] at c0
      rw [← hb.cell (p := ⟨b, off + k * 3 + 1, none⟩) hbw] at c1
      rw [← hb.cell (p := ⟨b, off + k * 3 + 2, none⟩) hbw] at c2
      have Ho := hide hown
      have HS := hide (fillL_set (z := ((0, 0, 0) : GuildV)) hlt)
      generalize hp : recAt ps k = p at *
      obtain ⟨x0, x1, x2⟩ := p
      simp only at c0 c1 c2
      clear hcl hb hown hp
      go_wp2_with fail
      refine (toGuild_any _ _ _ _).mono ?_
      rintro e w1 ⟨rfl, hb1⟩
      have ho1 := RecAt.later (unhide Ho) hb1
      have hfl := fillL_len (z := ((0, 0, 0) : GuildV)) hk
      obtain ⟨g, hg, _, _, hcells, hfz⟩ := RecAt.view encGuild_len (by omega) ho1 hfl.symm (by omega)
      cases hg
      have hq := fun i u hu => hcells k (by omega) i u hu
      generalize recAt (fillL ps (0, 0, 0) k) k = old at hq
      have o0 := hq 0 _ rfl
      have f0 := hfz (k * 3)
      have o1 := hq 1 _ rfl
      have f1 := hfz (k * 3 + 1)
      have o2 := hq 2 _ rfl
      have f2 := hfz (k * 3 + 2)
      simp only [Nat.add_zero] at o0
      have Hp2 := hide (RecAt.put encGuild_len (by omega) ho1 hfl.symm (j := k) (by omega) (x0, x1, x2))
      have Hb1 := hide hb1
      have hsz := hb1.size
      have hsz0 := (unhide Hb).size
      clear ho1 hb1 hcells hq hfz hfl
      go_wp2_with fail
      go_roundw
      case rel => exact ⟨k + 1, by omega, by go_num, by have h9 := (unhide Hp2).1; rw [unhide HS] at h9; exact h9, ((unhide Hb).trans ((unhide Hb1).mono hsz0)).trans (below_grown (unhide Hp2).2 (Nat.le_refl _) (by omega))⟩
      case measure => simp [intOf]; omega
    · obtain rfl : k = ps.length := by omega
      rw [fillL_all] at hown
      go_wp2_with fail
      go_ret
      exact ⟨_, rfl, hown, hb⟩

end Go.Proofs.YtifolooecfebfaaGreat

/- Guilds as plain lists of numbers: which are right, their bounds, what lies within them. Lists and numbers alone; no condition but those that a theorem names. -/
namespace Go.Proofs.YtifolooecfebfaaGreat
open Go.ChangeShapes Go.WideShapes Go.ChangeAt Go.RowKit Go.Sort
set_option linter.unusedVariables false

def pairB (lo hi : Int) : Bool := inB lo 0 1024 && inB hi 0 1024 && decide (lo ≤ hi)
theorem pairB_of {lo hi : Int} (h : pairB lo hi = true) : 0 ≤ lo ∧ lo ≤ 1024 ∧ 0 ≤ hi ∧ hi ≤ 1024 ∧ lo ≤ hi := by
  unfold pairB at h
  simp only [Bool.and_eq_true, decide_eq_true_eq] at h
  obtain ⟨⟨h1, h2⟩, h3⟩ := h
  exact ⟨(inB_of h1).1, (inB_of h1).2, (inB_of h2).1, (inB_of h2).2, h3⟩
def guildB (g : GuildV) (n : Int) : Bool := inB g.1 (-1) (n - 1) && pairB g.2.1 g.2.2
theorem guildB_of {g : GuildV} {n : Int} (h : guildB g n = true) : -1 ≤ g.1 ∧ g.1 ≤ n - 1 ∧ pairB g.2.1 g.2.2 = true := by
  unfold guildB at h
  simp only [Bool.and_eq_true] at h
  exact ⟨(inB_of h.1).1, (inB_of h.1).2, h.2⟩
/-- The first k of them are right. -/
def upToB (ps : List GuildV) (k : Nat) : Bool := (List.range k).all fun i => guildB (recAt ps i) i
theorem upToB_succ (ps : List GuildV) (k : Nat) : upToB ps (k + 1) = (upToB ps k && guildB (recAt ps k) k) := by unfold upToB; rw [List.range_succ, List.all_append]; simp
theorem upToB_f {ps : List GuildV} {k n : Nat} (hk : k < n) (h : guildB (recAt ps k) k = false) : upToB ps n = false := by
  unfold upToB
  rw [List.all_eq_false]
  exact ⟨k, List.mem_range.2 hk, by simp [h]⟩
theorem upToB_at {ps : List GuildV} {k n : Nat} (h : upToB ps n = true) (hk : k < n) : guildB (recAt ps k) k = true := by
  unfold upToB at h
  exact List.all_eq_true.1 h k (List.mem_range.2 hk)
def guildsB (ps : List GuildV) : Bool := upToB ps ps.length && decide (ps.length ≤ 6)
theorem guildsB_of {ps : List GuildV} (h : guildsB ps = true) : upToB ps ps.length = true ∧ ps.length ≤ 6 := by
  unfold guildsB at h
  simpa using h
theorem guildsB_f {ps : List GuildV} {k : Nat} (hk : k < ps.length) (h : guildB (recAt ps k) k = false) : guildsB ps = false := by unfold guildsB; rw [upToB_f hk h]; rfl
theorem guildsB_long {ps : List GuildV} (h : 6 < ps.length) : guildsB ps = false := by unfold guildsB; simp; omega
theorem guildsB_at {ps : List GuildV} (h : guildsB ps = true) {g : Int} (h0 : 0 ≤ g) (h1 : g < ps.length) : -1 ≤ (recAt ps g.toNat).1 ∧ (recAt ps g.toNat).1 ≤ g - 1 ∧ pairB (recAt ps g.toNat).2.1 (recAt ps g.toNat).2.2 = true := by
  have := guildB_of (upToB_at (guildsB_of h).1 (k := g.toNat) (by omega))
  rw [show ((g.toNat : Nat) : Int) = g by omega] at this
  exact this

/-- low and high, each clamped to what is left. -/
def narV (b : Int × Int) (lo hi : Int) : Int × Int := (min (max lo b.1) b.2, min (max hi (min (max lo b.1) b.2)) b.2)
def bndN (ps : List GuildV) : Nat → Int → Int × Int
  | 0, _ => (0, 1024)
  | n + 1, g => if g < 0 then (0, 1024) else narV (bndN ps n (recAt ps g.toNat).1) (recAt ps g.toNat).2.1 (recAt ps g.toNat).2.2
def bnd (ps : List GuildV) (g : Int) : Int × Int := bndN ps (g + 1).toNat g
theorem bndN_more {ps : List GuildV} (h : guildsB ps = true) : ∀ (n m : Nat) (g : Int), g < n → g < m → g < ps.length → bndN ps n g = bndN ps m g
  | 0, 0, g, _, _, _ => rfl
  | 0, m + 1, g, h1, h2, h3 => by unfold bndN; rw [if_pos (by omega)]
  | n + 1, 0, g, h1, h2, h3 => by unfold bndN; rw [if_pos (by omega)]
  | n + 1, m + 1, g, h1, h2, h3 => by
    unfold bndN
    by_cases h0 : g < 0
    · rw [if_pos h0, if_pos h0]
    · rw [if_neg h0, if_neg h0]
      obtain ⟨a0, a1, _⟩ := guildsB_at h (g := g) (by omega) h3
      rw [bndN_more h n m (recAt ps g.toNat).1 (by omega) (by omega) (by omega)]
theorem bnd_none (ps : List GuildV) {g : Int} (h : g < 0) : bnd ps g = (0, 1024) := by
  unfold bnd
  rw [show (g + 1).toNat = 0 by omega]; rfl
theorem bnd_step {ps : List GuildV} (h : guildsB ps = true) {g : Int} (h0 : 0 ≤ g) (h1 : g < ps.length) : bnd ps g = narV (bnd ps (recAt ps g.toNat).1) (recAt ps g.toNat).2.1 (recAt ps g.toNat).2.2 := by
  obtain ⟨a0, a1, _⟩ := guildsB_at h h0 h1
  unfold bnd
  rw [show (g + 1).toNat = g.toNat + 1 by omega]
  show (if g < 0 then (0, 1024) else _) = _
  rw [if_neg (by omega), bndN_more h g.toNat ((recAt ps g.toNat).1 + 1).toNat _ (by omega) (by omega) (by omega)]
def isB (ps : List GuildV) (g : Int) : Bool := guildsB ps && inB g (-1) ((ps.length : Int) - 1)
def withinV (ps : List GuildV) (g lo hi : Int) : Int × Int := if isB ps g && pairB lo hi then narV (bnd ps g) lo hi else (-1, -1)
theorem withinV_f {ps : List GuildV} {g lo hi : Int} (h : (isB ps g && pairB lo hi) = false) : withinV ps g lo hi = (-1, -1) := by unfold withinV; rw [h]; rfl
theorem withinV_t {ps : List GuildV} {g lo hi : Int} (h : isB ps g = true) (h' : pairB lo hi = true) : withinV ps g lo hi = narV (bnd ps g) lo hi := by unfold withinV; rw [h, h']; rfl
end Go.Proofs.YtifolooecfebfaaGreat

/- Contracts of RoomOk and HallOk, the program's and the model's, and of what they call: each returns what the lists say and writes into no memory that was there. Condition: the slices can be read. -/
namespace Go.Proofs.YtifolooecfebfaaGreat
open Go.ChangeShapes Go.WideShapes Go.ChangeAt Go.RowKit Go.Sort
set_option linter.unusedVariables false

theorem isPace_any (f c : Int) (w : World) : Calls Tryz.prog 273 #[.agg #[.int .i64 f, .int .i64 c]] w fun e w' => e = .returned (.bool (paceB (f, c))) ∧ Below w.heap.size w w' := by
  cases h1 : inB f 1 1024
  · go_enter Tryz.func273, Tryz.ntmps273
    go_wp2_with fail
    refine (liesFrom_any _ _ _ _).mono ?_
    rintro e w' ⟨rfl, rfl⟩
    go_wp2_with fail
    go_ret
    exact ⟨ret_bool (by unfold paceB; simp [h1]), (Below.refl _ _).alloc (Nat.le_refl _) _⟩
  · go_enter Tryz.func273, Tryz.ntmps273
    go_wp2_with fail
    refine (liesFrom_any _ _ _ _).mono ?_
    rintro e w' ⟨rfl, rfl⟩
    go_wp2_with fail
    refine (liesFrom_any _ _ _ _).mono ?_
    rintro e w' ⟨rfl, rfl⟩
    go_wp2_with fail
    go_ret
    exact ⟨ret_bool (by unfold paceB; simp [h1]), (Below.refl _ _).alloc (Nat.le_refl _) _⟩

theorem isAbove_any (f c f' c' : Int) (w : World) : Calls Tryz.prog 274 #[.agg #[.int .i64 f, .int .i64 c], .agg #[.int .i64 f', .int .i64 c']] w fun e w' => e = .returned (.bool (aboveB (f, c) (f', c'))) ∧ Below w.heap.size w w' := by
  by_cases h1 : f' < f
  · go_enter Tryz.func274, Tryz.ntmps274
    go_wp2_with fail
    all_goals
      go_ret
      exact ⟨ret_bool (by unfold aboveB; simp [h1]), ((Below.refl _ _).alloc (Nat.le_refl _) _).alloc (by simp) _⟩
  · go_enter Tryz.func274, Tryz.ntmps274
    go_wp2_with fail
    all_goals
      go_ret
      exact ⟨ret_bool (by unfold aboveB; simp; omega), ((Below.refl _ _).alloc (Nat.le_refl _) _).alloc (by simp) _⟩

theorem stepB_p {ps : List PaceV} {k : Nat} {p : PaceV} (hp : paceAt ps k = p) (h : paceB p = false) : stepB ps k = false := by unfold stepB; rw [hp]; simp [h]
theorem stepB_0 {ps : List PaceV} {p : PaceV} (hp : paceAt ps 0 = p) (h : paceB p = true) : stepB ps 0 = true := by unfold stepB; rw [hp]; simp [h]
theorem stepB_s {ps : List PaceV} {k : Nat} {p q : PaceV} (hp : paceAt ps (k + 1) = p) (hq : paceAt ps k = q) (h : paceB p = true) : stepB ps (k + 1) = aboveB p q := by unfold stepB; simp [hp, hq, h]

set_option maxHeartbeats 1000000 in
theorem pacesOk_any {w : World} {v : Value} {ps : List PaceV} (h : IsPaces w v ps) :
    Calls Tryz.prog 261 #[v] w fun e w' => e = .returned (.bool (pacesB ps)) ∧ Below w.heap.size w w' := by
  obtain ⟨a, cap, rfl, hc, hm, hr⟩ := h
  have Hr := hide hr
  clear hr
  go_enter Tryz.func261, Tryz.ntmps261
  go_wp2_with fail
  go_loopw [7] (fun i wr => ∃ k : Nat, k ≤ ps.length ∧ i = .int .i64 k ∧ (∀ j, j < k → stepB ps j = true) ∧ Below w.heap.size w wr) (fun i _ => ps.length - (intOf i).toNat)
  case atStart => exact ⟨0, Nat.zero_le _, rfl, fun j hj => by omega, Below.refl _ _⟩
  case round =>
    obtain ⟨k, hk, rfl, hst, hb⟩ := hrel
    have Hst := hide hst
    have Hb := hide hb
    clear hst
    by_cases hlt : k < ps.length
    · rcases unhide Hr with h0 | ⟨b, off, rfl, hbw, hcl⟩
      · rw [h0] at hlt; simp at hlt
      have hbr : b < wr.heap.size := Nat.lt_of_lt_of_le hbw hb.size
      have hne : b ≠ wr.heap.size := Nat.ne_of_lt hbr
      obtain ⟨c0, c1⟩ := hcl k hlt
      rw [← hb.cell (p := ⟨b, off + k * 2, none⟩) hbw] at c0
      rw [← hb.cell (p := ⟨b, off + k * 2 + 1, none⟩) hbw] at c1
      generalize hp : paceAt ps k = p at c0 c1
      have Hp := hide hp
      clear hp
      obtain ⟨f, c⟩ := p
      simp only at c0 c1
      have d0 : (wr.alloc (.cells #[.int .i64 f, .int .i64 c] 126)).cell? ⟨wr.heap.size, 0, none⟩ = some (.int .i64 f) := by simp
      have d1 : (wr.alloc (.cells #[.int .i64 f, .int .i64 c] 126)).cell? ⟨wr.heap.size, 1, none⟩ = some (.int .i64 c) := by simp
      have k0 := cell_regrown d0
      have k1 := cell_regrown d1
      clear d0 d1
      cases hpb : paceB (f, c)
      · clear hcl
        go_wp2_with fail
        refine wp_region_quiet_below (by kernel_rfl) (by kernel_rfl) ?_
        repeat (go_big_quiet_step (first | exact Calls.regrown_of (isPace_any _ _ _) | exact Calls.regrown_of (isAbove_any _ _ _ _ _)))
        refine wpQuiet_nil ?_
        intro _ hw'
        obtain ⟨⟨dq, osq⟩, hw''⟩ := hw'
        subst hw''
        go_wp2_with fail
        go_ret
        exact ⟨ret_bool (pacesB_f hlt (stepB_p (unhide Hp) hpb)).symm, (unhide Hb).trans (((Below.refl _ _).alloc (unhide Hb).size _).trans ((below_regrown _ _ _).mono (by simp; have := (unhide Hb).size; omega)))⟩
      · by_cases hz : 0 < k
        · have hd : decide (0 < k) = true := decide_eq_true hz
          obtain ⟨e0, e1⟩ := hcl (k - 1) (by omega)
          rw [← hb.cell (p := ⟨b, off + (k - 1) * 2, none⟩) hbw] at e0
          rw [← hb.cell (p := ⟨b, off + (k - 1) * 2 + 1, none⟩) hbw] at e1
          generalize hq : paceAt ps (k - 1) = q at e0 e1
          have Hq := hide hq
          clear hq
          obtain ⟨f', c'⟩ := q
          simp only at e0 e1
          have m0 := cell_regrown (w := wr.alloc (.cells #[.int .i64 f, .int .i64 c] 126)) (a := ⟨b, off + (k - 1) * 2, none⟩) (v := .int .i64 f') (by rw [World.cell?_alloc_old _ _ _ hne]; exact e0)
          have m1 := cell_regrown (w := wr.alloc (.cells #[.int .i64 f, .int .i64 c] 126)) (a := ⟨b, off + (k - 1) * 2 + 1, none⟩) (v := .int .i64 c') (by rw [World.cell?_alloc_old _ _ _ hne]; exact e1)
          clear hcl e0 e1
          cases hab : aboveB (f, c) (f', c')
          all_goals
            go_wp2_with fail
            refine wp_region_quiet_below (by kernel_rfl) (by kernel_rfl) ?_
            repeat (go_big_quiet_step (first | exact Calls.regrown_of (isPace_any _ _ _) | exact Calls.regrown_of (isAbove_any _ _ _ _ _)))
            refine wpQuiet_nil ?_
            intro _ hw'
            obtain ⟨⟨dq, osq⟩, hw''⟩ := hw'
            subst hw''
            go_wp2_with fail
          · go_ret
            exact ⟨ret_bool (pacesB_f hlt (by obtain ⟨m, rfl⟩ : ∃ m, k = m + 1 := ⟨k - 1, by omega⟩; rw [stepB_s (unhide Hp) (unhide Hq) hpb]; exact hab)).symm, (unhide Hb).trans (((Below.refl _ _).alloc (unhide Hb).size _).trans ((below_regrown _ _ _).mono (by simp; have := (unhide Hb).size; omega)))⟩
          · have hs : stepB ps k = true := by obtain ⟨m, rfl⟩ : ∃ m, k = m + 1 := ⟨k - 1, by omega⟩; rw [stepB_s (unhide Hp) (unhide Hq) hpb]; exact hab
            go_roundw
            case rel => exact ⟨k + 1, by omega, by go_num, next_all (unhide Hst) hs, (unhide Hb).trans (((Below.refl _ _).alloc (unhide Hb).size _).trans ((below_regrown _ _ _).mono (by simp; have := (unhide Hb).size; omega)))⟩
            case measure => simp [intOf]; omega
        · obtain rfl : k = 0 := by omega
          simp only [Nat.zero_mul, Nat.add_zero] at c0 c1
          clear hcl hz
          go_wp2_with fail
          refine wp_region_quiet_below (by kernel_rfl) (by kernel_rfl) ?_
          repeat (go_big_quiet_step (first | exact Calls.regrown_of (isPace_any _ _ _) | exact Calls.regrown_of (isAbove_any _ _ _ _ _)))
          refine wpQuiet_nil ?_
          intro _ hw'
          obtain ⟨⟨dq, osq⟩, hw''⟩ := hw'
          subst hw''
          go_wp2_with fail
          go_roundw
          case rel => exact ⟨1, by omega, by go_num, next_all (unhide Hst) (stepB_0 (unhide Hp) hpb), (unhide Hb).trans (((Below.refl _ _).alloc (unhide Hb).size _).trans ((below_regrown _ _ _).mono (by simp; have := (unhide Hb).size; omega)))⟩
          case measure => simp [intOf]; omega
    · obtain rfl : k = ps.length := by omega
      go_wp2_with fail
      go_ret
      exact ⟨ret_bool (pacesB_t (unhide Hst)).symm, hb⟩

end Go.Proofs.YtifolooecfebfaaGreat

/- Contracts of chapter 8's functions and of their models: each returns what the plain lists say and writes into no memory that was there. Condition: the slices can be read, and what a theorem names. -/
namespace Go.Proofs.YtifolooecfebfaaGreat
open Go.ChangeShapes Go.WideShapes Go.ChangeAt Go.RowKit Go.Sort
set_option linter.unusedVariables false

theorem pairB_t {lo hi : Int} (h0 : 0 ≤ lo) (h1 : lo ≤ hi) (h2 : hi ≤ 1024) : pairB lo hi = true := by unfold pairB; rw [inB_t h0 (by omega), inB_t (by omega) h2]; simp; omega
theorem pairB_f {lo hi : Int} (h : lo < 0 ∨ hi < lo ∨ 1024 < hi) : pairB lo hi = false := by
  cases e : pairB lo hi
  · rfl
  · have := pairB_of e; omega

theorem areBounds_any (lo hi : Int) (w : World) : Calls Tryz.prog 231 #[.int .i64 lo, .int .i64 hi] w fun e w' => e = .returned (.bool (pairB lo hi)) ∧ w' = w := by
  by_cases h1 : 0 ≤ lo
  · by_cases h2 : lo ≤ hi
    · by_cases h3 : hi ≤ 1024
      all_goals
        go_enter Tryz.func231, Tryz.ntmps231
        go_wp2
        go_ret
        exact ⟨ret_bool (by first | exact (pairB_t h1 h2 h3).symm | exact (pairB_f (by omega)).symm), rfl⟩
    · go_enter Tryz.func231, Tryz.ntmps231
      go_wp2
      go_ret
      exact ⟨ret_bool (pairB_f (by omega)).symm, rfl⟩
  · go_enter Tryz.func231, Tryz.ntmps231
    go_wp2
    go_ret
    exact ⟨ret_bool (pairB_f (by omega)).symm, rfl⟩

theorem guildOk_any (a lo hi n : Int) (w : World) : Calls Tryz.prog 201 #[.agg #[.int .i64 a, .int .i64 lo, .int .i64 hi], .int .i64 n] w fun e w' => e = .returned (.bool (guildB (a, lo, hi) n)) ∧ Below w.heap.size w w' := by
  by_cases h1 : -1 ≤ a
  · by_cases h2 : a < n
    · have hg : guildB (a, lo, hi) n = pairB lo hi := by unfold guildB; rw [inB_t h1 (by omega)]; rfl
      rw [hg]; clear hg
      go_enter Tryz.func201, Tryz.ntmps201
      go_wp2_with (go_at_call 231; refine (areBounds_any _ _ _).mono ?_; rintro e w' ⟨rfl, rfl⟩)
      go_ret
      exact ⟨rfl, (Below.refl _ _).alloc (Nat.le_refl _) _⟩
    · have hg : guildB (a, lo, hi) n = false := by unfold guildB; rw [inB_f (.inr (by omega))]; rfl
      rw [hg]; clear hg
      go_enter Tryz.func201, Tryz.ntmps201
      go_wp2_with fail
      go_ret
      exact ⟨rfl, (Below.refl _ _).alloc (Nat.le_refl _) _⟩
  · have hg : guildB (a, lo, hi) n = false := by unfold guildB; rw [inB_f (.inl (by omega))]; rfl
    rw [hg]; clear hg
    go_enter Tryz.func201, Tryz.ntmps201
    go_wp2_with fail
    go_ret
    exact ⟨rfl, (Below.refl _ _).alloc (Nat.le_refl _) _⟩

set_option maxHeartbeats 2000000 in
theorem implGuildsOk_any {w : World} {v : Value} {ps : List GuildV} (h : IsGuilds w v ps) :
    Calls Tryz.prog 164 #[v] w fun e w' => e = .returned (.bool (guildsB ps)) ∧ Below w.heap.size w w' := by
  obtain ⟨a, cap, rfl, hc, hm, hr⟩ := h
  have Hr := hide hr
  clear hr
  by_cases hbig : 6 < ps.length
  · go_enter Tryz.func164, Tryz.ntmps164
    go_wp2_with fail
    go_ret
    exact ⟨ret_bool (guildsB_long hbig).symm, Below.refl _ _⟩
  go_enter Tryz.func164, Tryz.ntmps164
  go_wp2_with fail
  go_loopw [10] (fun i wr => ∃ k : Nat, k ≤ ps.length ∧ i = .int .i64 k ∧ upToB ps k = true ∧ Below w.heap.size w wr) (fun i _ => ps.length - (intOf i).toNat)
  case atStart => exact ⟨0, Nat.zero_le _, rfl, rfl, Below.refl _ _⟩
  case round =>
    obtain ⟨k, hk, rfl, hst, hb⟩ := hrel
    have Hst := hide hst
    have Hb := hide hb
    clear hst
    by_cases hlt : k < ps.length
    · rcases unhide Hr with h0 | ⟨b, off, rfl, hbw, hcl⟩
      · rw [h0] at hlt; simp at hlt
      have hbr : b < wr.heap.size := Nat.lt_of_lt_of_le hbw hb.size
      obtain ⟨c0, c1, c2⟩ := guild_cells hcl hlt
      rw [← hb.cell (p := ⟨b, off + k * 3, none⟩) hbw] at c0
      rw [← hb.cell (p := ⟨b, off + k * 3 + 1, none⟩) hbw] at c1
      rw [← hb.cell (p := ⟨b, off + k * 3 + 2, none⟩) hbw] at c2
      generalize hp : recAt ps k = p at c0 c1 c2
      have Hp := hide hp
      clear hp
      obtain ⟨x0, x1, x2⟩ := p
      simp only at c0 c1 c2
      have hsz := hb.size
      clear hcl hb
      go_wp2_with fail
      refine (guildOk_any _ _ _ _ _).mono ?_
      rintro e w1 ⟨rfl, hb1⟩
      have Hb1 := hide ((unhide Hb).trans (((Below.refl _ _).alloc hsz _).trans (hb1.mono (by simp; omega))))
      clear hb1
      cases hg : guildB (x0, x1, x2) k
      · go_wp2_with fail
        go_ret
        exact ⟨ret_bool (guildsB_f hlt (by rw [unhide Hp]; exact hg)).symm, unhide Hb1⟩
      · go_wp2_with fail
        go_roundw
        case rel => exact ⟨k + 1, by omega, by go_num, by rw [upToB_succ, unhide Hst, unhide Hp, hg]; rfl, unhide Hb1⟩
        case measure => simp [intOf]; omega
    · obtain rfl : k = ps.length := by omega
      go_wp2_with fail
      go_ret
      exact ⟨ret_bool (by unfold guildsB; rw [unhide Hst]; simp; omega), hb⟩

theorem narrowed_any (a lo hi l h : Int) (w : World) : Calls Tryz.prog 229 #[.agg #[.int .i64 a, .int .i64 lo, .int .i64 hi], .int .i64 l, .int .i64 h] w
    fun e w' => e = .returned (.tuple #[.int .i64 (narV (lo, hi) l h).1, .int .i64 (narV (lo, hi) l h).2]) ∧ Below w.heap.size w w' := by
  unfold narV
  go_enter Tryz.func229, Tryz.ntmps229
  go_wp2_with (go_at_call 188; refine (implClamped_any _ _ _ _).mono ?_; rintro e w' ⟨rfl, rfl⟩)
  go_ret2
  exact ⟨rfl, (Below.refl _ _).alloc (Nat.le_refl _) _⟩

set_option maxHeartbeats 1000000 in
theorem settled_any (a lo hi a' l h : Int) (w : World) : Calls Tryz.prog 260 #[.agg #[.int .i64 a, .int .i64 lo, .int .i64 hi, .int .i64 a', .int .i64 l, .int .i64 h]] w
    fun e w' => e = .returned (.agg #[.int .i64 a', .int .i64 (narV (lo, hi) l h).1, .int .i64 (narV (lo, hi) l h).2]) ∧ Below w.heap.size w w' := by
  go_enter Tryz.func260, Tryz.ntmps260
  go_wp2_with fail
  refine (narrowed_any _ _ _ _ _ _).mono ?_
  rintro e w1 ⟨rfl, hb1⟩
  have hz : w.heap.size + 1 < w1.heap.size := by have := hb1.size; simp at this; omega
  have Hb1 := hide hb1
  obtain ⟨hc, hf⟩ := bcell hb1
  clear hb1
  go_wp2_with fail
  exact bodyPost_ret (v := .agg #[.int .i64 a', .int .i64 (narV (lo, hi) l h).1, .int .i64 (narV (lo, hi) l h).2]) (by simp [results, Tryz.results260, go_sem, hc]) rfl
    ⟨rfl, ((((((Below.refl _ _).alloc (Nat.le_refl _) _).alloc (by simp) _).trans ((unhide Hb1).mono (by simp; omega))).setCell (by simp) _).setCell (by simp) _).setCell (by simp) _⟩

set_option maxRecDepth 100000 in
set_option maxHeartbeats 4000000 in
theorem settledAt_any {ps : List GuildV} (hg : guildsB ps = true) : ∀ (n : Nat) (g : Int) {w : World} {v : Value}, IsGuilds w v ps → -1 ≤ g → g < n → g < ps.length →
    Calls Tryz.prog 228 #[v, .int .i64 g] w fun e w' => ∃ x, e = .returned (.agg #[.int .i64 x, .int .i64 (bnd ps g).1, .int .i64 (bnd ps g).2]) ∧ Below w.heap.size w w' := by
  intro n
  induction n with
  | zero =>
    intro g w v h h0 h1 h2
    obtain rfl : g = -1 := by omega
    rw [bnd_none ps (by omega)]
    obtain ⟨a, cap, rfl, _⟩ := h
    go_enter Tryz.func228, Tryz.ntmps228
    go_wp2_with fail
    exact bodyPost_ret (v := .agg #[.int .i64 (-1), .int .i64 0, .int .i64 1024]) (by simp [results, Tryz.results228, go_sem]) rfl ⟨-1, rfl, (Below.refl _ _).alloc (Nat.le_refl _) _⟩
  | succ n ih =>
    intro g w v h h0 h1 h2
    by_cases hg0 : g = -1
    · subst hg0
      rw [bnd_none ps (by omega)]
      obtain ⟨a, cap, rfl, _⟩ := h
      go_enter Tryz.func228, Tryz.ntmps228
      go_wp2_with fail
      exact bodyPost_ret (v := .agg #[.int .i64 (-1), .int .i64 0, .int .i64 1024]) (by simp [results, Tryz.results228, go_sem]) rfl ⟨-1, rfl, (Below.refl _ _).alloc (Nat.le_refl _) _⟩
    · obtain ⟨k, rfl⟩ : ∃ k : Nat, g = k := ⟨g.toNat, by omega⟩
      have hlt : k < ps.length := by omega
      obtain ⟨a0, a1, _⟩ := guildsB_at hg (g := (k : Int)) (by omega) h2
      have hs := bnd_step hg (g := (k : Int)) (by omega) h2
      rw [show ((k : Int)).toNat = k by omega] at a0 a1 hs
      rw [hs]
      clear hs
      have Hi := hide h
      obtain ⟨a, cap, rfl, hc, hm, hr⟩ := h
      rcases hr with hz | ⟨b, off, rfl, hbw, hcl⟩
      · rw [hz] at hlt; simp at hlt
      obtain ⟨c0, c1, c2⟩ := guild_cells hcl hlt
      clear hcl
      generalize hW : w.alloc (.cells #[.int .i64 0, .int .i64 0, .int .i64 0] 76) = W
      have HB : Hid (Below w.heap.size w W) := hide (by rw [← hW]; exact (Below.refl _ _).alloc (Nat.le_refl _) _)
      have hsz : w.heap.size < W.heap.size := by rw [← hW]; simp
      have hbW : b < W.heap.size := by omega
      rw [← (unhide HB).cell (p := ⟨b, off + k * 3, none⟩) hbw] at c0
      rw [← (unhide HB).cell (p := ⟨b, off + k * 3 + 1, none⟩) hbw] at c1
      rw [← (unhide HB).cell (p := ⟨b, off + k * 3 + 2, none⟩) hbw] at c2
      have D : Hid ((∃ u, W.cell? ⟨w.heap.size, 0, none⟩ = some u) ∧ (∃ u, W.cell? ⟨w.heap.size, 1, none⟩ = some u) ∧ (∃ u, W.cell? ⟨w.heap.size, 2, none⟩ = some u) ∧ W.frozen? ⟨w.heap.size, 0, none⟩ = false ∧ W.frozen? ⟨w.heap.size, 1, none⟩ = false ∧ W.frozen? ⟨w.heap.size, 2, none⟩ = false) :=
        hide (by rw [← hW]; exact ⟨⟨_, by simp; rfl⟩, ⟨_, by simp; rfl⟩, ⟨_, by simp; rfl⟩, by simp, by simp, by simp⟩)
      have HW := hide hW
      clear hW
      have Hc := hide (And.intro c0 (And.intro c1 c2))
      generalize hp : recAt ps k = p at *
      obtain ⟨x0, x1, x2⟩ := p
      simp only at c0 c1 c2 a0 a1
      have ih' := fun (w : World) (v : Value) (h : IsGuilds w v ps) => ih x0 h a0 (by omega) (by omega)
      have Ih := hide ih'
      clear ih ih' hp
      go_enter Tryz.func228, Tryz.ntmps228
      go_wp2_with fail
      rw [unhide HW]
      go_region_with (first
        | (go_at_call 228; refine (unhide Ih _ _ ?_).mono ?_; (first | exact (unhide Hi).below (unhide HB) | exact ((unhide Hi).below (unhide HB)).below ((Below.refl _ _).drew)); rintro e w1 ⟨y, rfl, hb1⟩; have B1 : Hid (Below W.heap.size W w1) := hide (by first | exact hb1 | exact ((Below.refl _ _).drew).trans (hb1.mono (by simp))); have e0 := ((unhide B1).cell (p := ⟨b, off + k * 3, none⟩) hbW).trans (unhide Hc).1; have e1 := ((unhide B1).cell (p := ⟨b, off + k * 3 + 1, none⟩) hbW).trans (unhide Hc).2.1; have e2 := ((unhide B1).cell (p := ⟨b, off + k * 3 + 2, none⟩) hbW).trans (unhide Hc).2.2; clear hb1)
        | (go_at_call 260; refine (settled_any _ _ _ _ _ _ _).mono ?_; rintro e w2 ⟨rfl, hb2⟩; have B2 : Hid (Below W.heap.size W w2) := hide ((unhide B1).trans (hb2.mono (unhide B1).size)); obtain ⟨⟨u0, q0⟩, ⟨u1, q1⟩, ⟨u2, q2⟩, f0, f1, f2⟩ := unhide D; have d0 := ((unhide B2).cell (p := ⟨w.heap.size, 0, none⟩) hsz).trans q0; have d1 := ((unhide B2).cell (p := ⟨w.heap.size, 1, none⟩) hsz).trans q1; have d2 := ((unhide B2).cell (p := ⟨w.heap.size, 2, none⟩) hsz).trans q2; have z0 := ((unhide B2).frozen (p := ⟨w.heap.size, 0, none⟩) hsz).trans f0; have z1 := ((unhide B2).frozen (p := ⟨w.heap.size, 1, none⟩) hsz).trans f1; have z2 := ((unhide B2).frozen (p := ⟨w.heap.size, 2, none⟩) hsz).trans f2; clear hb2 q0 q1 q2 f0 f1 f2))
      all_goals
        go_wp2_with fail
        exact bodyPost_ret (v := .agg #[.int .i64 x0, .int .i64 (narV (bnd ps x0) x1 x2).1, .int .i64 (narV (bnd ps x0) x1 x2).2]) (by simp [results, Tryz.results228, go_sem, d0, d1, d2]) rfl
          ⟨x0, rfl, ((((unhide HB).trans ((unhide B2).mono (by omega))).setCell (Nat.le_refl _) _).setCell (Nat.le_refl _) _).setCell (Nat.le_refl _) _⟩

set_option maxHeartbeats 2000000 in
theorem implWithin_any {w : World} {v : Value} {ps : List GuildV} (g lo hi : Int) (h : IsGuilds w v ps) :
    Calls Tryz.prog 197 #[v, .int .i64 g, .int .i64 lo, .int .i64 hi] w fun e w' => e = .returned (.tuple #[.int .i64 (withinV ps g lo hi).1, .int .i64 (withinV ps g lo hi).2]) ∧ Below w.heap.size w w' := by
  have Hi := hide h
  obtain ⟨a, cap, rfl, hc, hm, hr⟩ := h
  clear hr
  generalize hW : w.alloc (.cells #[.int .i64 g, .int .i64 lo, .int .i64 hi] 76) = W
  have HB : Hid (Below w.heap.size w W) := hide (by rw [← hW]; exact (Below.refl _ _).alloc (Nat.le_refl _) _)
  have hsz : w.heap.size < W.heap.size := by rw [← hW]; simp
  have D : Hid (W.cell? ⟨w.heap.size, 0, none⟩ = some (.int .i64 g) ∧ W.cell? ⟨w.heap.size, 1, none⟩ = some (.int .i64 lo) ∧ W.cell? ⟨w.heap.size, 2, none⟩ = some (.int .i64 hi)) := hide (by rw [← hW]; simp)
  have HW := hide hW
  clear hW
  have hsv : (guildsB ps && guildB (g, lo, hi) ps.length) = (isB ps g && pairB lo hi) := by unfold guildB isB; rw [Bool.and_assoc]
  cases hG : guildsB ps
  · rw [withinV_f (by rw [← hsv, hG]; rfl)]
    clear hsv
    go_enter Tryz.func197, Tryz.ntmps197
    go_wp2_with fail
    rw [unhide HW]
    refine (implGuildsOk_any ((unhide Hi).below (unhide HB))).mono ?_
    rw [hG]
    rintro e w1 ⟨rfl, hb1⟩
    have B1 := hide ((unhide HB).trans (hb1.mono (by omega)))
    clear hb1
    go_wp2_with fail
    go_ret2
    exact ⟨rfl, unhide B1⟩
  · cases hQ : guildB (g, lo, hi) ps.length
    · rw [withinV_f (by rw [← hsv, hG, hQ]; rfl)]
      clear hsv
      go_enter Tryz.func197, Tryz.ntmps197
      go_wp2_with fail
      rw [unhide HW]
      refine (implGuildsOk_any ((unhide Hi).below (unhide HB))).mono ?_
      rw [hG]
      rintro e w1 ⟨rfl, hb1⟩
      have d0 := (hb1.cell (p := ⟨w.heap.size, 0, none⟩) hsz).trans (unhide D).1
      have d1 := (hb1.cell (p := ⟨w.heap.size, 1, none⟩) hsz).trans (unhide D).2.1
      have d2 := (hb1.cell (p := ⟨w.heap.size, 2, none⟩) hsz).trans (unhide D).2.2
      have B1 := hide ((unhide HB).trans (hb1.mono (by omega)))
      clear hb1
      go_wp2_with fail
      refine (guildOk_any _ _ _ _ _).mono ?_
      rw [hQ]
      rintro e w2 ⟨rfl, hb2⟩
      have B2 := hide ((unhide B1).trans (hb2.mono (unhide B1).size))
      clear hb2
      go_wp2_with fail
      go_ret2
      exact ⟨rfl, unhide B2⟩
    · obtain ⟨g0, g1, g2⟩ := guildB_of hQ
      have hisB : isB ps g = true := by unfold isB; rw [hG, inB_t g0 (by simpa using g1)]; rfl
      rw [withinV_t hisB g2]
      clear hsv hisB
      have hlt : g < ps.length := by simp only at g1; omega
      simp only at g0
      go_enter Tryz.func197, Tryz.ntmps197
      go_wp2_with fail
      rw [unhide HW]
      refine (implGuildsOk_any ((unhide Hi).below (unhide HB))).mono ?_
      rw [hG]
      rintro e w1 ⟨rfl, hb1⟩
      have d0 := (hb1.cell (p := ⟨w.heap.size, 0, none⟩) hsz).trans (unhide D).1
      have d1 := (hb1.cell (p := ⟨w.heap.size, 1, none⟩) hsz).trans (unhide D).2.1
      have d2 := (hb1.cell (p := ⟨w.heap.size, 2, none⟩) hsz).trans (unhide D).2.2
      have B1 := hide ((unhide HB).trans (hb1.mono (by omega)))
      clear hb1
      go_wp2_with fail
      refine (guildOk_any _ _ _ _ _).mono ?_
      rw [hQ]
      rintro e w2 ⟨rfl, hb2⟩
      have B2 := hide ((unhide B1).trans (hb2.mono (unhide B1).size))
      clear hb2
      go_wp2_with fail
      refine (settledAt_any hG (g + 1).toNat g ((unhide Hi).below (unhide B2)) g0 (by omega) hlt).mono ?_
      rintro e w3 ⟨x, rfl, hb3⟩
      have B3 := hide ((unhide B2).trans (hb3.mono (unhide B2).size))
      clear hb3
      go_wp2_with fail
      refine (narrowed_any _ _ _ _ _ _).mono ?_
      rintro e w4 ⟨rfl, hb4⟩
      have B4 := hide ((unhide B3).trans (hb4.mono (unhide B3).size))
      clear hb4
      go_wp2_with fail
      go_ret2
      exact ⟨rfl, unhide B4⟩

end Go.Proofs.YtifolooecfebfaaGreat

/- Heaps and queues of pairs of numbers, as lists: the order, what a heap is and how it is mended, what queues are, how one is put in and taken out. Nothing of the program. -/
namespace Go.Proofs.YtifolooecfebfaaGreat
set_option linter.unusedVariables false

/-! ### The order of entries -/
/-- By Had, then by Who. -/
def ltB (a b : PaceV) : Bool := decide (a.1 < b.1 ∨ (a.1 = b.1 ∧ a.2 < b.2))
theorem ltB_t {a b : PaceV} : ltB a b = true ↔ (a.1 < b.1 ∨ (a.1 = b.1 ∧ a.2 < b.2)) := by unfold ltB; exact decide_eq_true_iff
theorem ltB_f {a b : PaceV} : ltB a b = false ↔ ¬ (a.1 < b.1 ∨ (a.1 = b.1 ∧ a.2 < b.2)) := by unfold ltB; exact decide_eq_false_iff_not
theorem ltB_self (a : PaceV) : ltB a a = false := by rw [ltB_f]; omega
theorem ltB_not {a b : PaceV} (h : ltB a b = true) : ltB b a = false := by rw [ltB_t] at h; rw [ltB_f]; omega
theorem ltB_le {a b c : PaceV} (h : ltB b a = false) (k : ltB c b = false) : ltB c a = false := by rw [ltB_f] at *; omega
theorem ltB_lt {a b c : PaceV} (h : ltB a b = true) (k : ltB b c = true) : ltB a c = true := by rw [ltB_t] at *; omega
theorem ltB_eq {a b : PaceV} (h : ltB b a = false) (k : ltB a b = false) : a = b := by
  rw [ltB_f] at *; obtain ⟨a1, a2⟩ := a; obtain ⟨b1, b2⟩ := b; simp only at h k; rw [show a1 = b1 by omega, show a2 = b2 by omega]

/-! ### Two change places -/
def swp (ps : List PaceV) (i j : Nat) : List PaceV := (ps.set i (paceAt ps j)).set j (paceAt ps i)
theorem swp_len (ps : List PaceV) (i j : Nat) : (swp ps i j).length = ps.length := by simp [swp]
theorem paceAt_set {ps : List PaceV} {i : Nat} {x : PaceV} (h : i < ps.length) (k : Nat) : paceAt (ps.set i x) k = if k = i then x else paceAt ps k := by
  unfold paceAt
  by_cases e : k = i
  · subst e; simp [List.getD, h]
  · rw [if_neg e]; simp [List.getD, Ne.symm e]
theorem swp_at {ps : List PaceV} {i j : Nat} (hi : i < ps.length) (hj : j < ps.length) (k : Nat) : paceAt (swp ps i j) k = if k = j then paceAt ps i else if k = i then paceAt ps j else paceAt ps k := by
  unfold swp
  rw [paceAt_set (by simpa using hj), paceAt_set hi]
theorem swp_perm {ps : List PaceV} {i j : Nat} (hi : i < ps.length) (hj : j < ps.length) : (swp ps i j).Perm ps := by
  have := List.set_set_perm hi hj
  unfold swp paceAt
  simpa [List.getD, hi, hj] using this

/-! ### Heaps -/
def HeapTo (ps : List PaceV) (n : Nat) : Prop := ∀ k, 0 < k → k < n → ltB (paceAt ps k) (paceAt ps ((k - 1) / 2)) = false
/-- A heap, but for j, which may be less than what is above it. -/
def UpTo (ps : List PaceV) (n j : Nat) : Prop :=
  (∀ k, 0 < k → k < n → k ≠ j → ltB (paceAt ps k) (paceAt ps ((k - 1) / 2)) = false) ∧
  (∀ k, 0 < k → k < n → (k - 1) / 2 = j → 0 < j → ltB (paceAt ps k) (paceAt ps ((j - 1) / 2)) = false)
/-- A heap, but for i, which may be greater than what is below it (and, where it has not been moved from i0, less than what is above it). -/
def DnTo (ps : List PaceV) (n i0 i : Nat) : Prop :=
  (∀ k, 0 < k → k < n → (k - 1) / 2 ≠ i → (k ≠ i0 ∨ i ≠ i0) → ltB (paceAt ps k) (paceAt ps ((k - 1) / 2)) = false) ∧
  (∀ k, 0 < k → k < n → (k - 1) / 2 = i → 0 < i → ltB (paceAt ps k) (paceAt ps ((i - 1) / 2)) = false)

theorem UpTo.done {ps : List PaceV} {n j : Nat} (h : UpTo ps n j) (hd : j = 0 ∨ ltB (paceAt ps j) (paceAt ps ((j - 1) / 2)) = false) : HeapTo ps n := fun k h0 hn => by
  by_cases e : k = j
  · subst e
    rcases hd with hd | hd
    · omega
    · exact hd
  · exact h.1 k h0 hn e
theorem UpTo.step {ps : List PaceV} {n j : Nat} (h : UpTo ps n j) (hj0 : 0 < j) (hj : j < n) (hn : n ≤ ps.length) (hl : ltB (paceAt ps j) (paceAt ps ((j - 1) / 2)) = true) : UpTo (swp ps ((j - 1) / 2) j) n ((j - 1) / 2) := by
  have hi : (j - 1) / 2 < j := by omega
  have at' := fun k => swp_at (ps := ps) (i := (j - 1) / 2) (j := j) (by omega) (by omega) k
  generalize hi' : (j - 1) / 2 = i at *
  have hp : ltB (paceAt ps i) (paceAt ps j) = false := ltB_not hl
  refine ⟨fun k k0 kn kne => ?_, fun k k0 kn kp i0 => ?_⟩
  · rw [at' k, at' ((k - 1) / 2)]
    by_cases e1 : k = j
    · subst e1
      rw [if_pos rfl, hi', if_neg (by omega), if_pos rfl]
      exact hp
    · rw [if_neg e1, if_neg kne]
      by_cases e2 : (k - 1) / 2 = j
      · rw [if_pos e2]
        have := h.2 k k0 kn e2 hj0
        rwa [hi'] at this
      · rw [if_neg e2]
        by_cases e3 : (k - 1) / 2 = i
        · rw [if_pos e3]
          have := h.1 k k0 kn e1
          rw [e3] at this
          exact ltB_le hp this
        · rw [if_neg e3]
          exact h.1 k k0 kn e1
  · rw [at' k, at' ((i - 1) / 2), if_neg (by omega : (i - 1) / 2 ≠ j), if_neg (by omega : (i - 1) / 2 ≠ i)]
    by_cases e1 : k = j
    · rw [if_pos e1]
      exact h.1 i i0 (by omega) (by omega)
    · rw [if_neg e1, if_neg (by omega)]
      have h1 := h.1 k k0 kn e1
      rw [kp] at h1
      exact ltB_le (h.1 i i0 (by omega) (by omega)) h1

theorem DnTo.still {ps : List PaceV} {n i : Nat} (h : DnTo ps n i i) (hd : ∀ k, 0 < k → k < n → (k - 1) / 2 = i → ltB (paceAt ps k) (paceAt ps i) = false) : UpTo ps n i :=
  ⟨fun k k0 kn kne => by
    by_cases e : (k - 1) / 2 = i
    · rw [e]; exact hd k k0 kn e
    · exact h.1 k k0 kn e (.inl kne), h.2⟩
theorem DnTo.moved {ps : List PaceV} {n i0 i : Nat} (h : DnTo ps n i0 i) (hm : i ≠ i0) (hd : ∀ k, 0 < k → k < n → (k - 1) / 2 = i → ltB (paceAt ps k) (paceAt ps i) = false) : HeapTo ps n := fun k k0 kn => by
  by_cases e : (k - 1) / 2 = i
  · rw [e]; exact hd k k0 kn e
  · exact h.1 k k0 kn e (.inr hm)
theorem DnTo.step {ps : List PaceV} {n i0 i j : Nat} (h : DnTo ps n i0 i) (hi0 : i0 ≤ i) (hj0 : 0 < j) (hji : (j - 1) / 2 = i) (hj : j < n) (hn : n ≤ ps.length) (hl : ltB (paceAt ps j) (paceAt ps i) = true)
    (hm : ∀ k, 0 < k → k < n → (k - 1) / 2 = i → ltB (paceAt ps k) (paceAt ps j) = false) : DnTo (swp ps i j) n i0 j := by
  have at' := fun k => swp_at (ps := ps) (i := i) (j := j) (by omega) (by omega) k
  have hp : ltB (paceAt ps i) (paceAt ps j) = false := ltB_not hl
  refine ⟨fun k k0 kn kne _ => ?_, fun k k0 kn kp _ => ?_⟩
  · rw [at' k, at' ((k - 1) / 2), if_neg kne]
    by_cases e1 : k = j
    · subst e1
      rw [if_pos rfl, if_pos hji]
      exact hp
    · rw [if_neg e1]
      by_cases e2 : k = i
      · subst e2
        rw [if_pos rfl, if_neg (by omega)]
        exact h.2 j hj0 hj hji k0
      · rw [if_neg e2]
        by_cases e3 : (k - 1) / 2 = i
        · rw [if_pos e3]
          exact hm k k0 kn e3
        · rw [if_neg e3]
          exact h.1 k k0 kn e3 (by omega)
  · rw [at' k, at' ((j - 1) / 2), hji, if_neg (by omega : k ≠ j), if_neg (by omega : k ≠ i), if_neg (by omega : i ≠ j), if_pos rfl]
    have := h.1 k k0 kn (by omega) (by omega)
    rwa [kp] at this

theorem HeapTo.least {ps : List PaceV} {n : Nat} (h : HeapTo ps n) : ∀ k, k < n → ltB (paceAt ps k) (paceAt ps 0) = false := by
  intro k
  induction k using Nat.strongRecOn with
  | ind k ih =>
    intro hk
    by_cases e : k = 0
    · subst e; exact ltB_self _
    · exact ltB_le (ih ((k - 1) / 2) (by omega) (by omega)) (h k (by omega) hk)
theorem paceAt_append {ps qs : List PaceV} {k : Nat} (h : k < ps.length) : paceAt (ps ++ qs) k = paceAt ps k := by unfold paceAt; simp [List.getD, List.getElem?_append_left h]
theorem paceAt_take {ps : List PaceV} {n k : Nat} (h : k < n) : paceAt (ps.take n) k = paceAt ps k := by unfold paceAt; simp [List.getD, h]
/-- What is put behind a heap. -/
theorem HeapTo.push {ps : List PaceV} (e : PaceV) (h : HeapTo ps ps.length) : UpTo (ps ++ [e]) (ps.length + 1) ps.length :=
  ⟨fun k k0 kn kne => by rw [paceAt_append (by omega), paceAt_append (by omega)]; exact h k k0 (by omega), fun k k0 kn kp h0 => by omega⟩
/-- The last one in i's place: the first n are a heap but for i. -/
theorem HeapTo.swap {ps : List PaceV} {n i : Nat} (h : HeapTo ps (n + 1)) (hl : ps.length = n + 1) (hi : i < n) : DnTo (swp ps i n) n i i := by
  have at' := fun k => swp_at (ps := ps) (i := i) (j := n) (by omega) (by omega) k
  refine ⟨fun k k0 kn kne kd => ?_, fun k k0 kn kp i0 => ?_⟩
  · rw [at' k, at' ((k - 1) / 2), if_neg (by omega), if_neg (by omega), if_neg (by omega), if_neg kne]
    exact h k k0 (by omega)
  · rw [at' k, at' ((i - 1) / 2), if_neg (by omega), if_neg (by omega), if_neg (by omega), if_neg (by omega)]
    have h1 := h k k0 (by omega)
    rw [kp] at h1
    exact ltB_le (h i i0 (by omega)) h1

/-! ### Rising lists -/
/-- Nothing is less than what stands ahead of it. -/
abbrev Ris (ps : List PaceV) : Prop := ps.Pairwise fun a b => ltB b a = false
theorem ris_eq {ps qs : List PaceV} (h : Ris ps) (k : Ris qs) (hp : ps.Perm qs) : ps = qs :=
  hp.eq_of_pairwise (le := fun a b => ltB b a = false) (fun _ _ _ _ h1 h2 => ltB_eq h1 h2) h k
theorem ris_heap {ps : List PaceV} (h : Ris ps) : HeapTo ps ps.length := fun k k0 kn => by
  have hk : (k - 1) / 2 < k := by omega
  have := List.pairwise_iff_getElem.1 h ((k - 1) / 2) k (by omega) kn hk
  unfold paceAt
  simpa [List.getD, kn, (by omega : (k - 1) / 2 < ps.length)] using this
theorem ris_snoc {ps : List PaceV} {x : PaceV} (h : Ris ps) (hx : ∀ y ∈ ps, ltB x y = false) : Ris (ps ++ [x]) := by
  unfold Ris; rw [List.pairwise_append]
  exact ⟨h, by simp, fun a ha b hb => by obtain rfl : b = x := by simpa using hb
                                         exact hx a ha⟩
theorem take_snoc_last {ps : List PaceV} {n : Nat} (h : ps.length = n + 1) : ps.take n ++ [paceAt ps n] = ps := by
  have e : paceAt ps n = ps[n] := by unfold paceAt; simp [List.getD, h]
  rw [e, ← List.take_succ_eq_append_getElem (by omega), List.take_of_length_le (by omega)]
theorem paceAt_mem {ps : List PaceV} {k : Nat} (h : k < ps.length) : paceAt ps k ∈ ps := by unfold paceAt; simp [List.getD, h]
theorem mem_paceAt {ps : List PaceV} {x : PaceV} (h : x ∈ ps) : ∃ k, k < ps.length ∧ paceAt ps k = x := by
  obtain ⟨k, hk, rfl⟩ := List.getElem_of_mem h
  exact ⟨k, hk, by unfold paceAt; simp [List.getD, hk]⟩
/-! ### Queues -/
def entB (p : PaceV) : Bool := inB p.1 (-1000000000000) 1000000000000 && inB p.2 0 99
/-- The first place of who; -1 where there is none. -/
def findV (ps : List PaceV) (who : Int) : Int := match ps.findIdx? (fun p => p.2 == who) with
  | some k => k
  | none => -1
def stepQ (ps : List PaceV) (k : Nat) : Bool := entB (paceAt ps k) && ((k == 0 || ltB (paceAt ps (k - 1)) (paceAt ps k)) && decide (findV (ps.take k) (paceAt ps k).2 < 0))
def queueB (ps : List PaceV) : Bool := decide (ps.length ≤ 100) && (List.range ps.length).all (stepQ ps)
/-- How many are less, ahead of the first that isn't. -/
def lessN (e : PaceV) : List PaceV → Nat
  | [] => 0
  | p :: ps => if ltB p e then lessN e ps + 1 else 0
def putV (ps : List PaceV) (e : PaceV) : List PaceV := ps.take (lessN e ps) ++ e :: ps.drop (lessN e ps)
def queuedV (ps : List PaceV) (e : PaceV) : List PaceV × Bool := if queueB ps then if queueB (putV ps e) then (putV ps e, true) else (ps, false) else ([], false)
def firstV (ps : List PaceV) : PaceV × Bool := if queueB ps && decide (0 < ps.length) then (paceAt ps 0, true) else ((0, 0), false)

theorem findV_none {ps : List PaceV} {who : Int} (h : ∀ j, j < ps.length → (paceAt ps j).2 ≠ who) : findV ps who = -1 := by
  unfold findV
  rw [List.findIdx?_eq_none_iff.2]
  intro p hp
  obtain ⟨k, hk, rfl⟩ := mem_paceAt hp
  simpa using h k hk
theorem findV_some {ps : List PaceV} {who : Int} {k : Nat} (hk : k < ps.length) (h : (paceAt ps k).2 = who) (hn : ∀ j, j < k → (paceAt ps j).2 ≠ who) : findV ps who = k := by
  have e : ∀ j (hj : j < ps.length), paceAt ps j = ps[j] := fun j hj => by unfold paceAt; simp [List.getD, hj]
  unfold findV
  rw [List.findIdx?_eq_some_iff_getElem.2 ⟨hk, by rw [← e k hk]; simpa using h, fun j hj => by rw [← e j (by omega)]; simpa using hn j hj⟩]
theorem findV_cases (ps : List PaceV) (who : Int) : (findV ps who = -1 ∧ ∀ j, j < ps.length → (paceAt ps j).2 ≠ who) ∨ ∃ k : Nat, findV ps who = k ∧ k < ps.length ∧ (paceAt ps k).2 = who ∧ ∀ j, j < k → (paceAt ps j).2 ≠ who := by
  have e : ∀ j (hj : j < ps.length), paceAt ps j = ps[j] := fun j hj => by unfold paceAt; simp [List.getD, hj]
  cases hf : ps.findIdx? (fun p => p.2 == who) with
  | none =>
    left
    refine ⟨by unfold findV; rw [hf], fun j hj => ?_⟩
    have := List.findIdx?_eq_none_iff.1 hf _ (paceAt_mem hj)
    simpa using this
  | some k =>
    right
    obtain ⟨hk, h1, h2⟩ := List.findIdx?_eq_some_iff_getElem.1 hf
    refine ⟨k, by unfold findV; rw [hf], hk, by rw [e k hk]; simpa using h1, fun j hj => ?_⟩
    have := h2 j hj
    rw [e j (by omega)]; simpa using this
theorem findV_bd (ps : List PaceV) (who : Int) : -1 ≤ findV ps who ∧ findV ps who < ps.length := by
  rcases findV_cases ps who with ⟨h, _⟩ | ⟨k, h, hk, _⟩ <;> omega

theorem queueB_t {ps : List PaceV} (hl : ps.length ≤ 100) (h : ∀ j, j < ps.length → stepQ ps j = true) : queueB ps = true := by
  unfold queueB; simp only [Bool.and_eq_true, decide_eq_true_eq, List.all_eq_true]; exact ⟨hl, fun j hj => h j (List.mem_range.1 hj)⟩
theorem queueB_f {ps : List PaceV} {j : Nat} (hj : j < ps.length) (h : stepQ ps j = false) : queueB ps = false := by
  unfold queueB; rw [Bool.and_eq_false_iff]; right; rw [List.all_eq_false]; exact ⟨j, List.mem_range.2 hj, by simp [h]⟩
theorem queueB_big {ps : List PaceV} (hl : 100 < ps.length) : queueB ps = false := by
  unfold queueB; rw [Bool.and_eq_false_iff]; left; exact decide_eq_false (by omega)
theorem queueB_of {ps : List PaceV} (h : queueB ps = true) : ps.length ≤ 100 ∧ ∀ j, j < ps.length → stepQ ps j = true := by
  unfold queueB at h; simp only [Bool.and_eq_true, decide_eq_true_eq, List.all_eq_true] at h; exact ⟨h.1, fun j hj => h.2 j (List.mem_range.2 hj)⟩
theorem stepQ_of {ps : List PaceV} {k : Nat} (h : stepQ ps k = true) : entB (paceAt ps k) = true ∧ (0 < k → ltB (paceAt ps (k - 1)) (paceAt ps k) = true) ∧ findV (ps.take k) (paceAt ps k).2 < 0 := by
  unfold stepQ at h; simp only [Bool.and_eq_true, Bool.or_eq_true, decide_eq_true_eq, beq_iff_eq] at h
  exact ⟨h.1, fun h0 => by rcases h.2.1 with e | e; · omega
                           · exact e, h.2.2⟩
/-- What a queue is, without places. -/
structure IsQ (ps : List PaceV) : Prop where
  len : ps.length ≤ 100
  ent : ∀ p ∈ ps, entB p = true
  ord : ps.Pairwise fun a b => ltB a b = true
  who : ps.Pairwise fun a b => a.2 ≠ b.2
theorem ord_of {ps : List PaceV} (h : ∀ k, 0 < k → k < ps.length → ltB (paceAt ps (k - 1)) (paceAt ps k) = true) : ∀ i j, i < j → j < ps.length → ltB (paceAt ps i) (paceAt ps j) = true := by
  intro i j
  induction j with
  | zero => intro h; omega
  | succ j ih =>
    intro hij hj
    have h1 := h (j + 1) (by omega) hj
    by_cases e : i = j
    · subst e; simpa using h1
    · exact ltB_lt (ih (by omega) (by omega)) (by simpa using h1)
theorem isQ_of {ps : List PaceV} (h : queueB ps = true) : IsQ ps := by
  obtain ⟨hl, hs⟩ := queueB_of h
  have e : ∀ j (hj : j < ps.length), paceAt ps j = ps[j] := fun j hj => by unfold paceAt; simp [List.getD, hj]
  refine ⟨hl, fun p hp => ?_, ?_, ?_⟩
  · obtain ⟨k, hk, rfl⟩ := mem_paceAt hp
    exact (stepQ_of (hs k hk)).1
  · rw [List.pairwise_iff_getElem]
    intro i j hi hj hij
    rw [← e i hi, ← e j hj]
    exact ord_of (fun k k0 kn => (stepQ_of (hs k kn)).2.1 k0) i j hij hj
  · rw [List.pairwise_iff_getElem]
    intro i j hi hj hij
    rw [← e i hi, ← e j hj]
    have h3 := (stepQ_of (hs j hj)).2.2
    rcases findV_cases (ps.take j) (paceAt ps j).2 with ⟨_, h4⟩ | ⟨k, h4, _⟩
    · have := h4 i (by simp; omega)
      rwa [paceAt_take hij] at this
    · omega
theorem queueB_isQ {ps : List PaceV} (h : IsQ ps) : queueB ps = true := by
  have e : ∀ j (hj : j < ps.length), paceAt ps j = ps[j] := fun j hj => by unfold paceAt; simp [List.getD, hj]
  refine queueB_t h.len fun j hj => ?_
  unfold stepQ
  simp only [Bool.and_eq_true, Bool.or_eq_true, decide_eq_true_eq, beq_iff_eq]
  refine ⟨h.ent _ (paceAt_mem hj), ?_, ?_⟩
  · by_cases h0 : j = 0
    · exact .inl h0
    · right
      rw [e j hj, e (j - 1) (by omega)]
      exact List.pairwise_iff_getElem.1 h.ord (j - 1) j (by omega) hj (by omega)
  · rw [findV_none (fun i hi => ?_)]
    · omega
    · have hi' : i < j := by simp at hi; omega
      rw [paceAt_take hi', e i (by omega), e j hj]
      exact List.pairwise_iff_getElem.1 h.who i j (by omega) hj hi'
theorem IsQ.ris {ps : List PaceV} (h : IsQ ps) : Ris ps := h.ord.imp fun hab => ltB_not hab
theorem lessN_le (e : PaceV) : ∀ ps : List PaceV, lessN e ps ≤ ps.length
  | [] => Nat.le_refl _
  | p :: ps => by have := lessN_le e ps; unfold lessN; split <;> simp <;> omega
theorem lessN_lt (e : PaceV) : ∀ (ps : List PaceV) (k : Nat), k < lessN e ps → ltB (paceAt ps k) e = true
  | [], k, h => by simp [lessN] at h
  | p :: ps, k, h => by
    unfold lessN at h
    split at h
    · cases k with
      | zero => simpa [paceAt] using ‹ltB p e = true›
      | succ k =>
        have := lessN_lt e ps k (by omega)
        simpa [paceAt] using this
    · omega
theorem lessN_at (e : PaceV) : ∀ (ps : List PaceV), lessN e ps < ps.length → ltB (paceAt ps (lessN e ps)) e = false
  | [], h => by simp at h
  | p :: ps, h => by
    unfold lessN at h ⊢
    by_cases hp : ltB p e = true
    · rw [if_pos hp] at h ⊢
      have := lessN_at e ps (by simpa using h)
      simpa [paceAt] using this
    · rw [if_neg hp] at h ⊢
      simpa [paceAt] using hp
theorem lessN_eq {e : PaceV} {ps : List PaceV} {k : Nat} (hk : k ≤ ps.length) (h : ∀ j, j < k → ltB (paceAt ps j) e = true) (hn : k = ps.length ∨ ltB (paceAt ps k) e = false) : lessN e ps = k := by
  rcases Nat.lt_trichotomy (lessN e ps) k with h1 | h1 | h1
  · have h2 := lessN_at e ps (by omega)
    rw [h _ h1] at h2; cases h2
  · exact h1
  · rcases hn with hn | hn
    · have := lessN_le e ps; omega
    · have := lessN_lt e ps k h1
      rw [hn] at this; cases this
theorem putV_perm (ps : List PaceV) (e : PaceV) : (putV ps e).Perm (ps ++ [e]) := by
  unfold putV
  have h1 : (ps.take (lessN e ps) ++ e :: ps.drop (lessN e ps)).Perm (e :: (ps.take (lessN e ps) ++ ps.drop (lessN e ps))) := List.perm_middle
  rw [List.take_append_drop] at h1
  exact h1.trans (List.perm_append_comm (l₁ := [e]) (l₂ := ps))
theorem putV_len (ps : List PaceV) (e : PaceV) : (putV ps e).length = ps.length + 1 := by have := (putV_perm ps e).length_eq; simpa using this
theorem putV_ris {ps : List PaceV} (h : Ris ps) (e : PaceV) : Ris (putV ps e) := by
  have hle := lessN_le e ps
  have hdr : ∀ y ∈ ps.drop (lessN e ps), ltB y e = false := fun y hy => by
    obtain ⟨k, hk, rfl⟩ := List.getElem_of_mem hy
    have hk' : lessN e ps + k < ps.length := by simp at hk; omega
    rw [List.getElem_drop]
    have h0 := lessN_at e ps (by omega)
    have e0 : paceAt ps (lessN e ps) = ps[lessN e ps]'(by omega) := by unfold paceAt; simp [List.getD, (by omega : lessN e ps < ps.length)]
    rw [e0] at h0
    by_cases hz : k = 0
    · subst hz; simpa using h0
    · have h1 := List.pairwise_iff_getElem.1 h (lessN e ps) (lessN e ps + k) (by omega) hk' (by omega)
      exact ltB_le h0 h1
  have hta : ∀ y ∈ ps.take (lessN e ps), ltB y e = true := fun y hy => by
    obtain ⟨k, hk, rfl⟩ := List.getElem_of_mem hy
    have hk' : k < lessN e ps := by simp at hk; omega
    have := lessN_lt e ps k hk'
    rw [List.getElem_take]
    unfold paceAt at this
    simpa [List.getD, (by omega : k < ps.length)] using this
  unfold putV Ris
  rw [List.pairwise_append, List.pairwise_cons]
  refine ⟨h.sublist (List.take_sublist _ _), ⟨fun y hy => hdr y hy, h.sublist (List.drop_sublist _ _)⟩, fun a ha b hb => ?_⟩
  rcases List.mem_cons.1 hb with rfl | hb
  · exact ltB_not (hta a ha)
  · exact ltB_le (ltB_not (hta a ha)) (hdr b hb)
/-- What a rising list with e is, once it is taken from the top of a heap. -/
theorem sorted_put {ps qs : List PaceV} {e : PaceV} (h : IsQ ps) (hq : Ris qs) (hp : qs.Perm (ps ++ [e])) : qs = putV ps e :=
  ris_eq hq (putV_ris h.ris e) (hp.trans (putV_perm ps e).symm)
end Go.Proofs.YtifolooecfebfaaGreat

/- Hads and marks as plain numbers: the band, what is placed, moved and marked. Numbers alone; no condition but those that a theorem names. -/
namespace Go.Proofs.YtifolooecfebfaaGreat
set_option linter.unusedVariables false

def hadB (x : Int) : Bool := inB x (-1000000000000) 1000000000000
def inBandB (h m : Int) : Bool := (hadB h && hadB m) && inB (h - m) (-20000) 63000
def movedV (h f t : Int) : Int := if hadB h && (hadB f && hadB t) then h - f + t else h
def markedV (m f : Int) : Int := if hadB m && hadB f then min (max m f) 900000000000 else m
theorem had_of {x : Int} (h : hadB x = true) : -1000000000000 ≤ x ∧ x ≤ 1000000000000 := inB_of h
theorem hads2 (x y : Int) : ([x, y].all fun z => inB z (-1000000000000) 1000000000000) = (hadB x && hadB y) := by simp [hadB]
theorem hads3 (x y z : Int) : ([x, y, z].all fun z => inB z (-1000000000000) 1000000000000) = (hadB x && (hadB y && hadB z)) := by simp [hadB]
theorem band_at (h m : Int) : ([h].all fun z => inB z (m - 20000) (m + 63000)) = inB (h - m) (-20000) 63000 := by
  simp only [List.all_cons, List.all_nil, Bool.and_true]
  unfold inB
  congr 1
  exact propext ⟨fun h => by omega, fun h => by omega⟩

theorem hadB_t {x : Int} (h0 : -1000000000000 ≤ x) (h1 : x ≤ 1000000000000) : hadB x = true := inB_t h0 h1
theorem moved_in {h f t : Int} (h0 : -1000000000000 ≤ h) (h1 : h ≤ 1000000000000) (f0 : -1000000000000 ≤ f) (f1 : f ≤ 1000000000000) (t0 : -1000000000000 ≤ t) (t1 : t ≤ 1000000000000) : movedV h f t = h - f + t := by
  unfold movedV; rw [hadB_t h0 h1, hadB_t f0 f1, hadB_t t0 t1]; rfl
theorem marked_in {m f : Int} (m0 : -1000000000000 ≤ m) (m1 : m ≤ 1000000000000) (f0 : -1000000000000 ≤ f) (f1 : f ≤ 1000000000000) : markedV m f = min (max m f) 900000000000 := by
  unfold markedV; rw [hadB_t m0 m1, hadB_t f0 f1]; rfl
end Go.Proofs.YtifolooecfebfaaGreat

