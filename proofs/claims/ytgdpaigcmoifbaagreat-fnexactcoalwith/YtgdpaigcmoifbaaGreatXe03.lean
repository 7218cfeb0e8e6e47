/- Part 3 of what the proof rests on. No condition but those that a theorem names. -/
import Derived.Test.YtgdpaigcmoifbaaGreatXe01
import Derived.Deep.QuietTactic
import Derived.BigQuiet
import Derived.Laws.OwnMore
import Derived.OwnWalk
import Derived.Maps.AppendAt
import Derived.Lib.SmallJoins
import Derived.Deep.RegionWith
set_option maxHeartbeats 8000000
set_option maxRecDepth 100000
namespace Go.Proofs.YtgdpaigcmoifbaaGreat
open Go.ChangeShapes Go.WideShapes Go.ChangeAt Go.RowKit
set_option linter.unusedVariables false
abbrev PaceV := Int × Int
abbrev RoomV := Int × List PaceV
def paceAt (ps : List PaceV) (k : Nat) : PaceV := ps.getD k (0, 0)
def roomAt (rs : List RoomV) (k : Nat) : RoomV := rs.getD k (0, [])
def IsPaces (w : World) (v : Value) (ps : List PaceV) : Prop :=
 ∃ (a : Option Addr) (cap : Nat), v = .slice a ps.length cap ∧ ps.length ≤ cap ∧ cap ≤ 9223372036854775807 ∧ (ps = [] ∨ ∃ b off, a = some ⟨b, off, none⟩ ∧ b < w.heap.size ∧
  ∀ k, k < ps.length → w.cell? ⟨b, off + k * 2, none⟩ = some (.int .i64 (paceAt ps k).1) ∧ w.cell? ⟨b, off + k * 2 + 1, none⟩ = some (.int .i64 (paceAt ps k).2))
def IsRooms (w : World) (v : Value) (rs : List RoomV) : Prop :=
 ∃ (a : Option Addr) (cap : Nat), v = .slice a rs.length cap ∧ rs.length ≤ cap ∧ cap ≤ 9223372036854775807 ∧ (rs = [] ∨ ∃ b off, a = some ⟨b, off, none⟩ ∧ b < w.heap.size ∧
  ∀ k, k < rs.length → w.cell? ⟨b, off + k * 2, none⟩ = some (.int .i64 (roomAt rs k).1) ∧ ∃ pv, w.cell? ⟨b, off + k * 2 + 1, none⟩ = some pv ∧ IsPaces w pv (roomAt rs k).2)
theorem IsPaces.below {w w' : World} {v : Value} {ps : List PaceV} (h : IsPaces w v ps) (hb : Below w.heap.size w w') : IsPaces w' v ps := by
 obtain ⟨a, cap, rfl, hc, hm, hr⟩ := h
 refine ⟨a, cap, rfl, hc, hm, ?_⟩
 rcases hr with hr | ⟨b, off, rfl, hlt, hcl⟩
 ·exact .inl hr
 ·refine .inr ⟨b, off, rfl, alNll hlt hb.size, fun k hk => ?_⟩
  obtain ⟨h1, h2⟩ := hcl k hk
  exact ⟨by rw [hb.cell (p := ⟨b, off + k * 2, none⟩) hlt]; exact h1, by rw [hb.cell (p := ⟨b, off + k * 2 + 1, none⟩) hlt]; exact h2⟩
theorem IsRooms.below {w w' : World} {v : Value} {rs : List RoomV} (h : IsRooms w v rs) (hb : Below w.heap.size w w') : IsRooms w' v rs := by
 obtain ⟨a, cap, rfl, hc, hm, hr⟩ := h
 refine ⟨a, cap, rfl, hc, hm, ?_⟩
 rcases hr with hr | ⟨b, off, rfl, hlt, hcl⟩
 ·exact .inl hr
 ·refine .inr ⟨b, off, rfl, alNll hlt hb.size, fun k hk => ?_⟩
  obtain ⟨h1, pv, h2, h3⟩ := hcl k hk
  exact ⟨by rw [hb.cell (p := ⟨b, off + k * 2, none⟩) hlt]; exact h1, pv, by rw [hb.cell (p := ⟨b, off + k * 2 + 1, none⟩) hlt]; exact h2, h3.below hb⟩
theorem roomAt_take {rs : List RoomV} {n k : Nat} (h : k < n) : roomAt (rs.take n) k = roomAt rs k := by
 unfold roomAt; simp [List.getD, h]
theorem IsRooms.taken {w : World} {a : Option Addr} {len cap : Nat} {rs : List RoomV} (h : IsRooms w (.slice a len cap) rs) {n : Nat} (hn : n ≤ len) : IsRooms w (.slice a n cap) (rs.take n) := by
 obtain ⟨a', cap', he, hc, hm, hr⟩ := h
 cases he
 have hl : (rs.take n).length = n := by simp; omega
 refine ⟨a, cap, by rw [hl], by omega, hm, ?_⟩
 rcases hr with hr | ⟨b, off, rfl, hlt, hcl⟩
 ·exact .inl (by rw [hr]; simp)
 ·refine .inr ⟨b, off, rfl, hlt, fun k hk => ?_⟩
  rw [roomAt_take (by omega)]
  exact hcl k (by omega)
def paceB (p : PaceV) : Bool := inB p.1 1 1024 && inB p.2 1 1024
def aboveB (p q : PaceV) : Bool := decide (q.1 < p.1) && decide (q.2 < p.2)
def stepB (ps : List PaceV) (k : Nat) : Bool := paceB (paceAt ps k) && (k == 0 || aboveB (paceAt ps k) (paceAt ps (k - 1)))
def pacesB (ps : List PaceV) : Bool := (List.range ps.length).all (stepB ps)
def roomB (r : RoomV) : Bool := inB r.1 1 4 && (inB r.2.length 1 4 && pacesB r.2)
def benchSum (rs : List RoomV) : Int := (rs.map (·.1)).sum
def hallB (rs : List RoomV) : Bool := inB rs.length 1 3 && (rs.all roomB && decide (benchSum rs ≤ 8))
theorem pacesB_t {ps : List PaceV} (h : ∀ j, j < ps.length → stepB ps j = true) : pacesB ps = true := by
 unfold pacesB; rw [List.all_eq_true]; intro j hj; exact h j (List.mem_range.1 hj)
theorem pacesB_f {ps : List PaceV} {j : Nat} (hj : j < ps.length) (h : stepB ps j = false) : pacesB ps = false := by
 unfold pacesB; rw [List.all_eq_false]; exact ⟨j, List.mem_range.2 hj, by simp [h]⟩
theorem pacesB_of {ps : List PaceV} (h : pacesB ps = true) {j : Nat} (hj : j < ps.length) : stepB ps j = true := by
 unfold pacesB at h; rw [List.all_eq_true] at h; exact h j (List.mem_range.2 hj)
theorem roomAt_mem {rs : List RoomV} {k : Nat} (h : k < rs.length) : roomAt rs k ∈ rs := by
 unfold roomAt; simp [List.getD, h]
theorem allRooms_t {rs : List RoomV} (h : ∀ j, j < rs.length → roomB (roomAt rs j) = true) : rs.all roomB = true := by
 rw [List.all_eq_true]; intro r hr
 obtain ⟨j, hj, rfl⟩ := List.getElem_of_mem hr
 have := h j hj
 unfold roomAt at this; simpa [List.getD, hj] using this
theorem allRooms_f {rs : List RoomV} {j : Nat} (hj : j < rs.length) (h : roomB (roomAt rs j) = false) : rs.all roomB = false := by
 rw [List.all_eq_false]; exact ⟨_, roomAt_mem hj, by simp [h]⟩
theorem allRooms_of {rs : List RoomV} (h : rs.all roomB = true) {j : Nat} (hj : j < rs.length) : roomB (roomAt rs j) = true := by
 rw [List.all_eq_true] at h; exact h _ (roomAt_mem hj)
theorem room_bd {r : RoomV} (h : roomB r = true) : 1 ≤ r.1 ∧ r.1 ≤ 4 ∧ 1 ≤ r.2.length ∧ r.2.length ≤ 4 := by
 unfold roomB at h; simp only [alBae] at h
 have h1 := inB_of h.1; have h2 := inB_of h.2.1
 omega
theorem benchSum_take (rs : List RoomV) {k : Nat} (h : k < rs.length) : benchSum (rs.take (k + 1)) = benchSum (rs.take k) + (roomAt rs k).1 := by
 unfold benchSum roomAt
 rw [List.take_succ_eq_append_getElem h, List.map_append, List.sum_append]; simp [List.getD, h]
theorem benchSum_bd {rs : List RoomV} (h : rs.all roomB = true) : ∀ k, k ≤ rs.length → (k : Int) ≤ benchSum (rs.take k) ∧ benchSum (rs.take k) ≤ 4 * k
 | 0, _ => by simp [benchSum]
 | k + 1, hk => by
  have ih := benchSum_bd h k (by omega)
  have hb := room_bd (allRooms_of h (j := k) (by omega))
  rw [benchSum_take rs (by omega)]; omega
theorem benchSum_all (rs : List RoomV) : benchSum (rs.take rs.length) = benchSum rs := by rw [List.take_length]
theorem hallB_of {rs : List RoomV} (h : hallB rs = true) : 1 ≤ rs.length ∧ rs.length ≤ 3 ∧ rs.all roomB = true ∧ benchSum rs ≤ 8 := by
 unfold hallB at h; simp only [alBae, alDte] at h
 have h1 := inB_of h.1
 exact ⟨by omega, by omega, h.2.1, h.2.2⟩
open Go.ChangeShapes Go.WideShapes Go.ChangeAt Go.RowKit Go.Sort Go.Proofs.Tryz
theorem bcell {W w1 : World} {B : Nat} (hb : Below B W w1) : (∀ b o, b < B → w1.cell? ⟨b, o, none⟩ = W.cell? ⟨b, o, none⟩) ∧ (∀ b o, b < B → w1.frozen? ⟨b, o, none⟩ = W.frozen? ⟨b, o, none⟩) :=
 ⟨fun b o h => hb.cell (p := ⟨b, o, none⟩) h, fun b o h => hb.frozen (p := ⟨b, o, none⟩) h⟩
theorem liesFrom_any (lo n hi : Int) (w : World) : cE 219 #[.int .i64 lo, .int .i64 n, .int .i64 hi] w (.bool (inB n lo hi)) := by
 by_cases h1 : lo ≤ n
 ·by_cases h2 : n ≤ hi
  all_goals
   go_enter func219, ntmps219
   go_wp2
   go_ret
   exact ⟨ret_bool (by unfold inB; simp [h1, h2]), rfl⟩
 ·go_enter func219, ntmps219
  go_wp2
  go_ret
  exact ⟨ret_bool (by unfold inB; simp; omega), rfl⟩
theorem next_all {P : Nat → Prop} {k : Nat} (h : ∀ j, j < k → P j) (hk : P k) : ∀ j, j < k + 1 → P j := fun j hj => by
 by_cases e : j < k
 ·exact h j e
 ·obtain rfl : j = k := by omega
  exact hk
theorem own_same {w w' : World} {B t size n : Nat} {v : Value} {xs : List Value} (h : w.ownsRow B t size v n xs) (hs : ∀ k, v.ownBlock = some k → w'.heap[k]? = w.heap[k]?) : w'.ownsRow B t size v n xs := by
 refine ⟨h.1, ?_⟩
 rcases h.2 with hz | ⟨g, cap, cur, rfl, hb, hg, r⟩
 ·exact .inl hz
 ·exact .inr ⟨g, cap, cur, rfl, hb, (hs g rfl).trans hg, r⟩
theorem own_mono {w : World} {B B' t size n : Nat} {v : Value} {xs : List Value} (h : w.ownsRow B t size v n xs) (hb : B' ≤ B) : w.ownsRow B' t size v n xs := by
 refine ⟨h.1, ?_⟩
 rcases h.2 with hz | ⟨g, cap, cur, rfl, hb', r⟩
 ·exact .inl hz
 ·exact .inr ⟨g, cap, cur, rfl, by omega, r⟩
def pcells (ps : List PaceV) : List Value := ps.flatMap fun p => [.int .i64 p.1, .int .i64 p.2]
def rcells (qs : List (RoomV × Value)) : List Value := qs.flatMap fun q => [.int .i64 q.1.1, q.2]
theorem pairs_len {α : Type} {f g : α → Value} : ∀ l : List α, (l.flatMap fun p => [f p, g p]).length = l.length * 2
 | [] => rfl
 | p :: l => by rw [List.flatMap_cons, List.length_append, pairs_len l]; simp; omega
theorem pairs_get {α : Type} {f g : α → Value} : ∀ (l : List α) (k : Nat) (h : k < l.length), (l.flatMap fun p => [f p, g p])[k * 2]? = some (f l[k]) ∧ (l.flatMap fun p => [f p, g p])[k * 2 + 1]? = some (g l[k])
 | p :: l, 0, _ => by simp
 | p :: l, k + 1, h => by
  have ih := pairs_get (f := f) (g := g) l k (by simpa using h)
  rw [List.flatMap_cons, show (k + 1) * 2 = k * 2 + 2 by omega, show k * 2 + 2 + 1 = (k * 2 + 1) + 2 by omega]
  simpa using ih
def szV (n : Nat) (left : Int) : Int := if left - n < 0 then -1 else left - n
theorem szV_f {n : Nat} {left : Int} (h : left - n < 0) : szV n left = -1 := by unfold szV; rw [if_pos h]
theorem szV_t {n : Nat} {left : Int} (h : ¬ left - n < 0) : szV n left = left - n := by unfold szV; rw [if_neg h]
def Pairs (xs : List Value) (P : Nat → Value → Value → Prop) (k : Nat) : Prop := ∀ j, j < k → ∃ u u', xs[j * 2]? = some u ∧ xs[j * 2 + 1]? = some u' ∧ P j u u'
theorem Pairs.next {xs : List Value} {P : Nat → Value → Value → Prop} {k : Nat} {u u' : Value} (h : Pairs xs P k) (hl : k * 2 + 1 < xs.length) (hp : P k u u') : Pairs ((xs.set (k * 2) u).set (k * 2 + 1) u') P (k + 1) := fun j hj => by
 by_cases e : j < k
 ·obtain ⟨a, a', h1, h2, h3⟩ := h j e
  refine ⟨a, a', ?_, ?_, h3⟩
  ·rw [List.getElem?_set_ne (by omega), List.getElem?_set_ne (by omega)]; exact h1
  ·rw [List.getElem?_set_ne (by omega), List.getElem?_set_ne (by omega)]; exact h2
 ·obtain rfl : j = k := by omega
  refine ⟨u, u', ?_, ?_, hp⟩
  ·rw [List.getElem?_set_ne (by omega), List.getElem?_set_self (by omega)]
  ·rw [List.getElem?_set_self (by simp; omega)]
theorem Pairs.mono {xs : List Value} {P Q : Nat → Value → Value → Prop} {k : Nat} (h : Pairs xs P k) (hpq : ∀ j u u', P j u u' → Q j u u') : Pairs xs Q k := fun j hj => by
 obtain ⟨a, a', h1, h2, h3⟩ := h j hj
 exact ⟨a, a', h1, h2, hpq _ _ _ h3⟩
def isPaceOf (ps : List PaceV) (j : Nat) (u u' : Value) : Prop := u = .int .i64 (paceAt ps j).1 ∧ u' = .int .i64 (paceAt ps j).2
theorem IsPaces.of_row {w : World} {B g n cap t : Nat} {ps : List PaceV} {xs : List Value} (h : w.ownsRow B t 2 (.slice (some ⟨g, 0, none⟩) n cap) n xs) (hp : Pairs xs (isPaceOf ps) ps.length) (hn : n = ps.length) : IsPaces w (.slice (some ⟨g, 0, none⟩) n cap) ps := by
 subst hn
 have h' := h
 rcases h.2 with ⟨hh, _⟩ | ⟨g', cap', cur, hh, hb, hg, hnc, hcm, r⟩
 ·simp at hh
 ·simp only [Value.slice.injEq, Option.some.injEq, Addr.mk.injEq, and_true, true_and] at hh
  obtain ⟨rfl, rfl⟩ := hh
  refine ⟨_, cap, rfl, hnc, by unfold maxLen at hcm; omega, .inr ⟨g, 0, rfl, (Array.getElem?_eq_some_iff.1 hg).1, fun k hk => ?_⟩⟩
  obtain ⟨u, u', h1, h2, rfl, rfl⟩ := hp k hk
  refine ⟨?_, ?_⟩
  ·rw [Nat.zero_add, World.ownsRow.cellAt h' _ (by omega)]; exact h1
  ·rw [Nat.zero_add, World.ownsRow.cellAt h' _ (by omega)]; exact h2
theorem own_cell {w : World} {B g n cap t : Nat} {xs : List Value} (h : w.ownsRow B t 2 (.slice (some ⟨g, 0, none⟩) n cap) n xs) {j : Nat} (hj : j < n * 2) : (∃ c, w.cell? ⟨g, j, none⟩ = some c) ∧ w.frozen? ⟨g, j, none⟩ = false := by
 refine ⟨?_, World.ownsRow.frozenAt h j⟩
 rw [World.ownsRow.cellAt h j hj]
 exact ⟨xs[j]'(by rw [h.1]; exact hj), List.getElem?_eq_getElem _⟩
theorem below_grown {B g : Nat} {w w' : World} (hg : w.grownBy w' (some g)) (hB : B ≤ g) (hs : B ≤ w.heap.size) : Below B w w' := (alBrf B w).grown hg hs (fun k e => by cases e; exact hB)
theorem grown_trans {a b c : World} {row : Option Nat} (h : a.grownBy b row) (k : b.grownBy c row) : a.grownBy c row :=
 ⟨k.os.trans h.os, k.tape.trans h.tape, k.output.trans h.output, alNlt h.size k.size, fun i hi hn => (k.block i (alNll hi h.size) hn).trans (h.block i hi hn)⟩
theorem own_pair {w : World} {B g n cap t : Nat} {xs : List Value} (h : w.ownsRow B t 2 (.slice (some ⟨g, 0, none⟩) n cap) n xs) (j : Nat) (u u' : Value) :
  ((w.setCell ⟨g, j, none⟩ u).setCell ⟨g, j + 1, none⟩ u').ownsRow B t 2 (.slice (some ⟨g, 0, none⟩) n cap) n ((xs.set j u).set (j + 1) u') ∧ w.grownBy ((w.setCell ⟨g, j, none⟩ u).setCell ⟨g, j + 1, none⟩ u') (some g) := by
 have h1 := World.ownsRow.stored h j u
 have h2 := World.ownsRow.stored h1.1 (j + 1) u'
 exact ⟨h2.1, grown_trans h1.2 h2.2⟩
theorem own_later {w w' : World} {B g n cap t : Nat} {xs : List Value} (h : w.ownsRow B t 2 (.slice (some ⟨g, 0, none⟩) n cap) n xs) (hb : Below w.heap.size w w') : w'.ownsRow B t 2 (.slice (some ⟨g, 0, none⟩) n cap) n xs := by
 have hlt := (World.ownsRow.lt h g rfl).2
 refine ⟨h.1, ?_⟩
 rcases h.2 with hz | ⟨g', cap', cur, hh, hb', hg, r⟩
 ·exact .inl hz
 ·simp only [Value.slice.injEq, Option.some.injEq, Addr.mk.injEq, and_true, true_and] at hh
  obtain ⟨rfl, rfl⟩ := hh
  exact .inr ⟨g, cap, cur, rfl, hb', (hb.block g hlt).trans hg, r⟩
theorem pput (f c : Int) : ∀ (ps : List PaceV) (j : Nat), j < ps.length → ((pcells ps).set (j * 2) (.int .i64 f)).set (j * 2 + 1) (.int .i64 c) = pcells (ps.set j (f, c))
 | p :: ps, 0, _ => by simp [pcells]
 | p :: ps, j + 1, h => by
  have ih := pput f c ps j (by simpa using h)
  unfold pcells at ih ⊢
  rw [List.flatMap_cons, show (j + 1) * 2 = j * 2 + 2 by omega, show j * 2 + 2 + 1 = (j * 2 + 1) + 2 by omega]
  simpa using ih
def mps (k : Int) (n : Nat) : List PaceV := (List.range n).map fun i : Nat => (k + 2 * (i : Int), k + 2 * (i : Int) + 1)
theorem mps_len (k : Int) (n : Nat) : (mps k n).length = n := by simp [mps]
def mpd (ps : List PaceV) (k : Int) (j : Nat) : List PaceV := mps k j ++ ps.drop j
theorem mpd_len {ps : List PaceV} {k : Int} {j : Nat} (h : j ≤ ps.length) : (mpd ps k j).length = ps.length := by simp [mpd, mps_len]; omega
theorem mpd_succ {ps : List PaceV} {k : Int} {j : Nat} (h : j < ps.length) : (mpd ps k j).set j (k + 2 * (j : Int), k + 2 * (j : Int) + 1) = mpd ps k (j + 1) := by
 unfold mpd
 rw [List.set_append_right _ _ (by simp [mps_len]), mps_len, Nat.sub_self, List.drop_eq_getElem_cons h, List.set_cons_zero]
 simp [mps, List.range_succ]
theorem mpd_all (ps : List PaceV) (k : Int) : mpd ps k ps.length = mps k ps.length := by simp [mpd]
theorem grown_refl (w : World) (r : Option Nat) : w.grownBy w r := ⟨rfl, rfl, rfl, alNlr _, fun _ _ _ => rfl⟩
open Go.ChangeShapes Go.WideShapes Go.ChangeAt Go.RowKit Go.Sort
section
variable {α : Type} {t k : Nat} {enc : α → List Value}
def flat (enc : α → List Value) (xs : List α) : List Value := xs.flatMap enc
theorem flat_len (hk : ∀ x, (enc x).length = k) : ∀ xs : List α, (flat enc xs).length = xs.length * k
 | [] => by simp [flat]
 | x :: xs => by
  have ih := flat_len hk xs
  unfold flat at ih ⊢
  rw [List.flatMap_cons, List.length_append, ih, hk, alLlc, Nat.add_mul]; omega
theorem flat_append (xs ys : List α) : flat enc (xs ++ ys) = flat enc xs ++ flat enc ys := by unfold flat; rw [List.flatMap_append]
def setL (L : List Value) (o : Nat) : List Value → List Value
 | [] => L
 | u :: us => setL (L.set o u) (o + 1) us
def setW (w : World) (g o : Nat) : List Value → World
 | [] => w
 | u :: us => setW (w.setCell ⟨g, o, none⟩ u) g (o + 1) us
theorem setL_len : ∀ (us L : List Value) (o : Nat), (setL L o us).length = L.length
 | [], L, o => rfl
 | u :: us, L, o => by unfold setL; rw [setL_len us]; simp
theorem setL_get : ∀ (us L : List Value) (o m : Nat), o + us.length ≤ L.length → (setL L o us)[m]? = if o ≤ m ∧ m < o + us.length then us[m - o]? else L[m]?
 | [], L, o, m, h => by unfold setL; rw [if_neg (by simp)]
 | u :: us, L, o, m, h => by
  unfold setL
  have ih := setL_get us (L.set o u) (o + 1) m (by simp at h ⊢; omega)
  rw [ih]
  simp only [alLlc] at h ⊢
  by_cases h1 : o + 1 ≤ m ∧ m < o + 1 + us.length
  ·rw [if_pos h1, if_pos (by omega), show m - o = (m - (o + 1)) + 1 by omega]; rfl
  ·rw [if_neg h1]
   by_cases h2 : m = o
   ·subst h2; rw [if_pos (by omega), List.getElem?_set_self (by omega)]; simp
   ·rw [if_neg (by omega), List.getElem?_set_ne (by omega)]
theorem own_setW {B t n cap g sz : Nat} : ∀ (us : List Value) {w : World} {xs : List Value} (o : Nat), w.ownsRow B t sz (.slice (some ⟨g, 0, none⟩) n cap) n xs →
  (setW w g o us).ownsRow B t sz (.slice (some ⟨g, 0, none⟩) n cap) n (setL xs o us) ∧ w.grownBy (setW w g o us) (some g)
 | [], w, xs, o, h => ⟨h, grown_refl _ _⟩
 | u :: us, w, xs, o, h => by
  obtain ⟨h1, h2⟩ := World.ownsRow.stored h o u
  obtain ⟨h3, h4⟩ := own_setW us (o + 1) h1
  exact ⟨h3, grown_trans h2 h4⟩
def RecAt (t k : Nat) (enc : α → List Value) (n₀ : Nat) (w : World) (v : Value) (xs : List α) : Prop := w.ownsRow n₀ t k v xs.length (flat enc xs)
theorem RecAt.lt {n₀ : Nat} {w : World} {v : Value} {xs : List α} (h : RecAt t k enc n₀ w v xs) {i : Nat} (hi : v.ownBlock = some i) : n₀ ≤ i ∧ i < w.heap.size := World.ownsRow.lt h i hi
theorem RecAt.mono {n₀ n₁ : Nat} {w : World} {v : Value} {xs : List α} (h : RecAt t k enc n₀ w v xs) (hn : n₁ ≤ n₀) : RecAt t k enc n₁ w v xs := own_mono h hn
theorem RecAt.same {n₀ : Nat} {w w' : World} {v : Value} {xs : List α} (h : RecAt t k enc n₀ w v xs) (hs : ∀ i, v.ownBlock = some i → w'.heap[i]? = w.heap[i]?) : RecAt t k enc n₀ w' v xs := own_same h hs
theorem RecAt.later {n₀ : Nat} {w w' : World} {v : Value} {xs : List α} (h : RecAt t k enc n₀ w v xs) (hb : Below w.heap.size w w') : RecAt t k enc n₀ w' v xs := h.same fun i hi => hb.block i (h.lt hi).2
theorem RecAt.grown {n₀ : Nat} {w w' : World} {v : Value} {xs : List α} {r : Option Nat} (h : RecAt t k enc n₀ w v xs) (hg : w.grownBy w' r) (hr : ∀ i, v.ownBlock = some i → r ≠ some i) : RecAt t k enc n₀ w' v xs := h.same fun i hi => hg.block i (h.lt hi).2 (fun e => hr i hi e.symm)
theorem RecAt.shape {n₀ : Nat} {w : World} {v : Value} {xs : List α} (h : RecAt t k enc n₀ w v xs) : ∃ a cap, v = .slice a xs.length cap := by
 rcases h.2 with ⟨rfl, hz⟩ | ⟨g, cap, cur, rfl, _⟩
 ·exact ⟨none, 0, by rw [hz]⟩
 ·exact ⟨_, cap, rfl⟩
end
section
variable {α : Type} [Inhabited α] {t k : Nat} {enc : α → List Value}
def recAt (xs : List α) (j : Nat) : α := xs.getD j default
theorem recAt_get {xs : List α} {j : Nat} (h : j < xs.length) : recAt xs j = xs[j] := by unfold recAt; simp [List.getD, h]
theorem recAt_mem {xs : List α} {j : Nat} (h : j < xs.length) : recAt xs j ∈ xs := by rw [recAt_get h]; exact List.getElem_mem h
theorem recAt_set {xs : List α} {i : Nat} {x : α} (h : i < xs.length) (j : Nat) : recAt (xs.set i x) j = if j = i then x else recAt xs j := by
 unfold recAt
 by_cases e : j = i
 ·subst e; simp [List.getD, h]
 ·rw [if_neg e]; simp [List.getD, Ne.symm e]
theorem flat_get (hk : ∀ x, (enc x).length = k) : ∀ (xs : List α) (j : Nat), j < xs.length → ∀ i, i < k → (flat enc xs)[j * k + i]? = (enc (recAt xs j))[i]?
 | x :: xs, 0, _, i, hi => by
  unfold flat recAt
  rw [List.flatMap_cons, Nat.zero_mul, Nat.zero_add, List.getElem?_append_left (by rw [hk]; exact hi)]; rfl
 | x :: xs, j + 1, h, i, hi => by
  have ih := flat_get hk xs j (by simpa using h) i hi
  unfold flat recAt at ih ⊢
  rw [List.flatMap_cons, List.getElem?_append_right (by rw [hk, Nat.add_mul]; omega), hk, show (j + 1) * k + i - k = j * k + i by rw [Nat.add_mul]; omega, ih]
  rfl
theorem flat_set (hk : ∀ x, (enc x).length = k) (h0 : 0 < k) (xs : List α) (j : Nat) (hj : j < xs.length) (x : α) : setL (flat enc xs) (j * k) (enc x) = flat enc (xs.set j x) := by
 have hl := flat_len hk xs
 have hjk : j * k + k ≤ xs.length * k := by rw [← Nat.succ_mul]; exact Nat.mul_le_mul_right k hj
 apply List.ext_getElem?
 intro m
 by_cases hm : m < xs.length * k
 ·have hd : m / k < xs.length := (Nat.div_lt_iff_lt_mul h0).2 hm
  have hr : m % k < k := Nat.mod_lt _ h0
  have he : m = m / k * k + m % k := by rw [Nat.mul_comm]; exact (Nat.div_add_mod m k).symm
  have hg := flat_get hk (xs.set j x) (m / k) (by simpa using hd) (m % k) hr
  have hg0 := flat_get hk xs (m / k) hd (m % k) hr
  rw [← he] at hg hg0
  rw [setL_get _ _ _ _ (by rw [hl, hk]; exact hjk), hg, hk, recAt_set hj, hg0]
  by_cases e : m / k = j
  ·rw [if_pos e, if_pos (by rw [← e]; omega), show m - j * k = m % k by rw [← e]; omega]
  ·rw [if_neg e, if_neg]
   intro ⟨h1, h2⟩
   apply e
   exact Nat.div_eq_of_lt_le h1 (by rw [Nat.succ_mul]; exact h2)
 ·rw [List.getElem?_eq_none (by rw [setL_len, hl]; omega), List.getElem?_eq_none (by rw [flat_len hk]; simp; omega)]
def IsRec (k : Nat) (enc : α → List Value) (w : World) (v : Value) (xs : List α) : Prop :=
 ∃ (a : Option Addr) (cap : Nat), v = .slice a xs.length cap ∧ xs.length ≤ cap ∧ cap ≤ 9223372036854775807 ∧ (xs = [] ∨ ∃ b off, a = some ⟨b, off, none⟩ ∧ b < w.heap.size ∧
  ∀ j, j < xs.length → ∀ i u, (enc (recAt xs j))[i]? = some u → w.cell? ⟨b, off + j * k + i, none⟩ = some u)
theorem IsRec.below {w w' : World} {v : Value} {xs : List α} (h : IsRec k enc w v xs) (hb : Below w.heap.size w w') : IsRec k enc w' v xs := by
 obtain ⟨a, cap, rfl, hc, hm, hr⟩ := h
 refine ⟨a, cap, rfl, hc, hm, ?_⟩
 rcases hr with hr | ⟨b, off, rfl, hlt, hcl⟩
 ·exact .inl hr
 ·exact .inr ⟨b, off, rfl, alNll hlt hb.size, fun j hj i u hu => (hb.cell (p := ⟨b, off + j * k + i, none⟩) hlt).trans (hcl j hj i u hu)⟩
theorem IsRec.shape {w : World} {v : Value} {xs : List α} (h : IsRec k enc w v xs) : ∃ a cap, v = .slice a xs.length cap ∧ xs.length ≤ cap ∧ cap ≤ 9223372036854775807 := by
 obtain ⟨a, cap, rfl, hc, hm, _⟩ := h; exact ⟨a, cap, rfl, hc, hm⟩
theorem RecAt.recs (hk : ∀ x, (enc x).length = k) (h0 : 0 < k) {n₀ : Nat} {w : World} {v : Value} {xs : List α} (h : RecAt t k enc n₀ w v xs) : IsRec k enc w v xs := by
 have h' := h
 rcases h.2 with ⟨rfl, hz⟩ | ⟨g, cap, cur, rfl, hb, hg, hnc, hcm, r⟩
 ·exact ⟨none, 0, by rw [hz], by omega, by omega, .inl (List.eq_nil_of_length_eq_zero hz)⟩
 ·refine ⟨_, cap, rfl, hnc, by unfold maxLen at hcm; omega, .inr ⟨g, 0, rfl, (Array.getElem?_eq_some_iff.1 hg).1, fun j hj i u hu => ?_⟩⟩
  have hi : i < k := by
   rcases Nat.lt_or_ge i k with h | h
   ·exact h
   ·rw [List.getElem?_eq_none (by rw [hk]; exact h)] at hu; cases hu
  have hjk : j * k + k ≤ xs.length * k := by rw [← Nat.succ_mul]; exact Nat.mul_le_mul_right k hj
  rw [Nat.zero_add, World.ownsRow.cellAt h' (j * k + i) (by omega), flat_get hk xs j hj i hi]
  exact hu
theorem RecAt.view (hk : ∀ x, (enc x).length = k) (h0 : 0 < k) {n₀ n cap : Nat} {w : World} {a : Option Addr} {xs : List α} (h : RecAt t k enc n₀ w (.slice a n cap) xs) (hn : n = xs.length) (hl : 0 < xs.length) : ∃ g, a = some ⟨g, 0, none⟩ ∧ n₀ ≤ g ∧ g < w.heap.size ∧
  (∀ j, j < xs.length → ∀ i u, (enc (recAt xs j))[i]? = some u → w.cell? ⟨g, j * k + i, none⟩ = some u) ∧ (∀ o, w.frozen? ⟨g, o, none⟩ = false) := by
 subst hn
 have h' := h
 rcases h.2 with ⟨hv, hz⟩ | ⟨g, cap', cur, hv, hb, hg, hnc, hcm, r⟩
 ·omega
 ·cases hv
  refine ⟨g, rfl, hb, (Array.getElem?_eq_some_iff.1 hg).1, fun j hj i u hu => ?_, fun o => World.ownsRow.frozenAt h' o⟩
  have hi : i < k := by
   rcases Nat.lt_or_ge i k with h | h
   ·exact h
   ·rw [List.getElem?_eq_none (by rw [hk]; exact h)] at hu; cases hu
  have hjk : j * k + k ≤ xs.length * k := by rw [← Nat.succ_mul]; exact Nat.mul_le_mul_right k hj
  rw [World.ownsRow.cellAt h' (j * k + i) (by omega), flat_get hk xs j hj i hi]
  exact hu
theorem RecAt.put (hk : ∀ x, (enc x).length = k) (h0 : 0 < k) {n₀ n cap g : Nat} {w : World} {xs : List α} (h : RecAt t k enc n₀ w (.slice (some ⟨g, 0, none⟩) n cap) xs) (hn : n = xs.length) {j : Nat} (hj : j < xs.length) (x : α) :
  RecAt t k enc n₀ (setW w g (j * k) (enc x)) (.slice (some ⟨g, 0, none⟩) n cap) (xs.set j x) ∧ w.grownBy (setW w g (j * k) (enc x)) (some g) := by
 subst hn
 obtain ⟨h1, h2⟩ := own_setW (enc x) (j * k) h
 rw [flat_set hk h0 xs j hj x] at h1
 refine ⟨?_, h2⟩
 unfold RecAt
 rw [alLls]
 exact h1
end
end Go.Proofs.YtgdpaigcmoifbaaGreat
namespace Go.Proofs.YtgdpaigcmoifbaaGreat
open Go.ChangeShapes Go.WideShapes Go.ChangeAt Go.RowKit Go.Sort
set_option linter.unusedVariables false
section
variable {α : Type} {t k : Nat} {enc : α → List Value}
def fillL (xs : List α) (z : α) (j : Nat) : List α := xs.take j ++ List.replicate (xs.length - j) z
theorem fillL_len {xs : List α} {z : α} {j : Nat} (h : j ≤ xs.length) : (fillL xs z j).length = xs.length := by unfold fillL; simp; omega
theorem fillL_zero (xs : List α) (z : α) : fillL xs z 0 = List.replicate xs.length z := by unfold fillL; simp
theorem fillL_all (xs : List α) (z : α) : fillL xs z xs.length = xs := by unfold fillL; simp
theorem fillL_set [Inhabited α] {xs : List α} {z : α} {j : Nat} (h : j < xs.length) : (fillL xs z j).set j (recAt xs j) = fillL xs z (j + 1) := by
 unfold fillL
 have hl : (xs.take j).length = j := by simp; omega
 rw [List.set_append_right _ _ (by rw [hl]; exact Nat.le_refl _), hl, Nat.sub_self, recAt_get h, List.take_succ_eq_append_getElem h, List.append_assoc]
 congr 1
 obtain ⟨m, hm⟩ : ∃ m, xs.length - j = m + 1 := ⟨xs.length - j - 1, by omega⟩
 rw [hm, List.replicate_succ, List.set_cons_zero, show xs.length - (j + 1) = m by omega]
 rfl
def markL (mk : Int → α) (d : Nat) (c : Int) (n : Nat) : List α := (List.range n).map fun i : Nat => mk (c + (d : Int) * (i : Int))
theorem markL_len (mk : Int → α) (d : Nat) (c : Int) (n : Nat) : (markL mk d c n).length = n := by simp [markL]
def markedL (mk : Int → α) (d : Nat) (c : Int) (xs : List α) (j : Nat) : List α := markL mk d c j ++ xs.drop j
theorem markedL_len {mk : Int → α} {d : Nat} {c : Int} {xs : List α} {j : Nat} (h : j ≤ xs.length) : (markedL mk d c xs j).length = xs.length := by unfold markedL; simp [markL_len]; omega
theorem markedL_zero (mk : Int → α) (d : Nat) (c : Int) (xs : List α) : markedL mk d c xs 0 = xs := by unfold markedL markL; simp
theorem markedL_all (mk : Int → α) (d : Nat) (c : Int) (xs : List α) : markedL mk d c xs xs.length = markL mk d c xs.length := by unfold markedL; simp
theorem markedL_set {mk : Int → α} {d : Nat} {c : Int} {xs : List α} {j : Nat} (h : j < xs.length) : (markedL mk d c xs j).set j (mk (c + (d : Int) * (j : Int))) = markedL mk d c xs (j + 1) := by
 unfold markedL
 rw [List.set_append_right _ _ (by rw [markL_len]; exact Nat.le_refl _), markL_len, Nat.sub_self, List.drop_eq_getElem_cons h, List.set_cons_zero]
 simp [markL, List.range_succ]
theorem made_flat [Inhabited α] (hk : ∀ x, (enc x).length = k) (h0 : 0 < k) (z : α) (zs : Array Value) (hz : zs.toList = enc z) (n : Nat) : (madeCells zs (n * k)).toList = flat enc (List.replicate n z) := by
 have hs : zs.size = k := by rw [← Array.length_toList, hz, hk]
 apply List.ext_getElem?
 intro m
 by_cases hm : m < n * k
 ·have hd : m / k < n := (Nat.div_lt_iff_lt_mul h0).2 hm
  have hr : m % k < k := Nat.mod_lt _ h0
  have he : m = m / k * k + m % k := by rw [Nat.mul_comm]; exact (Nat.div_add_mod m k).symm
  have hg := flat_get hk (List.replicate n z) (m / k) (by simpa using hd) (m % k) hr
  rw [← he] at hg
  have hrec : recAt (List.replicate n z) (m / k) = z := by unfold recAt; simp [List.getD, hd]
  rw [hg, hrec, ← hz]
  simp [madeCells, hm, hs, hr]
 ·rw [List.getElem?_eq_none (by simp [madeCells]; omega), List.getElem?_eq_none (by rw [flat_len hk]; simp; omega)]
end
end Go.Proofs.YtgdpaigcmoifbaaGreat
namespace Go.Proofs.YtgdpaigcmoifbaaGreat
open Go.ChangeShapes Go.WideShapes Go.ChangeAt Go.RowKit Go.Sort Go.Proofs.Tryz
set_option linter.unusedVariables false
abbrev GuildV := Int × Int × Int
def encGuild (p : GuildV) : List Value := [.int .i64 p.1, .int .i64 p.2.1, .int .i64 p.2.2]
theorem encGuild_len (p : GuildV) : (encGuild p).length = 3 := rfl
abbrev IsGuilds (w : World) (v : Value) (ps : List GuildV) : Prop := IsRec 3 encGuild w v ps
abbrev GuildsAt (n₀ : Nat) (w : World) (v : Value) (ps : List GuildV) : Prop := RecAt 145 3 encGuild n₀ w v ps
theorem infoGuild : (prog.info? 145).map (fun i => (i.zero, i.size, i.bytes)) = some (some (.agg #[.int .i64 0, .int .i64 0, .int .i64 0]), 3, 24) := by kernel_rfl
theorem GuildsAt.list {n₀ : Nat} {w : World} {v : Value} {ps : List GuildV} (h : GuildsAt n₀ w v ps) : IsGuilds w v ps := RecAt.recs encGuild_len (by omega) h
theorem guild_cells {w : World} {b off : Nat} {ps : List GuildV} (h : ∀ j, j < ps.length → ∀ i u, (encGuild (recAt ps j))[i]? = some u → w.cell? ⟨b, off + j * 3 + i, none⟩ = some u) {j : Nat} (hj : j < ps.length) :
  w.cell? ⟨b, off + j * 3, none⟩ = some (.int .i64 (recAt ps j).1) ∧ w.cell? ⟨b, off + j * 3 + 1, none⟩ = some (.int .i64 (recAt ps j).2.1) ∧ w.cell? ⟨b, off + j * 3 + 2, none⟩ = some (.int .i64 (recAt ps j).2.2) :=
 ⟨h j hj 0 _ rfl, h j hj 1 _ rfl, h j hj 2 _ rfl⟩
theorem szGuildS_any (a : Option Addr) (n cap : Nat) (left : Int) (hn : n ≤ 9223372036854775807) (h0 : 0 ≤ left) (h1 : left ≤ 1048576) (w : World) :
  cE 90 #[.slice a n cap, .int .i64 left] w (.int .i64 (szV n left)) := by
 by_cases h : left - n < 0
 all_goals
  go_enter func90, ntmps90
  go_wp2
  go_ret
  exact ⟨ret_int (by first | exact (szV_f (by omega)).symm | exact (szV_t (by omega)).symm), rfl⟩
theorem eqGuild_yes (x0 : Int) (x1 : Int) (x2 : Int) (w : World) :
  cB 155 #[.agg #[.int .i64 x0, .int .i64 x1, .int .i64 x2], .agg #[.int .i64 x0, .int .i64 x1, .int .i64 x2]] w (.bool true) := by
 go_enter func155, ntmps155
 go_wp2_with fail
 go_ret
 exact ⟨rfl, ((ba _ _)).alloc (by simp) _⟩
theorem eqGuildS_yes {w : World} {v u : Value} {ps : List GuildV} (hv : IsGuilds w v ps) (hu : IsGuilds w u ps) :
  cB 100 #[v, u] w (.bool true) := by
 obtain ⟨a, cap, rfl, hc, hm, hr⟩ := hv
 obtain ⟨a', cap', rfl, hc', hm', hr'⟩ := hu
 have Hr := hide hr
 have Hr' := hide hr'
 clear hr hr'
 go_enter func100, ntmps100
 go_wp2_with fail
 go_loopw [5] (fun i wr => ∃ k : Nat, k ≤ ps.length ∧ i = .int .i64 k ∧ Below w.heap.size w wr) (fun i _ => ps.length - (intOf i).toNat)
 case atStart => exact ⟨0, alNzl _, rfl, alBrf _ _⟩
 case round =>
  obtain ⟨k, hk, rfl, hb⟩ := hrel
  have Hb := hide hb
  by_cases hlt : k < ps.length
  ·rcases uh Hr with h0 | ⟨b, off, rfl, hbw, hcl⟩
   ·rw [h0] at hlt; simp at hlt
   rcases uh Hr' with h0 | ⟨b', off', rfl, hbw', hcl'⟩
   ·rw [h0] at hlt; simp at hlt
   obtain ⟨c0, c1, c2⟩ := guild_cells hcl hlt
   obtain ⟨d0, d1, d2⟩ := guild_cells hcl' hlt
   generalize recAt ps k = p at *
   obtain ⟨x0, x1, x2⟩ := p
   simp only at c0 c1 c2 d0 d1 d2
   have k0 := alCrg ((hb.cell (p := ⟨b, off + k * 3, none⟩) hbw).trans c0)
   have m0 := alCrg ((hb.cell (p := ⟨b', off' + k * 3, none⟩) hbw').trans d0)
   have k1 := alCrg ((hb.cell (p := ⟨b, off + k * 3 + 1, none⟩) hbw).trans c1)
   have m1 := alCrg ((hb.cell (p := ⟨b', off' + k * 3 + 1, none⟩) hbw').trans d1)
   have k2 := alCrg ((hb.cell (p := ⟨b, off + k * 3 + 2, none⟩) hbw).trans c2)
   have m2 := alCrg ((hb.cell (p := ⟨b', off' + k * 3 + 2, none⟩) hbw').trans d2)
   clear hcl hcl' hb c0 c1 c2 d0 d1 d2
   go_wp2_with fail
   refine wq ?_
   repeat (go_big_quiet_step (exact alCro (eqGuild_yes _ _ _ _)))
   refine wpQuiet_nil ?_
   intro _ hw'
   obtain ⟨⟨dq, osq⟩, hw''⟩ := hw'
   subst hw''
   go_wp2_with fail
   go_roundw
   case rel => exact ⟨k + 1, by omega, by go_num, (uh Hb).trans ((alBrg _ _ _).mono (uh Hb).size)⟩
   case measure => exact ms
  ·go_wp2_with fail
   go_ret
   exact ⟨rfl, hb⟩
theorem toGuild_any (x0 : Int) (x1 : Int) (x2 : Int) (w : World) :
  cB 151 #[.agg #[.int .i64 x0, .int .i64 x1, .int .i64 x2]] w (.agg #[.int .i64 x0, .int .i64 x1, .int .i64 x2]) := by
 go_enter func151, ntmps151
 go_wp2_with fail
 exact alBpr (v := .agg #[.int .i64 x0, .int .i64 x1, .int .i64 x2]) (by simp [results, results151, go_sem]) rfl ⟨rfl, (((ba _ _)).alloc (by simp) _).alloc (by simp; omega) _⟩
theorem toGuildS_any {w : World} {v : Value} {ps : List GuildV} (h : IsGuilds w v ps) (hs : ps.length ≤ 1048576) :
  Calls prog 95 #[v] w fun e w' => ∃ v', e = .returned v' ∧ GuildsAt w.heap.size w' v' ps ∧ Below w.heap.size w w' := by
 obtain ⟨a, cap, rfl, hc, hm, hr⟩ := h
 have Hr := hide hr
 clear hr
 obtain ⟨i0, hi, hz0, hz1, hz2⟩ := info_parts infoGuild
 go_enter func95, ntmps95
 go_wp2_with (at_make; refine wpList_make_full _ rfl _ _ 27 rfl w.heap.size 145 i0 (.agg #[.int .i64 0, .int .i64 0, .int .i64 0]) 3 underlying27 hi hz0 hz1 _ _ _ _ ps.length rfl rfl rfl rfl (by rw [hz2]; omega) (by unfold maxLen; omega) (alNlr _) ?_; intro w0 hown hgrow)
 have Hown : Hid (GuildsAt w.heap.size w0 (.slice (some ⟨w.heap.size, 0, none⟩) ps.length ps.length) (fillL ps (0, 0, 0) 0)) := hide (by
  rw [made_flat encGuild_len (by omega) (0, 0, 0) (Value.agg #[.int .i64 0, .int .i64 0, .int .i64 0]).cells rfl ps.length] at hown
  rw [fillL_zero]
  show w0.ownsRow _ _ _ _ (List.replicate ps.length _).length _
  rw [List.length_replicate]
  exact hown)
 have Hgr := hide hgrow
 clear hown hgrow
 go_loopw [4] (fun i wr => ∃ k : Nat, k ≤ ps.length ∧ i = .int .i64 k ∧ GuildsAt w.heap.size wr (.slice (some ⟨w.heap.size, 0, none⟩) ps.length ps.length) (fillL ps (0, 0, 0) k) ∧ Below w.heap.size w wr) (fun i _ => ps.length - (intOf i).toNat)
 case atStart => exact ⟨0, alNzl _, rfl, uh Hown, (alBrf _ _).grown (uh Hgr) (alNlr _) (fun k e => by cases e)⟩
 case round =>
  obtain ⟨k, hk, rfl, hown, hb⟩ := hrel
  have Hb := hide hb
  by_cases hlt : k < ps.length
  ·rcases uh Hr with h0 | ⟨b, off, rfl, hbw, hcl⟩
   ·rw [h0] at hlt; simp at hlt
   obtain ⟨c0, c1, c2⟩ := guild_cells hcl hlt
   rw [← hb.cell (p := ⟨b, off + k * 3, none⟩) hbw] at c0
   rw [← hb.cell (p := ⟨b, off + k * 3 + 1, none⟩) hbw] at c1
   rw [← hb.cell (p := ⟨b, off + k * 3 + 2, none⟩) hbw] at c2
   have Ho := hide hown
   have HS := hide (fillL_set (z := ((0, 0, 0) : GuildV)) hlt)
   generalize hp : recAt ps k = p at *
   obtain ⟨x0, x1, x2⟩ := p
   simp only at c0 c1 c2
   clear hcl hb hown hp
   go_wp2_with fail
   refine ck (toGuild_any _ _ _ _) fun w1 hb1 => ?_
   have ho1 := RecAt.later (uh Ho) hb1
   have hfl := fillL_len (z := ((0, 0, 0) : GuildV)) hk
   obtain ⟨g, hg, _, _, hcells, hfz⟩ := RecAt.view encGuild_len (by omega) ho1 hfl.symm (by omega)
   cases hg
   have hq := fun i u hu => hcells k (by omega) i u hu
   generalize recAt (fillL ps (0, 0, 0) k) k = old at hq
   have o0 := hq 0 _ rfl
   have f0 := hfz (k * 3)
   have o1 := hq 1 _ rfl
   have f1 := hfz (k * 3 + 1)
   have o2 := hq 2 _ rfl
   have f2 := hfz (k * 3 + 2)
   simp only [Nat.add_zero] at o0
   have Hp2 := hide (RecAt.put encGuild_len (by omega) ho1 hfl.symm (j := k) (by omega) (x0, x1, x2))
   have Hb1 := hide hb1
   have hsz := hb1.size
   have hsz0 := (uh Hb).size
   clear ho1 hb1 hcells hq hfz hfl
   go_wp2_with fail
   go_roundw
   case rel => exact ⟨k + 1, by omega, by go_num, by have h9 := (uh Hp2).1; rw [uh HS] at h9; exact h9, ((uh Hb).trans ((uh Hb1).mono hsz0)).trans (below_grown (uh Hp2).2 (alNlr _) (by omega))⟩
   case measure => exact ms
  ·obtain rfl : k = ps.length := by omega
   rw [fillL_all] at hown
   go_wp2_with fail
   go_ret
   exact ⟨_, rfl, hown, hb⟩
theorem isPace_any (f c : Int) (w : World) : cB 325 #[.agg #[.int .i64 f, .int .i64 c]] w (.bool (paceB (f, c))) := by
 cases h1 : inB f 1 1024
 ·go_enter func325, ntmps325
  go_wp2_with fail
  refine (liesFrom_any _ _ _ _).mono ?_
  rintro e w' ⟨rfl, rfl⟩
  go_wp2_with fail
  go_ret
  exact ⟨ret_bool (by unfold paceB; simp [h1]), (ba _ _)⟩
 ·go_enter func325, ntmps325
  go_wp2_with fail
  refine (liesFrom_any _ _ _ _).mono ?_
  rintro e w' ⟨rfl, rfl⟩
  go_wp2_with fail
  refine (liesFrom_any _ _ _ _).mono ?_
  rintro e w' ⟨rfl, rfl⟩
  go_wp2_with fail
  go_ret
  exact ⟨ret_bool (by unfold paceB; simp [h1]), (ba _ _)⟩
theorem isAbove_any (f c f' c' : Int) (w : World) : cB 326 #[.agg #[.int .i64 f, .int .i64 c], .agg #[.int .i64 f', .int .i64 c']] w (.bool (aboveB (f, c) (f', c'))) := by
 by_cases h1 : f' < f
 ·go_enter func326, ntmps326
  go_wp2_with fail
  all_goals
   go_ret
   exact ⟨ret_bool (by unfold aboveB; simp [h1]), ((ba _ _)).alloc (by simp) _⟩
 ·go_enter func326, ntmps326
  go_wp2_with fail
  all_goals
   go_ret
   exact ⟨ret_bool (by unfold aboveB; simp; omega), ((ba _ _)).alloc (by simp) _⟩
theorem stepB_p {ps : List PaceV} {k : Nat} {p : PaceV} (hp : paceAt ps k = p) (h : paceB p = false) : stepB ps k = false := by unfold stepB; rw [hp]; simp [h]
theorem stepB_0 {ps : List PaceV} {p : PaceV} (hp : paceAt ps 0 = p) (h : paceB p = true) : stepB ps 0 = true := by unfold stepB; rw [hp]; simp [h]
theorem stepB_s {ps : List PaceV} {k : Nat} {p q : PaceV} (hp : paceAt ps (k + 1) = p) (hq : paceAt ps k = q) (h : paceB p = true) : stepB ps (k + 1) = aboveB p q := by unfold stepB; simp [hp, hq, h]
theorem pacesOk_any {w : World} {v : Value} {ps : List PaceV} (h : IsPaces w v ps) :
  cB 316 #[v] w (.bool (pacesB ps)) := by
 obtain ⟨a, cap, rfl, hc, hm, hr⟩ := h
 have Hr := hide hr
 clear hr
 go_enter func316, ntmps316
 go_wp2_with fail
 go_loopw [7] (fun i wr => ∃ k : Nat, k ≤ ps.length ∧ i = .int .i64 k ∧ (∀ j, j < k → stepB ps j = true) ∧ Below w.heap.size w wr) (fun i _ => ps.length - (intOf i).toNat)
 case atStart => exact ⟨0, alNzl _, rfl, fun j hj => by omega, alBrf _ _⟩
 case round =>
  obtain ⟨k, hk, rfl, hst, hb⟩ := hrel
  have Hst := hide hst
  have Hb := hide hb
  clear hst
  by_cases hlt : k < ps.length
  ·rcases uh Hr with h0 | ⟨b, off, rfl, hbw, hcl⟩
   ·rw [h0] at hlt; simp at hlt
   have hbr : b < wr.heap.size := alNll hbw hb.size
   have hne : b ≠ wr.heap.size := alNol hbr
   obtain ⟨c0, c1⟩ := hcl k hlt
   rw [← hb.cell (p := ⟨b, off + k * 2, none⟩) hbw] at c0
   rw [← hb.cell (p := ⟨b, off + k * 2 + 1, none⟩) hbw] at c1
   generalize hp : paceAt ps k = p at c0 c1
   have Hp := hide hp
   clear hp
   obtain ⟨f, c⟩ := p
   simp only at c0 c1
   have d0 : (wr.alloc (.cells #[.int .i64 f, .int .i64 c] 139)).cell? ⟨wr.heap.size, 0, none⟩ = some (.int .i64 f) := by simp
   have d1 : (wr.alloc (.cells #[.int .i64 f, .int .i64 c] 139)).cell? ⟨wr.heap.size, 1, none⟩ = some (.int .i64 c) := by simp
   have k0 := alCrg d0
   have k1 := alCrg d1
   clear d0 d1
   cases hpb : paceB (f, c)
   ·clear hcl
    go_wp2_with fail
    refine wq ?_
    repeat (go_big_quiet_step (first | exact alCro (isPace_any _ _ _) | exact alCro (isAbove_any _ _ _ _ _)))
    refine wpQuiet_nil ?_
    intro _ hw'
    obtain ⟨⟨dq, osq⟩, hw''⟩ := hw'
    subst hw''
    go_wp2_with fail
    go_ret
    exact ⟨ret_bool (pacesB_f hlt (stepB_p (uh Hp) hpb)).symm, (uh Hb).trans (((alBrf _ _).alloc (uh Hb).size _).trans ((alBrg _ _ _).mono (by simp; have := (uh Hb).size; omega)))⟩
   ·by_cases hz : 0 < k
    ·have hd : decide (0 < k) = true := alDet hz
     obtain ⟨e0, e1⟩ := hcl (k - 1) (by omega)
     rw [← hb.cell (p := ⟨b, off + (k - 1) * 2, none⟩) hbw] at e0
     rw [← hb.cell (p := ⟨b, off + (k - 1) * 2 + 1, none⟩) hbw] at e1
     generalize hq : paceAt ps (k - 1) = q at e0 e1
     have Hq := hide hq
     clear hq
     obtain ⟨f', c'⟩ := q
     simp only at e0 e1
     have m0 := alCrg (w := wr.alloc (.cells #[.int .i64 f, .int .i64 c] 139)) (a := ⟨b, off + (k - 1) * 2, none⟩) (v := .int .i64 f') (by rw [World.cell?_alloc_old _ _ _ hne]; exact e0)
     have m1 := alCrg (w := wr.alloc (.cells #[.int .i64 f, .int .i64 c] 139)) (a := ⟨b, off + (k - 1) * 2 + 1, none⟩) (v := .int .i64 c') (by rw [World.cell?_alloc_old _ _ _ hne]; exact e1)
     clear hcl e0 e1
     cases hab : aboveB (f, c) (f', c')
     all_goals
      go_wp2_with fail
      refine wq ?_
      repeat (go_big_quiet_step (first | exact alCro (isPace_any _ _ _) | exact alCro (isAbove_any _ _ _ _ _)))
      refine wpQuiet_nil ?_
      intro _ hw'
      obtain ⟨⟨dq, osq⟩, hw''⟩ := hw'
      subst hw''
      go_wp2_with fail
     ·go_ret
      exact ⟨ret_bool (pacesB_f hlt (by obtain ⟨m, rfl⟩ : ∃ m, k = m + 1 := ⟨k - 1, by omega⟩; rw [stepB_s (uh Hp) (uh Hq) hpb]; exact hab)).symm, (uh Hb).trans (((alBrf _ _).alloc (uh Hb).size _).trans ((alBrg _ _ _).mono (by simp; have := (uh Hb).size; omega)))⟩
     ·have hs : stepB ps k = true := by obtain ⟨m, rfl⟩ : ∃ m, k = m + 1 := ⟨k - 1, by omega⟩; rw [stepB_s (uh Hp) (uh Hq) hpb]; exact hab
      go_roundw
      case rel => exact ⟨k + 1, by omega, by go_num, next_all (uh Hst) hs, (uh Hb).trans (((alBrf _ _).alloc (uh Hb).size _).trans ((alBrg _ _ _).mono (by simp; have := (uh Hb).size; omega)))⟩
      case measure => exact ms
    ·obtain rfl : k = 0 := by omega
     simp only [Nat.zero_mul, Nat.add_zero] at c0 c1
     clear hcl hz
     go_wp2_with fail
     refine wq ?_
     repeat (go_big_quiet_step (first | exact alCro (isPace_any _ _ _) | exact alCro (isAbove_any _ _ _ _ _)))
     refine wpQuiet_nil ?_
     intro _ hw'
     obtain ⟨⟨dq, osq⟩, hw''⟩ := hw'
     subst hw''
     go_wp2_with fail
     go_roundw
     case rel => exact ⟨1, by omega, by go_num, next_all (uh Hst) (stepB_0 (uh Hp) hpb), (uh Hb).trans (((alBrf _ _).alloc (uh Hb).size _).trans ((alBrg _ _ _).mono (by simp; have := (uh Hb).size; omega)))⟩
     case measure => exact ms
  ·obtain rfl : k = ps.length := by omega
   go_wp2_with fail
   go_ret
   exact ⟨ret_bool (pacesB_t (uh Hst)).symm, hb⟩
open Go.ChangeShapes Go.WideShapes Go.ChangeAt Go.RowKit Go.Sort
def pairB (lo hi : Int) : Bool := inB lo 0 1024 && inB hi 0 1024 && decide (lo ≤ hi)
theorem pairB_of {lo hi : Int} (h : pairB lo hi = true) : 0 ≤ lo ∧ lo ≤ 1024 ∧ 0 ≤ hi ∧ hi ≤ 1024 ∧ lo ≤ hi := by
 unfold pairB at h
 simp only [alBae, alDte] at h
 obtain ⟨⟨h1, h2⟩, h3⟩ := h
 exact ⟨(inB_of h1).1, (inB_of h1).2, (inB_of h2).1, (inB_of h2).2, h3⟩
def guildB (g : GuildV) (n : Int) : Bool := inB g.1 (-1) (n - 1) && pairB g.2.1 g.2.2
theorem guildB_of {g : GuildV} {n : Int} (h : guildB g n = true) : -1 ≤ g.1 ∧ g.1 ≤ n - 1 ∧ pairB g.2.1 g.2.2 = true := by
 unfold guildB at h
 simp only [alBae] at h
 exact ⟨(inB_of h.1).1, (inB_of h.1).2, h.2⟩
def upToB (ps : List GuildV) (k : Nat) : Bool := (List.range k).all fun i => guildB (recAt ps i) i
theorem upToB_succ (ps : List GuildV) (k : Nat) : upToB ps (k + 1) = (upToB ps k && guildB (recAt ps k) k) := by unfold upToB; rw [List.range_succ, List.all_append]; simp
theorem upToB_f {ps : List GuildV} {k n : Nat} (hk : k < n) (h : guildB (recAt ps k) k = false) : upToB ps n = false := by
 unfold upToB
 rw [List.all_eq_false]
 exact ⟨k, List.mem_range.2 hk, by simp [h]⟩
theorem upToB_at {ps : List GuildV} {k n : Nat} (h : upToB ps n = true) (hk : k < n) : guildB (recAt ps k) k = true := by
 unfold upToB at h
 exact List.all_eq_true.1 h k (List.mem_range.2 hk)
def guildsB (ps : List GuildV) : Bool := upToB ps ps.length && decide (ps.length ≤ 6)
theorem guildsB_of {ps : List GuildV} (h : guildsB ps = true) : upToB ps ps.length = true ∧ ps.length ≤ 6 := by
 unfold guildsB at h
 simpa using h
theorem guildsB_f {ps : List GuildV} {k : Nat} (hk : k < ps.length) (h : guildB (recAt ps k) k = false) : guildsB ps = false := by unfold guildsB; rw [upToB_f hk h]; rfl
theorem guildsB_long {ps : List GuildV} (h : 6 < ps.length) : guildsB ps = false := by unfold guildsB; simp; omega
theorem guildsB_at {ps : List GuildV} (h : guildsB ps = true) {g : Int} (h0 : 0 ≤ g) (h1 : g < ps.length) : -1 ≤ (recAt ps g.toNat).1 ∧ (recAt ps g.toNat).1 ≤ g - 1 ∧ pairB (recAt ps g.toNat).2.1 (recAt ps g.toNat).2.2 = true := by
 have := guildB_of (upToB_at (guildsB_of h).1 (k := g.toNat) (by omega))
 rw [show ((g.toNat : Nat) : Int) = g by omega] at this
 exact this
def narV (b : Int × Int) (lo hi : Int) : Int × Int := (min (max lo b.1) b.2, min (max hi (min (max lo b.1) b.2)) b.2)
def bndN (ps : List GuildV) : Nat → Int → Int × Int
 | 0, _ => (0, 1024)
 | n + 1, g => if g < 0 then (0, 1024) else narV (bndN ps n (recAt ps g.toNat).1) (recAt ps g.toNat).2.1 (recAt ps g.toNat).2.2
def bnd (ps : List GuildV) (g : Int) : Int × Int := bndN ps (g + 1).toNat g
theorem narV_bd {b : Int × Int} {lo hi : Int} (h0 : 0 ≤ b.1) (h1 : b.1 ≤ b.2) (h2 : b.2 ≤ 1024) : b.1 ≤ (narV b lo hi).1 ∧ (narV b lo hi).1 ≤ (narV b lo hi).2 ∧ (narV b lo hi).2 ≤ b.2 := by
 unfold narV
 refine ⟨?_, ?_, ?_⟩ <;> simp only <;> omega
theorem bndN_bd (ps : List GuildV) : ∀ (n : Nat) (g : Int), 0 ≤ (bndN ps n g).1 ∧ (bndN ps n g).1 ≤ (bndN ps n g).2 ∧ (bndN ps n g).2 ≤ 1024
 | 0, g => by unfold bndN; simp
 | n + 1, g => by
  unfold bndN
  split
  ·simp
  ·obtain ⟨h0, h1, h2⟩ := bndN_bd ps n (recAt ps g.toNat).1
   obtain ⟨h3, h4, h5⟩ := narV_bd (lo := (recAt ps g.toNat).2.1) (hi := (recAt ps g.toNat).2.2) h0 h1 h2
   exact ⟨by omega, h4, by omega⟩
theorem bnd_bd (ps : List GuildV) (g : Int) : 0 ≤ (bnd ps g).1 ∧ (bnd ps g).1 ≤ (bnd ps g).2 ∧ (bnd ps g).2 ≤ 1024 := bndN_bd ps _ g
theorem bndN_more {ps : List GuildV} (h : guildsB ps = true) : ∀ (n m : Nat) (g : Int), g < n → g < m → g < ps.length → bndN ps n g = bndN ps m g
 | 0, 0, g, _, _, _ => rfl
 | 0, m + 1, g, h1, h2, h3 => by unfold bndN; rw [if_pos (by omega)]
 | n + 1, 0, g, h1, h2, h3 => by unfold bndN; rw [if_pos (by omega)]
 | n + 1, m + 1, g, h1, h2, h3 => by
  unfold bndN
  by_cases h0 : g < 0
  ·rw [if_pos h0, if_pos h0]
  ·rw [if_neg h0, if_neg h0]
   obtain ⟨a0, a1, _⟩ := guildsB_at h (g := g) (by omega) h3
   rw [bndN_more h n m (recAt ps g.toNat).1 (by omega) (by omega) (by omega)]
theorem bnd_none (ps : List GuildV) {g : Int} (h : g < 0) : bnd ps g = (0, 1024) := by
 unfold bnd
 rw [show (g + 1).toNat = 0 by omega]; rfl
theorem bnd_step {ps : List GuildV} (h : guildsB ps = true) {g : Int} (h0 : 0 ≤ g) (h1 : g < ps.length) : bnd ps g = narV (bnd ps (recAt ps g.toNat).1) (recAt ps g.toNat).2.1 (recAt ps g.toNat).2.2 := by
 obtain ⟨a0, a1, _⟩ := guildsB_at h h0 h1
 unfold bnd
 rw [show (g + 1).toNat = g.toNat + 1 by omega]
 show (if g < 0 then (0, 1024) else _) = _
 rw [if_neg (by omega), bndN_more h g.toNat ((recAt ps g.toNat).1 + 1).toNat _ (by omega) (by omega) (by omega)]
def isB (ps : List GuildV) (g : Int) : Bool := guildsB ps && inB g (-1) ((ps.length : Int) - 1)
def withinV (ps : List GuildV) (g lo hi : Int) : Int × Int := if isB ps g && pairB lo hi then narV (bnd ps g) lo hi else (-1, -1)
theorem withinV_f {ps : List GuildV} {g lo hi : Int} (h : (isB ps g && pairB lo hi) = false) : withinV ps g lo hi = (-1, -1) := by unfold withinV; rw [h]; rfl
theorem withinV_t {ps : List GuildV} {g lo hi : Int} (h : isB ps g = true) (h' : pairB lo hi = true) : withinV ps g lo hi = narV (bnd ps g) lo hi := by unfold withinV; rw [h, h']; rfl
theorem pairB_t {lo hi : Int} (h0 : 0 ≤ lo) (h1 : lo ≤ hi) (h2 : hi ≤ 1024) : pairB lo hi = true := by unfold pairB; rw [inB_t h0 (by omega), inB_t (by omega) h2]; simp; omega
theorem pairB_f {lo hi : Int} (h : lo < 0 ∨ hi < lo ∨ 1024 < hi) : pairB lo hi = false := by
 cases e : pairB lo hi
 ·rfl
 ·have := pairB_of e; omega
theorem areBounds_any (lo hi : Int) (w : World) : cE 283 #[.int .i64 lo, .int .i64 hi] w (.bool (pairB lo hi)) := by
 by_cases h1 : 0 ≤ lo
 ·by_cases h2 : lo ≤ hi
  ·by_cases h3 : hi ≤ 1024
   all_goals
    go_enter func283, ntmps283
    go_wp2
    go_ret
    exact ⟨ret_bool (by first | exact (pairB_t h1 h2 h3).symm | exact (pairB_f (by omega)).symm), rfl⟩
  ·go_enter func283, ntmps283
   go_wp2
   go_ret
   exact ⟨ret_bool (pairB_f (by omega)).symm, rfl⟩
 ·go_enter func283, ntmps283
  go_wp2
  go_ret
  exact ⟨ret_bool (pairB_f (by omega)).symm, rfl⟩
theorem guildOk_any (a lo hi n : Int) (w : World) : cB 230 #[.agg #[.int .i64 a, .int .i64 lo, .int .i64 hi], .int .i64 n] w (.bool (guildB (a, lo, hi) n)) := by
 by_cases h1 : -1 ≤ a
 ·by_cases h2 : a < n
  ·have hg : guildB (a, lo, hi) n = pairB lo hi := by unfold guildB; rw [inB_t h1 (by omega)]; rfl
   rw [hg]; clear hg
   go_enter func230, ntmps230
   go_wp2_with (go_at_call 283; refine (areBounds_any _ _ _).mono ?_; rintro e w' ⟨rfl, rfl⟩)
   go_ret
   exact ⟨rfl, (ba _ _)⟩
  ·have hg : guildB (a, lo, hi) n = false := by unfold guildB; rw [inB_f (.inr (by omega))]; rfl
   rw [hg]; clear hg
   go_enter func230, ntmps230
   go_wp2_with fail
   go_ret
   exact ⟨rfl, (ba _ _)⟩
 ·have hg : guildB (a, lo, hi) n = false := by unfold guildB; rw [inB_f (.inl (by omega))]; rfl
  rw [hg]; clear hg
  go_enter func230, ntmps230
  go_wp2_with fail
  go_ret
  exact ⟨rfl, (ba _ _)⟩
theorem implGuildsOk_any {w : World} {v : Value} {ps : List GuildV} (h : IsGuilds w v ps) :
  cB 214 #[v] w (.bool (guildsB ps)) := by
 obtain ⟨a, cap, rfl, hc, hm, hr⟩ := h
 have Hr := hide hr
 clear hr
 by_cases hbig : 6 < ps.length
 ·go_enter func214, ntmps214
  go_wp2_with fail
  go_ret
  exact ⟨ret_bool (guildsB_long hbig).symm, alBrf _ _⟩
 go_enter func214, ntmps214
 go_wp2_with fail
 go_loopw [10] (fun i wr => ∃ k : Nat, k ≤ ps.length ∧ i = .int .i64 k ∧ upToB ps k = true ∧ Below w.heap.size w wr) (fun i _ => ps.length - (intOf i).toNat)
 case atStart => exact ⟨0, alNzl _, rfl, rfl, alBrf _ _⟩
 case round =>
  obtain ⟨k, hk, rfl, hst, hb⟩ := hrel
  have Hst := hide hst
  have Hb := hide hb
  clear hst
  by_cases hlt : k < ps.length
  ·rcases uh Hr with h0 | ⟨b, off, rfl, hbw, hcl⟩
   ·rw [h0] at hlt; simp at hlt
   have hbr : b < wr.heap.size := alNll hbw hb.size
   obtain ⟨c0, c1, c2⟩ := guild_cells hcl hlt
   rw [← hb.cell (p := ⟨b, off + k * 3, none⟩) hbw] at c0
   rw [← hb.cell (p := ⟨b, off + k * 3 + 1, none⟩) hbw] at c1
   rw [← hb.cell (p := ⟨b, off + k * 3 + 2, none⟩) hbw] at c2
   generalize hp : recAt ps k = p at c0 c1 c2
   have Hp := hide hp
   clear hp
   obtain ⟨x0, x1, x2⟩ := p
   simp only at c0 c1 c2
   have hsz := hb.size
   clear hcl hb
   go_wp2_with fail
   refine ck (guildOk_any _ _ _ _ _) fun w1 hb1 => ?_
   have Hb1 := hide ((uh Hb).trans (((alBrf _ _).alloc hsz _).trans (hb1.mono (by simp; omega))))
   clear hb1
   cases hg : guildB (x0, x1, x2) k
   ·go_wp2_with fail
    go_ret
    exact ⟨ret_bool (guildsB_f hlt (by rw [uh Hp]; exact hg)).symm, uh Hb1⟩
   ·go_wp2_with fail
    go_roundw
    case rel => exact ⟨k + 1, by omega, by go_num, by rw [upToB_succ, uh Hst, uh Hp, hg]; rfl, uh Hb1⟩
    case measure => exact ms
  ·obtain rfl : k = ps.length := by omega
   go_wp2_with fail
   go_ret
   exact ⟨ret_bool (by unfold guildsB; rw [uh Hst]; simp; omega), hb⟩
theorem narrowed_any (a lo hi l h : Int) (w : World) : Calls prog 232 #[.agg #[.int .i64 a, .int .i64 lo, .int .i64 hi], .int .i64 l, .int .i64 h] w
  fun e w' => e = .returned (.tuple #[.int .i64 (narV (lo, hi) l h).1, .int .i64 (narV (lo, hi) l h).2]) ∧ Below w.heap.size w w' := by
 unfold narV
 go_enter func232, ntmps232
 go_wp2_with (go_at_call 185; refine (implClamped_any _ _ _ _).mono ?_; rintro e w' ⟨rfl, rfl⟩)
 go_ret2
 exact ⟨rfl, (ba _ _)⟩
theorem settled_any (a lo hi a' l h : Int) (w : World) : Calls prog 284 #[.agg #[.int .i64 a, .int .i64 lo, .int .i64 hi, .int .i64 a', .int .i64 l, .int .i64 h]] w
  fun e w' => e = .returned (.agg #[.int .i64 a', .int .i64 (narV (lo, hi) l h).1, .int .i64 (narV (lo, hi) l h).2]) ∧ Below w.heap.size w w' := by
 go_enter func284, ntmps284
 go_wp2_with fail
 refine ck (narrowed_any _ _ _ _ _ _) fun w1 hb1 => ?_
 have hz : w.heap.size + 1 < w1.heap.size := by have := hb1.size; simp at this; omega
 have Hb1 := hide hb1
 obtain ⟨hc, hf⟩ := bcell hb1
 clear hb1
 go_wp2_with fail
 exact alBpr (v := .agg #[.int .i64 a', .int .i64 (narV (lo, hi) l h).1, .int .i64 (narV (lo, hi) l h).2]) (by simp [results, results284, go_sem, hc]) rfl
  ⟨rfl, ((((((ba _ _)).alloc (by simp) _).trans ((uh Hb1).mono (by simp; omega))).setCell (by simp) _).setCell (by simp) _).setCell (by simp) _⟩
theorem settledAt_any {ps : List GuildV} (hg : guildsB ps = true) : ∀ (n : Nat) (g : Int) {w : World} {v : Value}, IsGuilds w v ps → -1 ≤ g → g < n → g < ps.length →
  Calls prog 231 #[v, .int .i64 g] w fun e w' => ∃ x, e = .returned (.agg #[.int .i64 x, .int .i64 (bnd ps g).1, .int .i64 (bnd ps g).2]) ∧ Below w.heap.size w w' := by
 intro n
 induction n with
 | zero =>
  intro g w v h h0 h1 h2
  obtain rfl : g = -1 := by omega
  rw [bnd_none ps (by omega)]
  obtain ⟨a, cap, rfl, _⟩ := h
  go_enter func231, ntmps231
  go_wp2_with fail
  exact alBpr (v := .agg #[.int .i64 (-1), .int .i64 0, .int .i64 1024]) (by simp [results, results231, go_sem]) rfl ⟨-1, rfl, (ba _ _)⟩
 | succ n ih =>
  intro g w v h h0 h1 h2
  by_cases hg0 : g = -1
  ·subst hg0
   rw [bnd_none ps (by omega)]
   obtain ⟨a, cap, rfl, _⟩ := h
   go_enter func231, ntmps231
   go_wp2_with fail
   exact alBpr (v := .agg #[.int .i64 (-1), .int .i64 0, .int .i64 1024]) (by simp [results, results231, go_sem]) rfl ⟨-1, rfl, (ba _ _)⟩
  ·obtain ⟨k, rfl⟩ : ∃ k : Nat, g = k := ⟨g.toNat, by omega⟩
   have hlt : k < ps.length := by omega
   obtain ⟨a0, a1, _⟩ := guildsB_at hg (g := (k : Int)) (by omega) h2
   have hs := bnd_step hg (g := (k : Int)) (by omega) h2
   rw [show ((k : Int)).toNat = k by omega] at a0 a1 hs
   rw [hs]
   clear hs
   have Hi := hide h
   obtain ⟨a, cap, rfl, hc, hm, hr⟩ := h
   rcases hr with hz | ⟨b, off, rfl, hbw, hcl⟩
   ·rw [hz] at hlt; simp at hlt
   obtain ⟨c0, c1, c2⟩ := guild_cells hcl hlt
   clear hcl
   generalize hW : w.alloc (.cells #[.int .i64 0, .int .i64 0, .int .i64 0] 145) = W
   have HB : Hid (Below w.heap.size w W) := hide (by rw [← hW]; exact (ba _ _))
   have hsz : w.heap.size < W.heap.size := by rw [← hW]; simp
   have hbW : b < W.heap.size := by omega
   rw [← (uh HB).cell (p := ⟨b, off + k * 3, none⟩) hbw] at c0
   rw [← (uh HB).cell (p := ⟨b, off + k * 3 + 1, none⟩) hbw] at c1
   rw [← (uh HB).cell (p := ⟨b, off + k * 3 + 2, none⟩) hbw] at c2
   have D : Hid ((∃ u, W.cell? ⟨w.heap.size, 0, none⟩ = some u) ∧ (∃ u, W.cell? ⟨w.heap.size, 1, none⟩ = some u) ∧ (∃ u, W.cell? ⟨w.heap.size, 2, none⟩ = some u) ∧ W.frozen? ⟨w.heap.size, 0, none⟩ = false ∧ W.frozen? ⟨w.heap.size, 1, none⟩ = false ∧ W.frozen? ⟨w.heap.size, 2, none⟩ = false) :=
    hide (by rw [← hW]; exact ⟨⟨_, by simp; rfl⟩, ⟨_, by simp; rfl⟩, ⟨_, by simp; rfl⟩, by simp, by simp, by simp⟩)
   have HW := hide hW
   clear hW
   have Hc := hide (And.intro c0 (And.intro c1 c2))
   generalize hp : recAt ps k = p at *
   obtain ⟨x0, x1, x2⟩ := p
   simp only at c0 c1 c2 a0 a1
   have ih' := fun (w : World) (v : Value) (h : IsGuilds w v ps) => ih x0 h a0 (by omega) (by omega)
   have Ih := hide ih'
   clear ih ih' hp
   go_enter func231, ntmps231
   go_wp2_with fail
   rw [uh HW]
   go_region_with (first
    | (go_at_call 231; refine (uh Ih _ _ ?_).mono ?_; (first | exact (uh Hi).below (uh HB) | exact ((uh Hi).below (uh HB)).below ((alBrf _ _).drew)); rintro e w1 ⟨y, rfl, hb1⟩; have B1 : Hid (Below W.heap.size W w1) := hide (by first | exact hb1 | exact ((alBrf _ _).drew).trans (hb1.mono (by simp))); have e0 := ((uh B1).cell (p := ⟨b, off + k * 3, none⟩) hbW).trans (uh Hc).1; have e1 := ((uh B1).cell (p := ⟨b, off + k * 3 + 1, none⟩) hbW).trans (uh Hc).2.1; have e2 := ((uh B1).cell (p := ⟨b, off + k * 3 + 2, none⟩) hbW).trans (uh Hc).2.2; clear hb1)
    | (go_at_call 284; refine (settled_any _ _ _ _ _ _ _).mono ?_; rintro e w2 ⟨rfl, hb2⟩; have B2 : Hid (Below W.heap.size W w2) := hide ((uh B1).trans (hb2.mono (uh B1).size)); obtain ⟨⟨u0, q0⟩, ⟨u1, q1⟩, ⟨u2, q2⟩, f0, f1, f2⟩ := uh D; have d0 := ((uh B2).cell (p := ⟨w.heap.size, 0, none⟩) hsz).trans q0; have d1 := ((uh B2).cell (p := ⟨w.heap.size, 1, none⟩) hsz).trans q1; have d2 := ((uh B2).cell (p := ⟨w.heap.size, 2, none⟩) hsz).trans q2; have z0 := ((uh B2).frozen (p := ⟨w.heap.size, 0, none⟩) hsz).trans f0; have z1 := ((uh B2).frozen (p := ⟨w.heap.size, 1, none⟩) hsz).trans f1; have z2 := ((uh B2).frozen (p := ⟨w.heap.size, 2, none⟩) hsz).trans f2; clear hb2 q0 q1 q2 f0 f1 f2))
   all_goals
    go_wp2_with fail
    exact alBpr (v := .agg #[.int .i64 x0, .int .i64 (narV (bnd ps x0) x1 x2).1, .int .i64 (narV (bnd ps x0) x1 x2).2]) (by simp [results, results231, go_sem, d0, d1, d2]) rfl
     ⟨x0, rfl, ((((uh HB).trans ((uh B2).mono (by omega))).setCell (alNlr _) _).setCell (alNlr _) _).setCell (alNlr _) _⟩
theorem implWithin_any {w : World} {v : Value} {ps : List GuildV} (g lo hi : Int) (h : IsGuilds w v ps) :
  cB 184 #[v, .int .i64 g, .int .i64 lo, .int .i64 hi] w (.tuple #[.int .i64 (withinV ps g lo hi).1, .int .i64 (withinV ps g lo hi).2]) := by
 have Hi := hide h
 obtain ⟨a, cap, rfl, hc, hm, hr⟩ := h
 clear hr
 generalize hW : w.alloc (.cells #[.int .i64 g, .int .i64 lo, .int .i64 hi] 145) = W
 have HB : Hid (Below w.heap.size w W) := hide (by rw [← hW]; exact (ba _ _))
 have hsz : w.heap.size < W.heap.size := by rw [← hW]; simp
 have D : Hid (W.cell? ⟨w.heap.size, 0, none⟩ = some (.int .i64 g) ∧ W.cell? ⟨w.heap.size, 1, none⟩ = some (.int .i64 lo) ∧ W.cell? ⟨w.heap.size, 2, none⟩ = some (.int .i64 hi)) := hide (by rw [← hW]; simp)
 have HW := hide hW
 clear hW
 have hsv : (guildsB ps && guildB (g, lo, hi) ps.length) = (isB ps g && pairB lo hi) := by unfold guildB isB; rw [Bool.and_assoc]
 cases hG : guildsB ps
 ·rw [withinV_f (by rw [← hsv, hG]; rfl)]
  clear hsv
  go_enter func184, ntmps184
  go_wp2_with fail
  rw [uh HW]
  refine (implGuildsOk_any ((uh Hi).below (uh HB))).mono ?_
  rw [hG]
  rintro e w1 ⟨rfl, hb1⟩
  have B1 := hide ((uh HB).trans (hb1.mono (by omega)))
  clear hb1
  go_wp2_with fail
  go_ret2
  exact ⟨rfl, uh B1⟩
 ·cases hQ : guildB (g, lo, hi) ps.length
  ·rw [withinV_f (by rw [← hsv, hG, hQ]; rfl)]
   clear hsv
   go_enter func184, ntmps184
   go_wp2_with fail
   rw [uh HW]
   refine (implGuildsOk_any ((uh Hi).below (uh HB))).mono ?_
   rw [hG]
   rintro e w1 ⟨rfl, hb1⟩
   have d0 := (hb1.cell (p := ⟨w.heap.size, 0, none⟩) hsz).trans (uh D).1
   have d1 := (hb1.cell (p := ⟨w.heap.size, 1, none⟩) hsz).trans (uh D).2.1
   have d2 := (hb1.cell (p := ⟨w.heap.size, 2, none⟩) hsz).trans (uh D).2.2
   have B1 := hide ((uh HB).trans (hb1.mono (by omega)))
   clear hb1
   go_wp2_with fail
   refine (guildOk_any _ _ _ _ _).mono ?_
   rw [hQ]
   rintro e w2 ⟨rfl, hb2⟩
   have B2 := hide ((uh B1).trans (hb2.mono (uh B1).size))
   clear hb2
   go_wp2_with fail
   go_ret2
   exact ⟨rfl, uh B2⟩
  ·obtain ⟨g0, g1, g2⟩ := guildB_of hQ
   have hisB : isB ps g = true := by unfold isB; rw [hG, inB_t g0 (by simpa using g1)]; rfl
   rw [withinV_t hisB g2]
   clear hsv hisB
   have hlt : g < ps.length := by simp only at g1; omega
   simp only at g0
   go_enter func184, ntmps184
   go_wp2_with fail
   rw [uh HW]
   refine (implGuildsOk_any ((uh Hi).below (uh HB))).mono ?_
   rw [hG]
   rintro e w1 ⟨rfl, hb1⟩
   have d0 := (hb1.cell (p := ⟨w.heap.size, 0, none⟩) hsz).trans (uh D).1
   have d1 := (hb1.cell (p := ⟨w.heap.size, 1, none⟩) hsz).trans (uh D).2.1
   have d2 := (hb1.cell (p := ⟨w.heap.size, 2, none⟩) hsz).trans (uh D).2.2
   have B1 := hide ((uh HB).trans (hb1.mono (by omega)))
   clear hb1
   go_wp2_with fail
   refine (guildOk_any _ _ _ _ _).mono ?_
   rw [hQ]
   rintro e w2 ⟨rfl, hb2⟩
   have B2 := hide ((uh B1).trans (hb2.mono (uh B1).size))
   clear hb2
   go_wp2_with fail
   refine (settledAt_any hG (g + 1).toNat g ((uh Hi).below (uh B2)) g0 (by omega) hlt).mono ?_
   rintro e w3 ⟨x, rfl, hb3⟩
   have B3 := hide ((uh B2).trans (hb3.mono (uh B2).size))
   clear hb3
   go_wp2_with fail
   refine ck (narrowed_any _ _ _ _ _ _) fun w4 hb4 => ?_
   have B4 := hide ((uh B3).trans (hb4.mono (uh B3).size))
   clear hb4
   go_wp2_with fail
   go_ret2
   exact ⟨rfl, uh B4⟩
theorem drewN_below {B : Nat} {w w' : World} (h : Below B w w') (n : Nat) : Below B w (w'.drewN n) := ⟨h.os, h.tape, h.output, h.size, h.block⟩
theorem guildForce_any (x : Int) (w : World) : cE 197 #[.int .i64 x] w (.bool (inB x 0 1024)) := by
 go_enter func197, ntmps197
 go_wp2_with (go_at_call 129; refine (l1In_any _ _ _ _).mono ?_; rintro e w' ⟨rfl, rfl⟩)
 go_ret
 exact ⟨rfl, rfl⟩
theorem l8Pair_any (lo hi : Int) (w : World) : cE 193 #[.int .i64 lo, .int .i64 hi] w (.bool (pairB lo hi)) := by
 cases h1 : inB lo 0 1024
 ·have hp : pairB lo hi = false := by unfold pairB; rw [h1]; rfl
  rw [hp]; clear hp
  go_enter func193, ntmps193
  go_wp2_with (go_at_call 197; refine (guildForce_any _ _).mono ?_; rintro e w' ⟨rfl, rfl⟩)
  go_ret
  exact ⟨rfl, rfl⟩
 ·cases h2 : inB hi 0 1024
  ·have hp : pairB lo hi = false := by unfold pairB; rw [h1, h2]; rfl
   rw [hp]; clear hp
   go_enter func193, ntmps193
   go_wp2_with (go_at_call 197; refine (guildForce_any _ _).mono ?_; rintro e w' ⟨rfl, rfl⟩)
   go_ret
   exact ⟨rfl, rfl⟩
  ·have hp : pairB lo hi = decide (lo ≤ hi) := by unfold pairB; rw [h1, h2]; rfl
   rw [hp]; clear hp
   by_cases h3 : lo ≤ hi
   all_goals
    go_enter func193, ntmps193
    go_wp2_with (go_at_call 197; refine (guildForce_any _ _).mono ?_; rintro e w' ⟨rfl, rfl⟩)
    go_ret
    exact ⟨ret_bool (by first | (simp; done) | (simp; omega)), rfl⟩
theorem specGuildsOk_any {w : World} {v : Value} {ps : List GuildV} (h : IsGuilds w v ps) :
  cB 132 #[v] w (.bool (guildsB ps)) := by
 obtain ⟨a, cap, rfl, hc, hm, hr⟩ := h
 have Hr := hide hr
 clear hr
 go_enter func132, ntmps132
 go_wp2_with fail
 go_loopw [3] (fun i wr => ∃ k : Nat, k ≤ ps.length ∧ i = .int .i64 k ∧ upToB ps k = true ∧ Below w.heap.size w wr) (fun i _ => ps.length - (intOf i).toNat)
 case atStart => exact ⟨0, alNzl _, rfl, rfl, alBrf _ _⟩
 case round =>
  obtain ⟨k, hk, rfl, hst, hb⟩ := hrel
  have Hst := hide hst
  have Hb := hide hb
  clear hst
  by_cases hlt : k < ps.length
  ·rcases uh Hr with h0 | ⟨b, off, rfl, hbw, hcl⟩
   ·rw [h0] at hlt; simp at hlt
   obtain ⟨c0, c1, c2⟩ := guild_cells hcl hlt
   rw [← hb.cell (p := ⟨b, off + k * 3, none⟩) hbw] at c0
   rw [← hb.cell (p := ⟨b, off + k * 3 + 1, none⟩) hbw] at c1
   rw [← hb.cell (p := ⟨b, off + k * 3 + 2, none⟩) hbw] at c2
   generalize hp : recAt ps k = p at c0 c1 c2
   have Hp := hide hp
   clear hp
   obtain ⟨x0, x1, x2⟩ := p
   simp only at c0 c1 c2
   clear hcl hb
   have hg : guildB (x0, x1, x2) k = (inB x0 (-1) ((k : Int) - 1) && pairB x1 x2) := rfl
   have Hg := hide hg
   clear hg
   cases h1 : inB x0 (-1) ((k : Int) - 1)
   ·go_wp2_with fail
    go_quiet (first | exact alCqs (l1In_any _ _ _ _) | exact alCqs (l8Pair_any _ _ _))
    go_wp2_with fail
    go_ret
    exact ⟨ret_bool (guildsB_f hlt (by rw [uh Hp, uh Hg, h1]; rfl)).symm, drewN_below (uh Hb) _⟩
   cases h2 : pairB x1 x2
   ·go_wp2_with fail
    go_quiet (first | exact alCqs (l1In_any _ _ _ _) | exact alCqs (l8Pair_any _ _ _))
    go_wp2_with fail
    go_ret
    exact ⟨ret_bool (guildsB_f hlt (by rw [uh Hp, uh Hg, h1, h2]; rfl)).symm, drewN_below (uh Hb) _⟩
   ·go_wp2_with fail
    go_quiet (first | exact alCqs (l1In_any _ _ _ _) | exact alCqs (l8Pair_any _ _ _))
    go_wp2_with fail
    go_roundw
    case rel => exact ⟨k + 1, by omega, by go_num, by rw [upToB_succ, uh Hst, uh Hp, uh Hg, h1, h2]; rfl, drewN_below (uh Hb) _⟩
    case measure => exact ms
  ·obtain rfl : k = ps.length := by omega
   by_cases hbig : ps.length ≤ 6
   all_goals
    go_wp2_with fail
    go_ret
    exact ⟨ret_bool (by unfold guildsB; rw [uh Hst]; simp; omega), hb⟩
theorem l8Within_of {ps : List GuildV} (g : Int) (lo hi : Int) {w : World} {v : Value} (h : IsGuilds w v ps)
  (hB : cB 202 #[v, .int .i64 g] w (.tuple #[.int .i64 (bnd ps g).1, .int .i64 (bnd ps g).2])) :
  cB 143 #[v, .int .i64 g, .int .i64 lo, .int .i64 hi] w (.tuple #[.int .i64 (narV (bnd ps g) lo hi).1, .int .i64 (narV (bnd ps g) lo hi).2]) := by
 have HB := hide hB
 clear hB
 obtain ⟨a, cap, rfl, _⟩ := h
 unfold narV
 go_enter func143, ntmps143
 go_wp2_with fail
 refine ck (uh HB) fun w1 hb1 => ?_
 go_wp2_with (go_at_call 144; refine (specClamped_any _ _ _ _).mono ?_; rintro e w' ⟨rfl, rfl⟩)
 go_ret2
 exact ⟨rfl, hb1⟩
theorem l8Bounds_any {ps : List GuildV} (hg : guildsB ps = true) : ∀ (n : Nat) (g : Int) {w : World} {v : Value}, IsGuilds w v ps → -1 ≤ g → g < n → g < ps.length →
  cB 202 #[v, .int .i64 g] w (.tuple #[.int .i64 (bnd ps g).1, .int .i64 (bnd ps g).2]) := by
 intro n
 induction n with
 | zero =>
  intro g w v h h0 h1 h2
  obtain rfl : g = -1 := by omega
  rw [bnd_none ps (by omega)]
  obtain ⟨a, cap, rfl, _⟩ := h
  go_enter func202, ntmps202
  go_wp2_with fail
  go_ret2
  exact ⟨rfl, alBrf _ _⟩
 | succ n ih =>
  intro g w v h h0 h1 h2
  by_cases hg0 : g < 0
  ·obtain rfl : g = -1 := by omega
   rw [bnd_none ps (by omega)]
   obtain ⟨a, cap, rfl, _⟩ := h
   go_enter func202, ntmps202
   go_wp2_with fail
   go_ret2
   exact ⟨rfl, alBrf _ _⟩
  ·obtain ⟨k, rfl⟩ : ∃ k : Nat, g = k := ⟨g.toNat, by omega⟩
   have hlt : k < ps.length := by omega
   obtain ⟨a0, a1, _⟩ := guildsB_at hg (g := (k : Int)) (by omega) h2
   have hs := bnd_step hg (g := (k : Int)) (by omega) h2
   rw [show ((k : Int)).toNat = k by omega] at a0 a1 hs
   rw [hs]
   clear hs
   have Hi := hide h
   obtain ⟨a, cap, rfl, hc, hm, hr⟩ := h
   rcases hr with hz | ⟨b, off, rfl, hbw, hcl⟩
   ·rw [hz] at hlt; simp at hlt
   obtain ⟨c0, c1, c2⟩ := guild_cells hcl hlt
   clear hcl
   generalize hp : recAt ps k = p at *
   obtain ⟨x0, x1, x2⟩ := p
   simp only at c0 c1 c2 a0 a1
   have k0 := alCrg c0
   have k1 := alCrg c1
   have k2 := alCrg c2
   have ih' := fun (w' : World) (h : IsGuilds w' (.slice (some ⟨b, off, none⟩) ps.length cap) ps) => l8Within_of x0 x1 x2 h (ih x0 h a0 (by omega) (by omega))
   have Ih := hide ih'
   clear ih ih' hp
   go_enter func202, ntmps202
   go_wp2_with fail
   refine wq ?_
   repeat (go_big_quiet_step (exact alCro (uh Ih _ ((uh Hi).below (alBrg _ _ _)))))
   refine wpQuiet_nil ?_
   intro _ hw'
   obtain ⟨⟨dq, osq⟩, hw''⟩ := hw'
   subst hw''
   go_wp2_with fail
   go_ret2
   exact ⟨rfl, alBrg _ _ _⟩
abbrev SmithV := Int × Int × Int × Int × Int × Int × Int × Int × Int × Int × Int
def encSmith (p : SmithV) : List Value := [.int .i64 p.1, .int .i64 p.2.1, .int .i64 p.2.2.1, .int .i64 p.2.2.2.1, .int .i64 p.2.2.2.2.1, .int .i64 p.2.2.2.2.2.1, .int .i64 p.2.2.2.2.2.2.1, .int .i64 p.2.2.2.2.2.2.2.1, .int .i64 p.2.2.2.2.2.2.2.2.1, .int .i64 p.2.2.2.2.2.2.2.2.2.1, .int .i64 p.2.2.2.2.2.2.2.2.2.2]
theorem encSmith_len (p : SmithV) : (encSmith p).length = 11 := rfl
abbrev IsSmiths (w : World) (v : Value) (ps : List SmithV) : Prop := IsRec 11 encSmith w v ps
abbrev SmithsAt (n₀ : Nat) (w : World) (v : Value) (ps : List SmithV) : Prop := RecAt 38 11 encSmith n₀ w v ps
theorem infoSmith : (prog.info? 38).map (fun i => (i.zero, i.size, i.bytes)) = some (some (.agg #[.int .i64 0, .int .i64 0, .int .i64 0, .int .i64 0, .int .i64 0, .int .i64 0, .int .i64 0, .int .i64 0, .int .i64 0, .int .i64 0, .int .i64 0]), 11, 88) := by kernel_rfl
theorem SmithsAt.list {n₀ : Nat} {w : World} {v : Value} {ps : List SmithV} (h : SmithsAt n₀ w v ps) : IsSmiths w v ps := RecAt.recs encSmith_len (by omega) h
theorem smith_cells {w : World} {b off : Nat} {ps : List SmithV} (h : ∀ j, j < ps.length → ∀ i u, (encSmith (recAt ps j))[i]? = some u → w.cell? ⟨b, off + j * 11 + i, none⟩ = some u) {j : Nat} (hj : j < ps.length) :
  w.cell? ⟨b, off + j * 11, none⟩ = some (.int .i64 (recAt ps j).1) ∧ w.cell? ⟨b, off + j * 11 + 1, none⟩ = some (.int .i64 (recAt ps j).2.1) ∧ w.cell? ⟨b, off + j * 11 + 2, none⟩ = some (.int .i64 (recAt ps j).2.2.1) ∧ w.cell? ⟨b, off + j * 11 + 3, none⟩ = some (.int .i64 (recAt ps j).2.2.2.1) ∧ w.cell? ⟨b, off + j * 11 + 4, none⟩ = some (.int .i64 (recAt ps j).2.2.2.2.1) ∧ w.cell? ⟨b, off + j * 11 + 5, none⟩ = some (.int .i64 (recAt ps j).2.2.2.2.2.1) ∧ w.cell? ⟨b, off + j * 11 + 6, none⟩ = some (.int .i64 (recAt ps j).2.2.2.2.2.2.1) ∧ w.cell? ⟨b, off + j * 11 + 7, none⟩ = some (.int .i64 (recAt ps j).2.2.2.2.2.2.2.1) ∧ w.cell? ⟨b, off + j * 11 + 8, none⟩ = some (.int .i64 (recAt ps j).2.2.2.2.2.2.2.2.1) ∧ w.cell? ⟨b, off + j * 11 + 9, none⟩ = some (.int .i64 (recAt ps j).2.2.2.2.2.2.2.2.2.1) ∧ w.cell? ⟨b, off + j * 11 + 10, none⟩ = some (.int .i64 (recAt ps j).2.2.2.2.2.2.2.2.2.2) :=
 ⟨h j hj 0 _ rfl, h j hj 1 _ rfl, h j hj 2 _ rfl, h j hj 3 _ rfl, h j hj 4 _ rfl, h j hj 5 _ rfl, h j hj 6 _ rfl, h j hj 7 _ rfl, h j hj 8 _ rfl, h j hj 9 _ rfl, h j hj 10 _ rfl⟩
theorem szSmithS_any (a : Option Addr) (n cap : Nat) (left : Int) (hn : n ≤ 9223372036854775807) (h0 : 0 ≤ left) (h1 : left ≤ 1048576) (w : World) :
  cE 91 #[.slice a n cap, .int .i64 left] w (.int .i64 (szV n left)) := by
 by_cases h : left - n < 0
 all_goals
  go_enter func91, ntmps91
  go_wp2
  go_ret
  exact ⟨ret_int (by first | exact (szV_f (by omega)).symm | exact (szV_t (by omega)).symm), rfl⟩
theorem eqSmith_yes (x0 : Int) (x1 : Int) (x2 : Int) (x3 : Int) (x4 : Int) (x5 : Int) (x6 : Int) (x7 : Int) (x8 : Int) (x9 : Int) (x10 : Int) (w : World) :
  cB 156 #[.agg #[.int .i64 x0, .int .i64 x1, .int .i64 x2, .int .i64 x3, .int .i64 x4, .int .i64 x5, .int .i64 x6, .int .i64 x7, .int .i64 x8, .int .i64 x9, .int .i64 x10], .agg #[.int .i64 x0, .int .i64 x1, .int .i64 x2, .int .i64 x3, .int .i64 x4, .int .i64 x5, .int .i64 x6, .int .i64 x7, .int .i64 x8, .int .i64 x9, .int .i64 x10]] w (.bool true) := by
 go_enter func156, ntmps156
 go_wp2_with fail
 go_ret
 exact ⟨rfl, ((ba _ _)).alloc (by simp) _⟩
theorem eqSmithS_yes {w : World} {v u : Value} {ps : List SmithV} (hv : IsSmiths w v ps) (hu : IsSmiths w u ps) :
  cB 101 #[v, u] w (.bool true) := by
 obtain ⟨a, cap, rfl, hc, hm, hr⟩ := hv
 obtain ⟨a', cap', rfl, hc', hm', hr'⟩ := hu
 have Hr := hide hr
 have Hr' := hide hr'
 clear hr hr'
 go_enter func101, ntmps101
 go_wp2_with fail
 go_loopw [5] (fun i wr => ∃ k : Nat, k ≤ ps.length ∧ i = .int .i64 k ∧ Below w.heap.size w wr) (fun i _ => ps.length - (intOf i).toNat)
 case atStart => exact ⟨0, alNzl _, rfl, alBrf _ _⟩
 case round =>
  obtain ⟨k, hk, rfl, hb⟩ := hrel
  have Hb := hide hb
  by_cases hlt : k < ps.length
  ·rcases uh Hr with h0 | ⟨b, off, rfl, hbw, hcl⟩
   ·rw [h0] at hlt; simp at hlt
   rcases uh Hr' with h0 | ⟨b', off', rfl, hbw', hcl'⟩
   ·rw [h0] at hlt; simp at hlt
   obtain ⟨c0, c1, c2, c3, c4, c5, c6, c7, c8, c9, c10⟩ := smith_cells hcl hlt
   obtain ⟨d0, d1, d2, d3, d4, d5, d6, d7, d8, d9, d10⟩ := smith_cells hcl' hlt
   generalize recAt ps k = p at *
   obtain ⟨x0, x1, x2, x3, x4, x5, x6, x7, x8, x9, x10⟩ := p
   simp only at c0 c1 c2 c3 c4 c5 c6 c7 c8 c9 c10 d0 d1 d2 d3 d4 d5 d6 d7 d8 d9 d10
   have k0 := alCrg ((hb.cell (p := ⟨b, off + k * 11, none⟩) hbw).trans c0)
   have m0 := alCrg ((hb.cell (p := ⟨b', off' + k * 11, none⟩) hbw').trans d0)
   have k1 := alCrg ((hb.cell (p := ⟨b, off + k * 11 + 1, none⟩) hbw).trans c1)
   have m1 := alCrg ((hb.cell (p := ⟨b', off' + k * 11 + 1, none⟩) hbw').trans d1)
   have k2 := alCrg ((hb.cell (p := ⟨b, off + k * 11 + 2, none⟩) hbw).trans c2)
   have m2 := alCrg ((hb.cell (p := ⟨b', off' + k * 11 + 2, none⟩) hbw').trans d2)
   have k3 := alCrg ((hb.cell (p := ⟨b, off + k * 11 + 3, none⟩) hbw).trans c3)
   have m3 := alCrg ((hb.cell (p := ⟨b', off' + k * 11 + 3, none⟩) hbw').trans d3)
   have k4 := alCrg ((hb.cell (p := ⟨b, off + k * 11 + 4, none⟩) hbw).trans c4)
   have m4 := alCrg ((hb.cell (p := ⟨b', off' + k * 11 + 4, none⟩) hbw').trans d4)
   have k5 := alCrg ((hb.cell (p := ⟨b, off + k * 11 + 5, none⟩) hbw).trans c5)
   have m5 := alCrg ((hb.cell (p := ⟨b', off' + k * 11 + 5, none⟩) hbw').trans d5)
   have k6 := alCrg ((hb.cell (p := ⟨b, off + k * 11 + 6, none⟩) hbw).trans c6)
   have m6 := alCrg ((hb.cell (p := ⟨b', off' + k * 11 + 6, none⟩) hbw').trans d6)
   have k7 := alCrg ((hb.cell (p := ⟨b, off + k * 11 + 7, none⟩) hbw).trans c7)
   have m7 := alCrg ((hb.cell (p := ⟨b', off' + k * 11 + 7, none⟩) hbw').trans d7)
   have k8 := alCrg ((hb.cell (p := ⟨b, off + k * 11 + 8, none⟩) hbw).trans c8)
   have m8 := alCrg ((hb.cell (p := ⟨b', off' + k * 11 + 8, none⟩) hbw').trans d8)
   have k9 := alCrg ((hb.cell (p := ⟨b, off + k * 11 + 9, none⟩) hbw).trans c9)
   have m9 := alCrg ((hb.cell (p := ⟨b', off' + k * 11 + 9, none⟩) hbw').trans d9)
   have k10 := alCrg ((hb.cell (p := ⟨b, off + k * 11 + 10, none⟩) hbw).trans c10)
   have m10 := alCrg ((hb.cell (p := ⟨b', off' + k * 11 + 10, none⟩) hbw').trans d10)
   clear hcl hcl' hb c0 c1 c2 c3 c4 c5 c6 c7 c8 c9 c10 d0 d1 d2 d3 d4 d5 d6 d7 d8 d9 d10
   go_wp2_with fail
   refine wq ?_
   repeat (go_big_quiet_step (exact alCro (eqSmith_yes _ _ _ _ _ _ _ _ _ _ _ _)))
   refine wpQuiet_nil ?_
   intro _ hw'
   obtain ⟨⟨dq, osq⟩, hw''⟩ := hw'
   subst hw''
   go_wp2_with fail
   go_roundw
   case rel => exact ⟨k + 1, by omega, by go_num, (uh Hb).trans ((alBrg _ _ _).mono (uh Hb).size)⟩
   case measure => exact ms
  ·go_wp2_with fail
   go_ret
   exact ⟨rfl, hb⟩
theorem toSmith_any (x0 : Int) (x1 : Int) (x2 : Int) (x3 : Int) (x4 : Int) (x5 : Int) (x6 : Int) (x7 : Int) (x8 : Int) (x9 : Int) (x10 : Int) (w : World) :
  cB 152 #[.agg #[.int .i64 x0, .int .i64 x1, .int .i64 x2, .int .i64 x3, .int .i64 x4, .int .i64 x5, .int .i64 x6, .int .i64 x7, .int .i64 x8, .int .i64 x9, .int .i64 x10]] w (.agg #[.int .i64 x0, .int .i64 x1, .int .i64 x2, .int .i64 x3, .int .i64 x4, .int .i64 x5, .int .i64 x6, .int .i64 x7, .int .i64 x8, .int .i64 x9, .int .i64 x10]) := by
 go_enter func152, ntmps152
 go_wp2_with fail
 exact alBpr (v := .agg #[.int .i64 x0, .int .i64 x1, .int .i64 x2, .int .i64 x3, .int .i64 x4, .int .i64 x5, .int .i64 x6, .int .i64 x7, .int .i64 x8, .int .i64 x9, .int .i64 x10]) (by simp [results, results152, go_sem]) rfl ⟨rfl, (((ba _ _)).alloc (by simp) _).alloc (by simp; omega) _⟩
theorem toSmithS_any {w : World} {v : Value} {ps : List SmithV} (h : IsSmiths w v ps) (hs : ps.length ≤ 1048576) :
  Calls prog 96 #[v] w fun e w' => ∃ v', e = .returned v' ∧ SmithsAt w.heap.size w' v' ps ∧ Below w.heap.size w w' := by
 obtain ⟨a, cap, rfl, hc, hm, hr⟩ := h
 have Hr := hide hr
 clear hr
 obtain ⟨i0, hi, hz0, hz1, hz2⟩ := info_parts infoSmith
 go_enter func96, ntmps96
 go_wp2_with (at_make; refine wpList_make_full _ rfl _ _ 28 rfl w.heap.size 38 i0 (.agg #[.int .i64 0, .int .i64 0, .int .i64 0, .int .i64 0, .int .i64 0, .int .i64 0, .int .i64 0, .int .i64 0, .int .i64 0, .int .i64 0, .int .i64 0]) 11 underlying28 hi hz0 hz1 _ _ _ _ ps.length rfl rfl rfl rfl (by rw [hz2]; omega) (by unfold maxLen; omega) (alNlr _) ?_; intro w0 hown hgrow)
 have Hown : Hid (SmithsAt w.heap.size w0 (.slice (some ⟨w.heap.size, 0, none⟩) ps.length ps.length) (fillL ps (0, 0, 0, 0, 0, 0, 0, 0, 0, 0, 0) 0)) := hide (by
  rw [made_flat encSmith_len (by omega) (0, 0, 0, 0, 0, 0, 0, 0, 0, 0, 0) (Value.agg #[.int .i64 0, .int .i64 0, .int .i64 0, .int .i64 0, .int .i64 0, .int .i64 0, .int .i64 0, .int .i64 0, .int .i64 0, .int .i64 0, .int .i64 0]).cells rfl ps.length] at hown
  rw [fillL_zero]
  show w0.ownsRow _ _ _ _ (List.replicate ps.length _).length _
  rw [List.length_replicate]
  exact hown)
 have Hgr := hide hgrow
 clear hown hgrow
 go_loopw [4] (fun i wr => ∃ k : Nat, k ≤ ps.length ∧ i = .int .i64 k ∧ SmithsAt w.heap.size wr (.slice (some ⟨w.heap.size, 0, none⟩) ps.length ps.length) (fillL ps (0, 0, 0, 0, 0, 0, 0, 0, 0, 0, 0) k) ∧ Below w.heap.size w wr) (fun i _ => ps.length - (intOf i).toNat)
 case atStart => exact ⟨0, alNzl _, rfl, uh Hown, (alBrf _ _).grown (uh Hgr) (alNlr _) (fun k e => by cases e)⟩
 case round =>
  obtain ⟨k, hk, rfl, hown, hb⟩ := hrel
  have Hb := hide hb
  by_cases hlt : k < ps.length
  ·rcases uh Hr with h0 | ⟨b, off, rfl, hbw, hcl⟩
   ·rw [h0] at hlt; simp at hlt
   obtain ⟨c0, c1, c2, c3, c4, c5, c6, c7, c8, c9, c10⟩ := smith_cells hcl hlt
   rw [← hb.cell (p := ⟨b, off + k * 11, none⟩) hbw] at c0
   rw [← hb.cell (p := ⟨b, off + k * 11 + 1, none⟩) hbw] at c1
   rw [← hb.cell (p := ⟨b, off + k * 11 + 2, none⟩) hbw] at c2
   rw [← hb.cell (p := ⟨b, off + k * 11 + 3, none⟩) hbw] at c3
   rw [← hb.cell (p := ⟨b, off + k * 11 + 4, none⟩) hbw] at c4
   rw [← hb.cell (p := ⟨b, off + k * 11 + 5, none⟩) hbw] at c5
   rw [← hb.cell (p := ⟨b, off + k * 11 + 6, none⟩) hbw] at c6
   rw [← hb.cell (p := ⟨b, off + k * 11 + 7, none⟩) hbw] at c7
   rw [← hb.cell (p := ⟨b, off + k * 11 + 8, none⟩) hbw] at c8
   rw [← hb.cell (p := ⟨b, off + k * 11 + 9, none⟩) hbw] at c9
   rw [← hb.cell (p := ⟨b, off + k * 11 + 10, none⟩) hbw] at c10
   have Ho := hide hown
   have HS := hide (fillL_set (z := ((0, 0, 0, 0, 0, 0, 0, 0, 0, 0, 0) : SmithV)) hlt)
   generalize hp : recAt ps k = p at *
   obtain ⟨x0, x1, x2, x3, x4, x5, x6, x7, x8, x9, x10⟩ := p
   simp only at c0 c1 c2 c3 c4 c5 c6 c7 c8 c9 c10
   clear hcl hb hown hp
   go_wp2_with fail
   refine ck (toSmith_any _ _ _ _ _ _ _ _ _ _ _ _) fun w1 hb1 => ?_
   have ho1 := RecAt.later (uh Ho) hb1
   have hfl := fillL_len (z := ((0, 0, 0, 0, 0, 0, 0, 0, 0, 0, 0) : SmithV)) hk
   obtain ⟨g, hg, _, _, hcells, hfz⟩ := RecAt.view encSmith_len (by omega) ho1 hfl.symm (by omega)
   cases hg
   have hq := fun i u hu => hcells k (by omega) i u hu
   generalize recAt (fillL ps (0, 0, 0, 0, 0, 0, 0, 0, 0, 0, 0) k) k = old at hq
   have o0 := hq 0 _ rfl
   have f0 := hfz (k * 11)
   have o1 := hq 1 _ rfl
   have f1 := hfz (k * 11 + 1)
   have o2 := hq 2 _ rfl
   have f2 := hfz (k * 11 + 2)
   have o3 := hq 3 _ rfl
   have f3 := hfz (k * 11 + 3)
   have o4 := hq 4 _ rfl
   have f4 := hfz (k * 11 + 4)
   have o5 := hq 5 _ rfl
   have f5 := hfz (k * 11 + 5)
   have o6 := hq 6 _ rfl
   have f6 := hfz (k * 11 + 6)
   have o7 := hq 7 _ rfl
   have f7 := hfz (k * 11 + 7)
   have o8 := hq 8 _ rfl
   have f8 := hfz (k * 11 + 8)
   have o9 := hq 9 _ rfl
   have f9 := hfz (k * 11 + 9)
   have o10 := hq 10 _ rfl
   have f10 := hfz (k * 11 + 10)
   simp only [Nat.add_zero] at o0
   have Hp2 := hide (RecAt.put encSmith_len (by omega) ho1 hfl.symm (j := k) (by omega) (x0, x1, x2, x3, x4, x5, x6, x7, x8, x9, x10))
   have Hb1 := hide hb1
   have hsz := hb1.size
   have hsz0 := (uh Hb).size
   clear ho1 hb1 hcells hq hfz hfl
   go_wp2_with fail
   go_roundw
   case rel => exact ⟨k + 1, by omega, by go_num, by have h9 := (uh Hp2).1; rw [uh HS] at h9; exact h9, ((uh Hb).trans ((uh Hb1).mono hsz0)).trans (below_grown (uh Hp2).2 (alNlr _) (by omega))⟩
   case measure => exact ms
  ·obtain rfl : k = ps.length := by omega
   rw [fillL_all] at hown
   go_wp2_with fail
   go_ret
   exact ⟨_, rfl, hown, hb⟩
theorem sc11 {w : World} {g o : Nat} {x : SmithV} (h : ∀ i u, (encSmith x)[i]? = some u → w.cell? ⟨g, o + i, none⟩ = some u) : w.cell? ⟨g, o + 0, none⟩ = some (.int .i64 x.1) ∧ w.cell? ⟨g, o + 1, none⟩ = some (.int .i64 x.2.1) ∧ w.cell? ⟨g, o + 2, none⟩ = some (.int .i64 x.2.2.1) ∧ w.cell? ⟨g, o + 3, none⟩ = some (.int .i64 x.2.2.2.1) ∧ w.cell? ⟨g, o + 4, none⟩ = some (.int .i64 x.2.2.2.2.1) ∧ w.cell? ⟨g, o + 5, none⟩ = some (.int .i64 x.2.2.2.2.2.1) ∧ w.cell? ⟨g, o + 6, none⟩ = some (.int .i64 x.2.2.2.2.2.2.1) ∧ w.cell? ⟨g, o + 7, none⟩ = some (.int .i64 x.2.2.2.2.2.2.2.1) ∧ w.cell? ⟨g, o + 8, none⟩ = some (.int .i64 x.2.2.2.2.2.2.2.2.1) ∧ w.cell? ⟨g, o + 9, none⟩ = some (.int .i64 x.2.2.2.2.2.2.2.2.2.1) ∧ w.cell? ⟨g, o + 10, none⟩ = some (.int .i64 x.2.2.2.2.2.2.2.2.2.2) := ⟨h 0 _ rfl, h 1 _ rfl, h 2 _ rfl, h 3 _ rfl, h 4 _ rfl, h 5 _ rfl, h 6 _ rfl, h 7 _ rfl, h 8 _ rfl, h 9 _ rfl, h 10 _ rfl⟩
theorem fz11 {w : World} {g : Nat} (h : ∀ o, w.frozen? ⟨g, o, none⟩ = false) (o : Nat) : w.frozen? ⟨g, o + 0, none⟩ = false ∧ w.frozen? ⟨g, o + 1, none⟩ = false ∧ w.frozen? ⟨g, o + 2, none⟩ = false ∧ w.frozen? ⟨g, o + 3, none⟩ = false ∧ w.frozen? ⟨g, o + 4, none⟩ = false ∧ w.frozen? ⟨g, o + 5, none⟩ = false ∧ w.frozen? ⟨g, o + 6, none⟩ = false ∧ w.frozen? ⟨g, o + 7, none⟩ = false ∧ w.frozen? ⟨g, o + 8, none⟩ = false ∧ w.frozen? ⟨g, o + 9, none⟩ = false ∧ w.frozen? ⟨g, o + 10, none⟩ = false := ⟨h _, h _, h _, h _, h _, h _, h _, h _, h _, h _, h _⟩
theorem fy11 {w : World} {g : Nat} (h : ∀ o, w.frozen? ⟨g, o, none⟩ = false) (o : Nat) : w.frozen? ⟨g, o, none⟩ = false ∧ w.frozen? ⟨g, o + 1, none⟩ = false ∧ w.frozen? ⟨g, o + 2, none⟩ = false ∧ w.frozen? ⟨g, o + 3, none⟩ = false ∧ w.frozen? ⟨g, o + 4, none⟩ = false ∧ w.frozen? ⟨g, o + 5, none⟩ = false ∧ w.frozen? ⟨g, o + 6, none⟩ = false ∧ w.frozen? ⟨g, o + 7, none⟩ = false ∧ w.frozen? ⟨g, o + 8, none⟩ = false ∧ w.frozen? ⟨g, o + 9, none⟩ = false ∧ w.frozen? ⟨g, o + 10, none⟩ = false := fz11 h o
abbrev E11 : Array Value := #[.int .i64 0, .int .i64 0, .int .i64 0, .int .i64 0, .int .i64 0, .int .i64 0, .int .i64 0, .int .i64 0, .int .i64 0, .int .i64 0, .int .i64 0]
abbrev I11 (a b c d e f g h i j k : Int) : Array Value := #[.int .i64 a, .int .i64 b, .int .i64 c, .int .i64 d, .int .i64 e, .int .i64 f, .int .i64 g, .int .i64 h, .int .i64 i, .int .i64 j, .int .i64 k]
def Blk (w : World) (R : Nat) (t : TypeId) (cs : Array Value) : Prop := w.heap[R]? = some (.cells cs t (0, 0))
section
variable {w w' : World} {R B : Nat} {t : TypeId} {cs : Array Value}
theorem Blk.lt (h : Blk w R t cs) : R < w.heap.size := (Array.getElem?_eq_some_iff.1 h).1
theorem Blk.cell (h : Blk w R t cs) {i : Nat} {v : Value} (hi : cs[i]? = some v) : w.cell? ⟨R, i, none⟩ = some v := by simp [World.cell?, show w.heap[R]? = _ from h, hi]
theorem Blk.free (h : Blk w R t cs) (i : Nat) : w.frozen? ⟨R, i, none⟩ = false := frozen_of_row w R i cs t h
theorem Blk.new (w : World) (t : TypeId) (cs : Array Value) : Blk (w.alloc (.cells cs t)) w.heap.size t cs := by show (w.heap.push _)[w.heap.size]? = _; simp
theorem Blk.same (h : Blk w R t cs) (hs : w'.heap[R]? = w.heap[R]?) : Blk w' R t cs := hs.trans h
theorem Blk.below (h : Blk w R t cs) (hb : Below B w w') (hR : R < B) : Blk w' R t cs := h.same (hb.block R hR)
theorem Blk.alloc (h : Blk w R t cs) (o : Obj) : Blk (w.alloc o) R t cs := h.below ((alBrf w.heap.size w).alloc (alNlr _) o) h.lt
theorem Blk.set (h : Blk w R t cs) (i : Nat) (v : Value) : Blk (w.setCell ⟨R, i, none⟩ v) R t (cs.setIfInBounds i v) := heap_setCell_same w R i cs t v h
theorem Blk.other (h : Blk w R t cs) {a : Addr} (ha : R ≠ a.block) (v : Value) : Blk (w.setCell a v) R t cs := h.same (heap_setCell_other w a R v ha)
theorem Blk.drewN (h : Blk w R t cs) (n : Nat) : Blk (w.drewN n) R t cs := h
end
theorem cell_new (w : World) {t : TypeId} {cs : Array Value} {i : Nat} {v : Value} (hi : cs[i]? = some v) : (w.alloc (.cells cs t)).cell? ⟨w.heap.size, i, none⟩ = some v := (Blk.new w t cs).cell hi
theorem Blk.c2 {w : World} {R : Nat} {t : TypeId} {v0 v1 : Value} (h : Blk w R t #[v0, v1]) : w.cell? ⟨R, 0, none⟩ = some v0 ∧ w.cell? ⟨R, 1, none⟩ = some v1 := ⟨h.cell rfl, h.cell rfl⟩
theorem Blk.c3 {w : World} {R : Nat} {t : TypeId} {v0 v1 v2 : Value} (h : Blk w R t #[v0, v1, v2]) : w.cell? ⟨R, 0, none⟩ = some v0 ∧ w.cell? ⟨R, 1, none⟩ = some v1 ∧ w.cell? ⟨R, 2, none⟩ = some v2 := ⟨h.cell rfl, h.cell rfl, h.cell rfl⟩
theorem Blk.c4 {w : World} {R : Nat} {t : TypeId} {v0 v1 v2 v3 : Value} (h : Blk w R t #[v0, v1, v2, v3]) : w.cell? ⟨R, 0, none⟩ = some v0 ∧ w.cell? ⟨R, 1, none⟩ = some v1 ∧ w.cell? ⟨R, 2, none⟩ = some v2 ∧ w.cell? ⟨R, 3, none⟩ = some v3 := ⟨h.cell rfl, h.cell rfl, h.cell rfl, h.cell rfl⟩
theorem Blk.c6 {w : World} {R : Nat} {t : TypeId} {v0 v1 v2 v3 v4 v5 : Value} (h : Blk w R t #[v0, v1, v2, v3, v4, v5]) : w.cell? ⟨R, 0, none⟩ = some v0 ∧ w.cell? ⟨R, 1, none⟩ = some v1 ∧ w.cell? ⟨R, 2, none⟩ = some v2 ∧ w.cell? ⟨R, 3, none⟩ = some v3 ∧ w.cell? ⟨R, 4, none⟩ = some v4 ∧ w.cell? ⟨R, 5, none⟩ = some v5 := ⟨h.cell rfl, h.cell rfl, h.cell rfl, h.cell rfl, h.cell rfl, h.cell rfl⟩
theorem Blk.c11 {w : World} {R : Nat} {t : TypeId} {v0 v1 v2 v3 v4 v5 v6 v7 v8 v9 v10 : Value} (h : Blk w R t #[v0, v1, v2, v3, v4, v5, v6, v7, v8, v9, v10]) : w.cell? ⟨R, 0, none⟩ = some v0 ∧ w.cell? ⟨R, 1, none⟩ = some v1 ∧ w.cell? ⟨R, 2, none⟩ = some v2 ∧ w.cell? ⟨R, 3, none⟩ = some v3 ∧ w.cell? ⟨R, 4, none⟩ = some v4 ∧ w.cell? ⟨R, 5, none⟩ = some v5 ∧ w.cell? ⟨R, 6, none⟩ = some v6 ∧ w.cell? ⟨R, 7, none⟩ = some v7 ∧ w.cell? ⟨R, 8, none⟩ = some v8 ∧ w.cell? ⟨R, 9, none⟩ = some v9 ∧ w.cell? ⟨R, 10, none⟩ = some v10 := ⟨h.cell rfl, h.cell rfl, h.cell rfl, h.cell rfl, h.cell rfl, h.cell rfl, h.cell rfl, h.cell rfl, h.cell rfl, h.cell rfl, h.cell rfl⟩
theorem bl {w w' : World} {R : Nat} {t : TypeId} {cs : Array Value} (h : Hid (Blk w R t cs)) (hb : Below w.heap.size w w') : Hid (Blk w' R t cs) := hide ((uh h).below hb (uh h).lt)
theorem bt {w a b : World} (h : Hid (Below w.heap.size w a)) (hb : Below a.heap.size a b) : Hid (Below w.heap.size w b) := hide ((uh h).trans (hb.mono (uh h).size))
theorem Blk.f3 {w : World} {R : Nat} {t : TypeId} {cs : Array Value} (h : Blk w R t cs) : w.frozen? ⟨R, 0, none⟩ = false ∧ w.frozen? ⟨R, 1, none⟩ = false ∧ w.frozen? ⟨R, 2, none⟩ = false := ⟨h.free 0, h.free 1, h.free 2⟩
theorem Blk.f4 {w : World} {R : Nat} {t : TypeId} {cs : Array Value} (h : Blk w R t cs) : w.frozen? ⟨R, 0, none⟩ = false ∧ w.frozen? ⟨R, 1, none⟩ = false ∧ w.frozen? ⟨R, 2, none⟩ = false ∧ w.frozen? ⟨R, 3, none⟩ = false := ⟨h.free 0, h.free 1, h.free 2, h.free 3⟩
theorem Blk.f6 {w : World} {R : Nat} {t : TypeId} {cs : Array Value} (h : Blk w R t cs) : w.frozen? ⟨R, 0, none⟩ = false ∧ w.frozen? ⟨R, 1, none⟩ = false ∧ w.frozen? ⟨R, 2, none⟩ = false ∧ w.frozen? ⟨R, 3, none⟩ = false ∧ w.frozen? ⟨R, 4, none⟩ = false ∧ w.frozen? ⟨R, 5, none⟩ = false := ⟨h.free 0, h.free 1, h.free 2, h.free 3, h.free 4, h.free 5⟩
theorem Blk.f11 {w : World} {R : Nat} {t : TypeId} {cs : Array Value} (h : Blk w R t cs) : w.frozen? ⟨R, 0, none⟩ = false ∧ w.frozen? ⟨R, 1, none⟩ = false ∧ w.frozen? ⟨R, 2, none⟩ = false ∧ w.frozen? ⟨R, 3, none⟩ = false ∧ w.frozen? ⟨R, 4, none⟩ = false ∧ w.frozen? ⟨R, 5, none⟩ = false ∧ w.frozen? ⟨R, 6, none⟩ = false ∧ w.frozen? ⟨R, 7, none⟩ = false ∧ w.frozen? ⟨R, 8, none⟩ = false ∧ w.frozen? ⟨R, 9, none⟩ = false ∧ w.frozen? ⟨R, 10, none⟩ = false := ⟨h.free 0, h.free 1, h.free 2, h.free 3, h.free 4, h.free 5, h.free 6, h.free 7, h.free 8, h.free 9, h.free 10⟩
theorem two_boxes (w : World) (t : TypeId) (cs : Array Value) (u : TypeId) (ds : Array Value) : ∃ W, (w.alloc (.cells cs t)).alloc (.cells ds u) = W ∧ Hid (Blk W w.heap.size t cs) ∧ Hid (Blk W (w.heap.size + 1) u ds) ∧ Hid (Below w.heap.size w W) := by
 refine ⟨_, rfl, hide ((Blk.new w _ _).alloc _), hide ?_, hide (((ba _ _)).alloc (by simp) _)⟩
 have k := Blk.new (w.alloc (.cells cs t)) u ds
 rw [alWsa] at k
 exact k
theorem three_boxes (w : World) (t : TypeId) (cs : Array Value) (u : TypeId) (ds : Array Value) (v : TypeId) (es : Array Value) : ∃ W, ((w.alloc (.cells cs t)).alloc (.cells ds u)).alloc (.cells es v) = W ∧ Hid (Blk W w.heap.size t cs) ∧ Hid (Blk W (w.heap.size + 1) u ds) ∧ Hid (Blk W (w.heap.size + 1 + 1) v es) ∧ Hid (Below w.heap.size w W) := by
 refine ⟨_, rfl, hide (((Blk.new w _ _).alloc _).alloc _), hide ?_, hide ?_, hide ((((ba _ _)).alloc (by simp) _).alloc (by simp; omega) _)⟩
 ·have k := (Blk.new (w.alloc (.cells cs t)) u ds).alloc (.cells es v)
  rw [alWsa] at k
  exact k
 ·have k := Blk.new ((w.alloc (.cells cs t)).alloc (.cells ds u)) v es
  rw [alWsa, alWsa] at k
  exact k
theorem one_boxH (w : World) (t : TypeId) (cs : Array Value) : ∃ W, w.alloc (.cells cs t) = W ∧ Hid (Below w.heap.size w W) ∧ Hid (Blk W w.heap.size t cs) := ⟨_, rfl, hide ((ba _ _)), hide (Blk.new _ _ _)⟩
theorem one_box0 (w : World) (t : TypeId) (cs : Array Value) : Hid (Below w.heap.size w (w.alloc (.cells cs t))) ∧ Hid (Blk (w.alloc (.cells cs t)) w.heap.size t cs) := ⟨hide ((ba _ _)), hide (Blk.new _ _ _)⟩
theorem one_box (w : World) (t : TypeId) (cs : Array Value) : ∃ W, w.alloc (.cells cs t) = W ∧ Below w.heap.size w W ∧ Hid (Blk W w.heap.size t cs) := ⟨_, rfl, (ba _ _), hide (Blk.new _ _ _)⟩
end Go.Proofs.YtgdpaigcmoifbaaGreat
