/- Part 1 of what the proof rests on. No condition but those that a theorem names. -/
import Derived.Test.YtffcgajndmhpkaaGreatDoorRows
import Derived.Test.YtffcgajndmhpkaaGreatDoorTie
import Derived.KernelRfl
import Derived.SevenTiedAt
import Derived.Test.YtffcgajndmhpkaaGreatDoorChecked
import GoSem.Claim
import GoSem.ClaimJoined
import GoSem.ClaimMapViews
import Derived.JoinedTies
import Derived.RowKit
import Derived.WalkKit
import Derived.ProofKit
import Derived.OpenShut
import Derived.Outline
import Derived.Lib.QuietBelow
import Derived.Deep.QuietTactic
import Derived.BigQuiet
import Derived.Laws.OwnMore
import Derived.OwnWalk
import Derived.Maps.AppendAt
set_option maxHeartbeats 8000000
set_option maxRecDepth 100000
namespace Go.Proofs.YtffcgajndmhpkaaGreatDoor
open Go
theorem k_main : Tryz.pinned.checked.prog.mainIs = some (true, "626d3be9a7070331a205b817a13979c1371d85ec4c86334440f83fb2a7432c2f".toList) := by kernel_rfl
theorem k_looks : true = Tryz.pinned.checked.prog.looks [] := by kernel_rfl
theorem noneGoes : (Tryz.prog.funcs.toList.any Func.goes) = false := by kernel_rfl
theorem goes_no (f : FuncId) : Tryz.prog.goes f = false := by
 have h : ∀ fn ∈ Tryz.prog.funcs.toList, Func.goes fn = false := fun fn hf => by
  have := List.any_eq_false.1 noneGoes fn hf
  simpa using this
 have hg : ∀ g : FuncId, (Tryz.prog.funcs[g]?).any Func.goes = false := fun g => by
  cases hx : Tryz.prog.funcs[g]? with
  | none => rfl
  | some fn => exact h fn (by simpa using Array.mem_of_getElem? hx)
 unfold Program.goes
 simp [hg]
 intro _ i hi
 exact h _ (by simp)
theorem k_goes (c : OpenClaim) (hc : c.start = .entering) : false = c.goesBy Tryz.pinned.checked.prog := by
 show false = c.goesBy Tryz.prog
 unfold OpenClaim.goesBy Program.goesAt Program.goesFrom
 rw [hc]
 cases Tryz.prog.funcNamed c.func with
 | none => rfl
 | some f => simp [goes_no]
open Go.ChangeShapes Go.WideShapes Go.ChangeAt Go.RowKit
set_option linter.unusedVariables false
theorem ba (w : World) (o : Obj) : Below w.heap.size w (w.alloc o) := (Below.refl _ _).alloc (Nat.le_refl _) _
theorem ms {G : Prop} (h : G := by (simp [intOf]; omega)) : G := h
theorem wq {P : Program} {id : Nat} {Q : Exit → Act → World → Prop} {a : Act} {w : World} {l : List Oper} (h : wpQuiet P l.toArray (fun w' => ∃ p : Regrown, w' = Go.Sort.grow (redrawn w p.d) p.os) (fun a' => ∀ w', (∃ p : Regrown, w' = Go.Sort.grow (redrawn w p.d) p.os) → Q .normal a' w') l a) (hm : P.follows .mixedOrders = true := by kernel_rfl) (hB : Region.lexB .any l.toArray = true := by kernel_rfl) : (Code.region id l.toArray true).wp P Q a w := wp_region_quiet_below hm hB h
theorem wqn {P : Program} {ops : Array Oper} {C : World → Prop} {Q : Exit → Act → World → Prop} {a : Act} {w : World} (h : ∀ w', Below w.heap.size w w' → Q .normal a w') : wpQuiet P ops C (fun a' => ∀ w', (∃ p : Regrown, w' = Go.Sort.grow (redrawn w p.d) p.os) → Q .normal a' w') [] a := wpQuiet_nil (fun w' hp => by obtain ⟨p, rfl⟩ := hp; exact h _ (below_regrown w p.d p.os))
theorem ck {P : Program} {f : FuncId} {args : Array Value} {w : World} {v : Value} {R : World → Prop} {Q : Ending → World → Prop} (h : Calls P f args w fun e w' => e = .returned v ∧ R w') (hk : ∀ w', R w' → Q (.returned v) w') : Calls P f args w Q := h.mono (by rintro e w' ⟨rfl, hr⟩; exact hk w' hr)
theorem ret_int {k : IntKind} {a b : Int} (h : a = b) : Ending.returned (.int k a) = .returned (.int k b) := by rw [h]
theorem ret_bool {a b : Bool} (h : a = b) : Ending.returned (.bool a) = .returned (.bool b) := by rw [h]
def inB (x lo hi : Int) : Bool := decide (lo ≤ x ∧ x ≤ hi)
theorem inB_t {x lo hi : Int} (h1 : lo ≤ x) (h2 : x ≤ hi) : inB x lo hi = true := by unfold inB; exact decide_eq_true ⟨h1, h2⟩
theorem inB_f {x lo hi : Int} (h : x < lo ∨ hi < x) : inB x lo hi = false := by unfold inB; exact decide_eq_false (by omega)
theorem inB_of {x lo hi : Int} (h : inB x lo hi = true) : lo ≤ x ∧ x ≤ hi := by unfold inB at h; exact of_decide_eq_true h
theorem hide {p : Prop} (h : p) : Hid p := h
theorem uh {p : Prop} (h : Hid p) : p := h
theorem l1Min_any (a b : Int) (w : World) : Calls Tryz.prog 187 #[.int .i64 a, .int .i64 b] w fun e w' => e = .returned (.int .i64 (min a b)) ∧ w' = w := by
 by_cases h : a < b
 all_goals
  go_enter Tryz.func187, Tryz.ntmps187
  go_wp2
  go_ret
  exact ⟨ret_int (by omega), rfl⟩
theorem l1Max_any (a b : Int) (w : World) : Calls Tryz.prog 124 #[.int .i64 a, .int .i64 b] w fun e w' => e = .returned (.int .i64 (max a b)) ∧ w' = w := by
 by_cases h : b < a
 all_goals
  go_enter Tryz.func124, Tryz.ntmps124
  go_wp2
  go_ret
  exact ⟨ret_int (by omega), rfl⟩
theorem implClamped_any (x l h : Int) (w : World) : Calls Tryz.prog 258 #[.int .i64 x, .int .i64 l, .int .i64 h] w fun e w' => e = .returned (.int .i64 (min (max x l) h)) ∧ w' = w := by
 by_cases c1 : x < l
 ·by_cases c2 : h < l
  all_goals
   go_enter Tryz.func258, Tryz.ntmps258
   go_wp2
   all_goals (go_ret; exact ⟨ret_int (by omega), rfl⟩)
 ·by_cases c2 : h < x
  all_goals
   go_enter Tryz.func258, Tryz.ntmps258
   go_wp2
   all_goals (go_ret; exact ⟨ret_int (by omega), rfl⟩)
theorem l1In_any (x lo hi : Int) (w : World) : Calls Tryz.prog 40 #[.int .i64 x, .int .i64 lo, .int .i64 hi] w fun e w' => e = .returned (.bool (inB x lo hi)) ∧ w' = w := by
 by_cases h1 : lo ≤ x
 ·by_cases h2 : x ≤ hi
  all_goals
   go_enter Tryz.func40, Tryz.ntmps40
   go_wp2
   go_ret
   exact ⟨ret_bool (by first | exact (inB_t h1 h2).symm | exact (inB_f (by omega)).symm), rfl⟩
 ·go_enter Tryz.func40, Tryz.ntmps40
  go_wp2
  go_ret
  exact ⟨ret_bool (inB_f (by omega)).symm, rfl⟩
theorem l1Big_any (x : Int) (w : World) : Calls Tryz.prog 162 #[.int .i64 x] w fun e w' => e = .returned (.bool (inB x 0 1000000000)) ∧ w' = w := by
 go_enter Tryz.func162, Tryz.ntmps162
 go_wp2_with (go_at_call 40; refine (l1In_any _ _ _ _).mono ?_; rintro e w' ⟨rfl, rfl⟩)
 go_ret
 exact ⟨rfl, rfl⟩
theorem isUtil_any (x : Int) (w : World) : Calls Tryz.prog 265 #[.int .i64 x] w fun e w' => e = .returned (.bool (inB x 0 1024)) ∧ w' = w := by
 by_cases h1 : 0 ≤ x
 ·by_cases h2 : x ≤ 1024
  all_goals
   go_enter Tryz.func265, Tryz.ntmps265
   go_wp2
   go_ret
   exact ⟨ret_bool (by first | exact (inB_t h1 h2).symm | exact (inB_f (by omega)).symm), rfl⟩
 ·go_enter Tryz.func265, Tryz.ntmps265
  go_wp2
  go_ret
  exact ⟨ret_bool (inB_f (by omega)).symm, rfl⟩
theorem isFadings_any (x : Int) (w : World) : Calls Tryz.prog 266 #[.int .i64 x] w fun e w' => e = .returned (.bool (inB x 0 1000)) ∧ w' = w := by
 by_cases h1 : 0 ≤ x
 ·by_cases h2 : x ≤ 1000
  all_goals
   go_enter Tryz.func266, Tryz.ntmps266
   go_wp2
   go_ret
   exact ⟨ret_bool (by first | exact (inB_t h1 h2).symm | exact (inB_f (by omega)).symm), rfl⟩
 ·go_enter Tryz.func266, Tryz.ntmps266
  go_wp2
  go_ret
  exact ⟨ret_bool (inB_f (by omega)).symm, rfl⟩
theorem all_snoc {p : Int → Bool} {zs : List Int} {k : Nat} {z : Int} (hlt : k < zs.length) (hz : zs.getD k 0 = z) (ha : (zs.take k).all p = true) (hp : p z = true) : (zs.take (k + 1)).all p = true := by
 rw [List.take_succ_eq_append_getElem hlt, List.all_append, ha]
 have : zs[k] = z := by rw [← hz]; simp [List.getD, hlt]
 simp [this, hp]
theorem all_snoc_f {p : Int → Bool} {zs : List Int} {k : Nat} {z : Int} (hlt : k < zs.length) (hz : zs.getD k 0 = z) (hp : p z = false) : zs.all p = false := by
 have : zs[k] = z := by rw [← hz]; simp [List.getD, hlt]
 rw [List.all_eq_false]
 exact ⟨zs[k], List.getElem_mem hlt, by rw [this, hp]; simp⟩
theorem allAre_isUtil (b cap : Nat) (zs : List Int) (w : World) (hl : zs.length ≤ 1000) (hc : ∀ k, k < zs.length → w.cell? ⟨b, k, none⟩ = some (.int .i64 (zs.getD k 0))) :
  Calls Tryz.prog 264 #[.func (Fn.func 265) #[] #[], .slice (some ⟨b, 0, none⟩) zs.length cap] w fun e w' => e = .returned (.bool (zs.all fun z => inB z 0 1024)) ∧ w' = w := by
 go_enter Tryz.func264, Tryz.ntmps264
 go_wp2_with fail
 go_loop [9] (fun i => ∃ k : Nat, k ≤ zs.length ∧ i = .int .i64 k ∧ ((zs.take k).all fun z => inB z 0 1024) = true) (fun i => zs.length - (intOf i).toNat)
 case atStart => exact ⟨0, Nat.zero_le _, rfl, by simp⟩
 case round =>
  obtain ⟨k, hk, rfl, hall⟩ := hrel
  by_cases hlt : k < zs.length
  ·have hcell := hc k hlt
   have Ha := hide hall
   clear hall hc
   generalize hz : zs.getD k 0 = z at *
   have Hz := hide hz
   clear hz
   go_wp2_with fail
   refine (isUtil_any _ _).mono ?_
   rintro e w' ⟨rfl, rfl⟩
   cases hp : inB z 0 1024
   ·go_wp2_with fail
    go_ret
    exact ⟨ret_bool (all_snoc_f hlt (uh Hz) hp).symm, rfl⟩
   ·go_wp2_with fail
    go_round
    case rel => exact ⟨k + 1, by omega, by go_num, all_snoc hlt (uh Hz) (uh Ha) hp⟩
    case measure => simp [intOf]; omega
  ·go_wp2_with fail
   go_ret
   exact ⟨ret_bool (by rw [← hall, List.take_of_length_le (by omega)]), rfl⟩
theorem allAre_isFadings (b cap : Nat) (zs : List Int) (w : World) (hl : zs.length ≤ 1000) (hc : ∀ k, k < zs.length → w.cell? ⟨b, k, none⟩ = some (.int .i64 (zs.getD k 0))) :
  Calls Tryz.prog 264 #[.func (Fn.func 266) #[] #[], .slice (some ⟨b, 0, none⟩) zs.length cap] w fun e w' => e = .returned (.bool (zs.all fun z => inB z 0 1000)) ∧ w' = w := by
 go_enter Tryz.func264, Tryz.ntmps264
 go_wp2_with fail
 go_loop [9] (fun i => ∃ k : Nat, k ≤ zs.length ∧ i = .int .i64 k ∧ ((zs.take k).all fun z => inB z 0 1000) = true) (fun i => zs.length - (intOf i).toNat)
 case atStart => exact ⟨0, Nat.zero_le _, rfl, by simp⟩
 case round =>
  obtain ⟨k, hk, rfl, hall⟩ := hrel
  by_cases hlt : k < zs.length
  ·have hcell := hc k hlt
   have Ha := hide hall
   clear hall hc
   generalize hz : zs.getD k 0 = z at *
   have Hz := hide hz
   clear hz
   go_wp2_with fail
   refine (isFadings_any _ _).mono ?_
   rintro e w' ⟨rfl, rfl⟩
   cases hp : inB z 0 1000
   ·go_wp2_with fail
    go_ret
    exact ⟨ret_bool (all_snoc_f hlt (uh Hz) hp).symm, rfl⟩
   ·go_wp2_with fail
    go_round
    case rel => exact ⟨k + 1, by omega, by go_num, all_snoc hlt (uh Hz) (uh Ha) hp⟩
    case measure => simp [intOf]; omega
  ·go_wp2_with fail
   go_ret
   exact ⟨ret_bool (by rw [← hall, List.take_of_length_le (by omega)]), rfl⟩
theorem sA {α : Type} (l : List α) (i : Nat) (a : α) : l.toArray.setIfInBounds i a = (l.set i a).toArray := by simp
theorem sZ {α : Type} (x : α) (l : List α) (a : α) : (x :: l).set 0 a = a :: l := rfl
theorem sS {α : Type} (x : α) (l : List α) (n : Nat) (a : α) : (x :: l).set (n + 1) a = x :: l.set n a := rfl
abbrev PaceV := Int × Int
abbrev RoomV := Int × List PaceV
def paceAt (ps : List PaceV) (k : Nat) : PaceV := ps.getD k (0, 0)
def roomAt (rs : List RoomV) (k : Nat) : RoomV := rs.getD k (0, [])
def IsPaces (w : World) (v : Value) (ps : List PaceV) : Prop :=
 ∃ (a : Option Addr) (cap : Nat), v = .slice a ps.length cap ∧ ps.length ≤ cap ∧ cap ≤ 9223372036854775807 ∧ (ps = [] ∨ ∃ b off, a = some ⟨b, off, none⟩ ∧ b < w.heap.size ∧
  ∀ k, k < ps.length → w.cell? ⟨b, off + k * 2, none⟩ = some (.int .i64 (paceAt ps k).1) ∧ w.cell? ⟨b, off + k * 2 + 1, none⟩ = some (.int .i64 (paceAt ps k).2))
def IsRooms (w : World) (v : Value) (rs : List RoomV) : Prop :=
 ∃ (a : Option Addr) (cap : Nat), v = .slice a rs.length cap ∧ rs.length ≤ cap ∧ cap ≤ 9223372036854775807 ∧ (rs = [] ∨ ∃ b off, a = some ⟨b, off, none⟩ ∧ b < w.heap.size ∧
  ∀ k, k < rs.length → w.cell? ⟨b, off + k * 2, none⟩ = some (.int .i64 (roomAt rs k).1) ∧ ∃ pv, w.cell? ⟨b, off + k * 2 + 1, none⟩ = some pv ∧ IsPaces w pv (roomAt rs k).2)
theorem IsPaces.below {w w' : World} {v : Value} {ps : List PaceV} (h : IsPaces w v ps) (hb : Below w.heap.size w w') : IsPaces w' v ps := by
 obtain ⟨a, cap, rfl, hc, hm, hr⟩ := h
 refine ⟨a, cap, rfl, hc, hm, ?_⟩
 rcases hr with hr | ⟨b, off, rfl, hlt, hcl⟩
 ·exact .inl hr
 ·refine .inr ⟨b, off, rfl, Nat.lt_of_lt_of_le hlt hb.size, fun k hk => ?_⟩
  obtain ⟨h1, h2⟩ := hcl k hk
  exact ⟨by rw [hb.cell (p := ⟨b, off + k * 2, none⟩) hlt]; exact h1, by rw [hb.cell (p := ⟨b, off + k * 2 + 1, none⟩) hlt]; exact h2⟩
theorem IsRooms.below {w w' : World} {v : Value} {rs : List RoomV} (h : IsRooms w v rs) (hb : Below w.heap.size w w') : IsRooms w' v rs := by
 obtain ⟨a, cap, rfl, hc, hm, hr⟩ := h
 refine ⟨a, cap, rfl, hc, hm, ?_⟩
 rcases hr with hr | ⟨b, off, rfl, hlt, hcl⟩
 ·exact .inl hr
 ·refine .inr ⟨b, off, rfl, Nat.lt_of_lt_of_le hlt hb.size, fun k hk => ?_⟩
  obtain ⟨h1, pv, h2, h3⟩ := hcl k hk
  exact ⟨by rw [hb.cell (p := ⟨b, off + k * 2, none⟩) hlt]; exact h1, pv, by rw [hb.cell (p := ⟨b, off + k * 2 + 1, none⟩) hlt]; exact h2, h3.below hb⟩
theorem roomAt_take {rs : List RoomV} {n k : Nat} (h : k < n) : roomAt (rs.take n) k = roomAt rs k := by
 unfold roomAt; simp [List.getD, h]
theorem IsRooms.taken {w : World} {a : Option Addr} {len cap : Nat} {rs : List RoomV} (h : IsRooms w (.slice a len cap) rs) {n : Nat} (hn : n ≤ len) : IsRooms w (.slice a n cap) (rs.take n) := by
 obtain ⟨a', cap', he, hc, hm, hr⟩ := h
 cases he
 have hl : (rs.take n).length = n := by simp; omega
 refine ⟨a, cap, by rw [hl], by omega, hm, ?_⟩
 rcases hr with hr | ⟨b, off, rfl, hlt, hcl⟩
 ·exact .inl (by rw [hr]; simp)
 ·refine .inr ⟨b, off, rfl, hlt, fun k hk => ?_⟩
  rw [roomAt_take (by omega)]
  exact hcl k (by omega)
def paceB (p : PaceV) : Bool := inB p.1 1 1024 && inB p.2 1 1024
def aboveB (p q : PaceV) : Bool := decide (q.1 < p.1) && decide (q.2 < p.2)
def stepB (ps : List PaceV) (k : Nat) : Bool := paceB (paceAt ps k) && (k == 0 || aboveB (paceAt ps k) (paceAt ps (k - 1)))
def pacesB (ps : List PaceV) : Bool := (List.range ps.length).all (stepB ps)
def roomB (r : RoomV) : Bool := inB r.1 1 4 && (inB r.2.length 1 4 && pacesB r.2)
def benchSum (rs : List RoomV) : Int := (rs.map (·.1)).sum
def hallB (rs : List RoomV) : Bool := inB rs.length 1 3 && (rs.all roomB && decide (benchSum rs ≤ 8))
theorem pacesB_t {ps : List PaceV} (h : ∀ j, j < ps.length → stepB ps j = true) : pacesB ps = true := by
 unfold pacesB; rw [List.all_eq_true]; intro j hj; exact h j (List.mem_range.1 hj)
theorem pacesB_f {ps : List PaceV} {j : Nat} (hj : j < ps.length) (h : stepB ps j = false) : pacesB ps = false := by
 unfold pacesB; rw [List.all_eq_false]; exact ⟨j, List.mem_range.2 hj, by simp [h]⟩
theorem pacesB_of {ps : List PaceV} (h : pacesB ps = true) {j : Nat} (hj : j < ps.length) : stepB ps j = true := by
 unfold pacesB at h; rw [List.all_eq_true] at h; exact h j (List.mem_range.2 hj)
theorem roomAt_mem {rs : List RoomV} {k : Nat} (h : k < rs.length) : roomAt rs k ∈ rs := by
 unfold roomAt; simp [List.getD, h]
theorem allRooms_t {rs : List RoomV} (h : ∀ j, j < rs.length → roomB (roomAt rs j) = true) : rs.all roomB = true := by
 rw [List.all_eq_true]; intro r hr
 obtain ⟨j, hj, rfl⟩ := List.getElem_of_mem hr
 have := h j hj
 unfold roomAt at this; simpa [List.getD, hj] using this
theorem allRooms_f {rs : List RoomV} {j : Nat} (hj : j < rs.length) (h : roomB (roomAt rs j) = false) : rs.all roomB = false := by
 rw [List.all_eq_false]; exact ⟨_, roomAt_mem hj, by simp [h]⟩
theorem allRooms_of {rs : List RoomV} (h : rs.all roomB = true) {j : Nat} (hj : j < rs.length) : roomB (roomAt rs j) = true := by
 rw [List.all_eq_true] at h; exact h _ (roomAt_mem hj)
theorem room_bd {r : RoomV} (h : roomB r = true) : 1 ≤ r.1 ∧ r.1 ≤ 4 ∧ 1 ≤ r.2.length ∧ r.2.length ≤ 4 := by
 unfold roomB at h; simp only [Bool.and_eq_true] at h
 have h1 := inB_of h.1; have h2 := inB_of h.2.1
 omega
theorem benchSum_take (rs : List RoomV) {k : Nat} (h : k < rs.length) : benchSum (rs.take (k + 1)) = benchSum (rs.take k) + (roomAt rs k).1 := by
 unfold benchSum roomAt
 rw [List.take_succ_eq_append_getElem h, List.map_append, List.sum_append]; simp [List.getD, h]
theorem benchSum_bd {rs : List RoomV} (h : rs.all roomB = true) : ∀ k, k ≤ rs.length → (k : Int) ≤ benchSum (rs.take k) ∧ benchSum (rs.take k) ≤ 4 * k
 | 0, _ => by simp [benchSum]
 | k + 1, hk => by
  have ih := benchSum_bd h k (by omega)
  have hb := room_bd (allRooms_of h (j := k) (by omega))
  rw [benchSum_take rs (by omega)]; omega
theorem benchSum_all (rs : List RoomV) : benchSum (rs.take rs.length) = benchSum rs := by rw [List.take_length]
theorem hallB_of {rs : List RoomV} (h : hallB rs = true) : 1 ≤ rs.length ∧ rs.length ≤ 3 ∧ rs.all roomB = true ∧ benchSum rs ≤ 8 := by
 unfold hallB at h; simp only [Bool.and_eq_true, decide_eq_true_eq] at h
 have h1 := inB_of h.1
 exact ⟨by omega, by omega, h.2.1, h.2.2⟩
open Go.ChangeShapes Go.WideShapes Go.ChangeAt Go.RowKit Go.Sort
theorem bcell {W w1 : World} {B : Nat} (hb : Below B W w1) : (∀ b o, b < B → w1.cell? ⟨b, o, none⟩ = W.cell? ⟨b, o, none⟩) ∧ (∀ b o, b < B → w1.frozen? ⟨b, o, none⟩ = W.frozen? ⟨b, o, none⟩) :=
 ⟨fun b o h => hb.cell (p := ⟨b, o, none⟩) h, fun b o h => hb.frozen (p := ⟨b, o, none⟩) h⟩
theorem liesFrom_any (lo n hi : Int) (w : World) : Calls Tryz.prog 117 #[.int .i64 lo, .int .i64 n, .int .i64 hi] w fun e w' => e = .returned (.bool (inB n lo hi)) ∧ w' = w := by
 by_cases h1 : lo ≤ n
 ·by_cases h2 : n ≤ hi
  all_goals
   go_enter Tryz.func117, Tryz.ntmps117
   go_wp2
   go_ret
   exact ⟨ret_bool (by unfold inB; simp [h1, h2]), rfl⟩
 ·go_enter Tryz.func117, Tryz.ntmps117
  go_wp2
  go_ret
  exact ⟨ret_bool (by unfold inB; simp; omega), rfl⟩
theorem next_all {P : Nat → Prop} {k : Nat} (h : ∀ j, j < k → P j) (hk : P k) : ∀ j, j < k + 1 → P j := fun j hj => by
 by_cases e : j < k
 ·exact h j e
 ·obtain rfl : j = k := by omega
  exact hk
theorem own_same {w w' : World} {B t size n : Nat} {v : Value} {xs : List Value} (h : w.ownsRow B t size v n xs) (hs : ∀ k, v.ownBlock = some k → w'.heap[k]? = w.heap[k]?) : w'.ownsRow B t size v n xs := by
 refine ⟨h.1, ?_⟩
 rcases h.2 with hz | ⟨g, cap, cur, rfl, hb, hg, r⟩
 ·exact .inl hz
 ·exact .inr ⟨g, cap, cur, rfl, hb, (hs g rfl).trans hg, r⟩
theorem own_mono {w : World} {B B' t size n : Nat} {v : Value} {xs : List Value} (h : w.ownsRow B t size v n xs) (hb : B' ≤ B) : w.ownsRow B' t size v n xs := by
 refine ⟨h.1, ?_⟩
 rcases h.2 with hz | ⟨g, cap, cur, rfl, hb', r⟩
 ·exact .inl hz
 ·exact .inr ⟨g, cap, cur, rfl, by omega, r⟩
def pcells (ps : List PaceV) : List Value := ps.flatMap fun p => [.int .i64 p.1, .int .i64 p.2]
def rcells (qs : List (RoomV × Value)) : List Value := qs.flatMap fun q => [.int .i64 q.1.1, q.2]
theorem pairs_len {α : Type} {f g : α → Value} : ∀ l : List α, (l.flatMap fun p => [f p, g p]).length = l.length * 2
 | [] => rfl
 | p :: l => by rw [List.flatMap_cons, List.length_append, pairs_len l]; simp; omega
theorem pairs_get {α : Type} {f g : α → Value} : ∀ (l : List α) (k : Nat) (h : k < l.length), (l.flatMap fun p => [f p, g p])[k * 2]? = some (f l[k]) ∧ (l.flatMap fun p => [f p, g p])[k * 2 + 1]? = some (g l[k])
 | p :: l, 0, _ => by simp
 | p :: l, k + 1, h => by
  have ih := pairs_get (f := f) (g := g) l k (by simpa using h)
  rw [List.flatMap_cons, show (k + 1) * 2 = k * 2 + 2 by omega, show k * 2 + 2 + 1 = (k * 2 + 1) + 2 by omega]
  simpa using ih
def szV (n : Nat) (left : Int) : Int := if left - n < 0 then -1 else left - n
theorem szV_f {n : Nat} {left : Int} (h : left - n < 0) : szV n left = -1 := by unfold szV; rw [if_pos h]
theorem szV_t {n : Nat} {left : Int} (h : ¬ left - n < 0) : szV n left = left - n := by unfold szV; rw [if_neg h]
def Pairs (xs : List Value) (P : Nat → Value → Value → Prop) (k : Nat) : Prop := ∀ j, j < k → ∃ u u', xs[j * 2]? = some u ∧ xs[j * 2 + 1]? = some u' ∧ P j u u'
theorem Pairs.next {xs : List Value} {P : Nat → Value → Value → Prop} {k : Nat} {u u' : Value} (h : Pairs xs P k) (hl : k * 2 + 1 < xs.length) (hp : P k u u') : Pairs ((xs.set (k * 2) u).set (k * 2 + 1) u') P (k + 1) := fun j hj => by
 by_cases e : j < k
 ·obtain ⟨a, a', h1, h2, h3⟩ := h j e
  refine ⟨a, a', ?_, ?_, h3⟩
  ·rw [List.getElem?_set_ne (by omega), List.getElem?_set_ne (by omega)]; exact h1
  ·rw [List.getElem?_set_ne (by omega), List.getElem?_set_ne (by omega)]; exact h2
 ·obtain rfl : j = k := by omega
  refine ⟨u, u', ?_, ?_, hp⟩
  ·rw [List.getElem?_set_ne (by omega), List.getElem?_set_self (by omega)]
  ·rw [List.getElem?_set_self (by simp; omega)]
theorem Pairs.mono {xs : List Value} {P Q : Nat → Value → Value → Prop} {k : Nat} (h : Pairs xs P k) (hpq : ∀ j u u', P j u u' → Q j u u') : Pairs xs Q k := fun j hj => by
 obtain ⟨a, a', h1, h2, h3⟩ := h j hj
 exact ⟨a, a', h1, h2, hpq _ _ _ h3⟩
def isPaceOf (ps : List PaceV) (j : Nat) (u u' : Value) : Prop := u = .int .i64 (paceAt ps j).1 ∧ u' = .int .i64 (paceAt ps j).2
theorem IsPaces.of_row {w : World} {B g n cap t : Nat} {ps : List PaceV} {xs : List Value} (h : w.ownsRow B t 2 (.slice (some ⟨g, 0, none⟩) n cap) n xs) (hp : Pairs xs (isPaceOf ps) ps.length) (hn : n = ps.length) : IsPaces w (.slice (some ⟨g, 0, none⟩) n cap) ps := by
 subst hn
 have h' := h
 rcases h.2 with ⟨hh, _⟩ | ⟨g', cap', cur, hh, hb, hg, hnc, hcm, r⟩
 ·simp at hh
 ·simp only [Value.slice.injEq, Option.some.injEq, Addr.mk.injEq, and_true, true_and] at hh
  obtain ⟨rfl, rfl⟩ := hh
  refine ⟨_, cap, rfl, hnc, by unfold maxLen at hcm; omega, .inr ⟨g, 0, rfl, (Array.getElem?_eq_some_iff.1 hg).1, fun k hk => ?_⟩⟩
  obtain ⟨u, u', h1, h2, rfl, rfl⟩ := hp k hk
  refine ⟨?_, ?_⟩
  ·rw [Nat.zero_add, World.ownsRow.cellAt h' _ (by omega)]; exact h1
  ·rw [Nat.zero_add, World.ownsRow.cellAt h' _ (by omega)]; exact h2
theorem own_cell {w : World} {B g n cap t : Nat} {xs : List Value} (h : w.ownsRow B t 2 (.slice (some ⟨g, 0, none⟩) n cap) n xs) {j : Nat} (hj : j < n * 2) : (∃ c, w.cell? ⟨g, j, none⟩ = some c) ∧ w.frozen? ⟨g, j, none⟩ = false := by
 refine ⟨?_, World.ownsRow.frozenAt h j⟩
 rw [World.ownsRow.cellAt h j hj]
 exact ⟨xs[j]'(by rw [h.1]; exact hj), List.getElem?_eq_getElem _⟩
theorem below_grown {B g : Nat} {w w' : World} (hg : w.grownBy w' (some g)) (hB : B ≤ g) (hs : B ≤ w.heap.size) : Below B w w' := (Below.refl B w).grown hg hs (fun k e => by cases e; exact hB)
theorem grown_trans {a b c : World} {row : Option Nat} (h : a.grownBy b row) (k : b.grownBy c row) : a.grownBy c row :=
 ⟨k.os.trans h.os, k.tape.trans h.tape, k.output.trans h.output, Nat.le_trans h.size k.size, fun i hi hn => (k.block i (Nat.lt_of_lt_of_le hi h.size) hn).trans (h.block i hi hn)⟩
theorem own_pair {w : World} {B g n cap t : Nat} {xs : List Value} (h : w.ownsRow B t 2 (.slice (some ⟨g, 0, none⟩) n cap) n xs) (j : Nat) (u u' : Value) :
  ((w.setCell ⟨g, j, none⟩ u).setCell ⟨g, j + 1, none⟩ u').ownsRow B t 2 (.slice (some ⟨g, 0, none⟩) n cap) n ((xs.set j u).set (j + 1) u') ∧ w.grownBy ((w.setCell ⟨g, j, none⟩ u).setCell ⟨g, j + 1, none⟩ u') (some g) := by
 have h1 := World.ownsRow.stored h j u
 have h2 := World.ownsRow.stored h1.1 (j + 1) u'
 exact ⟨h2.1, grown_trans h1.2 h2.2⟩
theorem own_later {w w' : World} {B g n cap t : Nat} {xs : List Value} (h : w.ownsRow B t 2 (.slice (some ⟨g, 0, none⟩) n cap) n xs) (hb : Below w.heap.size w w') : w'.ownsRow B t 2 (.slice (some ⟨g, 0, none⟩) n cap) n xs := by
 have hlt := (World.ownsRow.lt h g rfl).2
 refine ⟨h.1, ?_⟩
 rcases h.2 with hz | ⟨g', cap', cur, hh, hb', hg, r⟩
 ·exact .inl hz
 ·simp only [Value.slice.injEq, Option.some.injEq, Addr.mk.injEq, and_true, true_and] at hh
  obtain ⟨rfl, rfl⟩ := hh
  exact .inr ⟨g, cap, cur, rfl, hb', (hb.block g hlt).trans hg, r⟩
theorem pput (f c : Int) : ∀ (ps : List PaceV) (j : Nat), j < ps.length → ((pcells ps).set (j * 2) (.int .i64 f)).set (j * 2 + 1) (.int .i64 c) = pcells (ps.set j (f, c))
 | p :: ps, 0, _ => by simp [pcells]
 | p :: ps, j + 1, h => by
  have ih := pput f c ps j (by simpa using h)
  unfold pcells at ih ⊢
  rw [List.flatMap_cons, show (j + 1) * 2 = j * 2 + 2 by omega, show j * 2 + 2 + 1 = (j * 2 + 1) + 2 by omega]
  simpa using ih
def mps (k : Int) (n : Nat) : List PaceV := (List.range n).map fun i : Nat => (k + 2 * (i : Int), k + 2 * (i : Int) + 1)
theorem mps_len (k : Int) (n : Nat) : (mps k n).length = n := by simp [mps]
theorem mps_at (k : Int) (n i : Nat) (h : i < n) : paceAt (mps k n) i = (k + 2 * (i : Int), k + 2 * (i : Int) + 1) := by unfold paceAt mps; simp [List.getD, h]
def mpd (ps : List PaceV) (k : Int) (j : Nat) : List PaceV := mps k j ++ ps.drop j
theorem mpd_len {ps : List PaceV} {k : Int} {j : Nat} (h : j ≤ ps.length) : (mpd ps k j).length = ps.length := by simp [mpd, mps_len]; omega
theorem mpd_succ {ps : List PaceV} {k : Int} {j : Nat} (h : j < ps.length) : (mpd ps k j).set j (k + 2 * (j : Int), k + 2 * (j : Int) + 1) = mpd ps k (j + 1) := by
 unfold mpd
 rw [List.set_append_right _ _ (by simp [mps_len]), mps_len, Nat.sub_self, List.drop_eq_getElem_cons h, List.set_cons_zero]
 simp [mps, List.range_succ]
theorem mpd_all (ps : List PaceV) (k : Int) : mpd ps k ps.length = mps k ps.length := by simp [mpd]
theorem grown_refl (w : World) (r : Option Nat) : w.grownBy w r := ⟨rfl, rfl, rfl, Nat.le_refl _, fun _ _ _ => rfl⟩
theorem isPace_any (f c : Int) (w : World) : Calls Tryz.prog 232 #[.agg #[.int .i64 f, .int .i64 c]] w fun e w' => e = .returned (.bool (paceB (f, c))) ∧ Below w.heap.size w w' := by
 cases h1 : inB f 1 1024
 ·go_enter Tryz.func232, Tryz.ntmps232
  go_wp2_with fail
  refine (liesFrom_any _ _ _ _).mono ?_
  rintro e w' ⟨rfl, rfl⟩
  go_wp2_with fail
  go_ret
  exact ⟨ret_bool (by unfold paceB; simp [h1]), (ba _ _)⟩
 ·go_enter Tryz.func232, Tryz.ntmps232
  go_wp2_with fail
  refine (liesFrom_any _ _ _ _).mono ?_
  rintro e w' ⟨rfl, rfl⟩
  go_wp2_with fail
  refine (liesFrom_any _ _ _ _).mono ?_
  rintro e w' ⟨rfl, rfl⟩
  go_wp2_with fail
  go_ret
  exact ⟨ret_bool (by unfold paceB; simp [h1]), (ba _ _)⟩
theorem isAbove_any (f c f' c' : Int) (w : World) : Calls Tryz.prog 233 #[.agg #[.int .i64 f, .int .i64 c], .agg #[.int .i64 f', .int .i64 c']] w fun e w' => e = .returned (.bool (aboveB (f, c) (f', c'))) ∧ Below w.heap.size w w' := by
 by_cases h1 : f' < f
 ·go_enter Tryz.func233, Tryz.ntmps233
  go_wp2_with fail
  all_goals
   go_ret
   exact ⟨ret_bool (by unfold aboveB; simp [h1]), ((ba _ _)).alloc (by simp) _⟩
 ·go_enter Tryz.func233, Tryz.ntmps233
  go_wp2_with fail
  all_goals
   go_ret
   exact ⟨ret_bool (by unfold aboveB; simp; omega), ((ba _ _)).alloc (by simp) _⟩
theorem stepB_p {ps : List PaceV} {k : Nat} {p : PaceV} (hp : paceAt ps k = p) (h : paceB p = false) : stepB ps k = false := by unfold stepB; rw [hp]; simp [h]
theorem stepB_0 {ps : List PaceV} {p : PaceV} (hp : paceAt ps 0 = p) (h : paceB p = true) : stepB ps 0 = true := by unfold stepB; rw [hp]; simp [h]
theorem stepB_s {ps : List PaceV} {k : Nat} {p q : PaceV} (hp : paceAt ps (k + 1) = p) (hq : paceAt ps k = q) (h : paceB p = true) : stepB ps (k + 1) = aboveB p q := by unfold stepB; simp [hp, hq, h]
theorem pacesOk_any {w : World} {v : Value} {ps : List PaceV} (h : IsPaces w v ps) :
  Calls Tryz.prog 183 #[v] w fun e w' => e = .returned (.bool (pacesB ps)) ∧ Below w.heap.size w w' := by
 obtain ⟨a, cap, rfl, hc, hm, hr⟩ := h
 have Hr := hide hr
 clear hr
 go_enter Tryz.func183, Tryz.ntmps183
 go_wp2_with fail
 go_loopw [7] (fun i wr => ∃ k : Nat, k ≤ ps.length ∧ i = .int .i64 k ∧ (∀ j, j < k → stepB ps j = true) ∧ Below w.heap.size w wr) (fun i _ => ps.length - (intOf i).toNat)
 case atStart => exact ⟨0, Nat.zero_le _, rfl, fun j hj => by omega, Below.refl _ _⟩
 case round =>
  obtain ⟨k, hk, rfl, hst, hb⟩ := hrel
  have Hst := hide hst
  have Hb := hide hb
  clear hst
  by_cases hlt : k < ps.length
  ·rcases uh Hr with h0 | ⟨b, off, rfl, hbw, hcl⟩
   ·rw [h0] at hlt; simp at hlt
   have hbr : b < wr.heap.size := Nat.lt_of_lt_of_le hbw hb.size
   have hne : b ≠ wr.heap.size := Nat.ne_of_lt hbr
   obtain ⟨c0, c1⟩ := hcl k hlt
   rw [← hb.cell (p := ⟨b, off + k * 2, none⟩) hbw] at c0
   rw [← hb.cell (p := ⟨b, off + k * 2 + 1, none⟩) hbw] at c1
   generalize hp : paceAt ps k = p at c0 c1
   have Hp := hide hp
   clear hp
   obtain ⟨f, c⟩ := p
   simp only at c0 c1
   have d0 : (wr.alloc (.cells #[.int .i64 f, .int .i64 c] 42)).cell? ⟨wr.heap.size, 0, none⟩ = some (.int .i64 f) := by simp
   have d1 : (wr.alloc (.cells #[.int .i64 f, .int .i64 c] 42)).cell? ⟨wr.heap.size, 1, none⟩ = some (.int .i64 c) := by simp
   have k0 := cell_regrown d0
   have k1 := cell_regrown d1
   clear d0 d1
   cases hpb : paceB (f, c)
   ·clear hcl
    go_wp2_with fail
    refine wq ?_
    repeat (go_big_quiet_step (first | exact Calls.regrown_of (isPace_any _ _ _) | exact Calls.regrown_of (isAbove_any _ _ _ _ _)))
    refine wpQuiet_nil ?_
    intro _ hw'
    obtain ⟨⟨dq, osq⟩, hw''⟩ := hw'
    subst hw''
    go_wp2_with fail
    go_ret
    exact ⟨ret_bool (pacesB_f hlt (stepB_p (uh Hp) hpb)).symm, (uh Hb).trans (((Below.refl _ _).alloc (uh Hb).size _).trans ((below_regrown _ _ _).mono (by simp; have := (uh Hb).size; omega)))⟩
   ·by_cases hz : 0 < k
    ·have hd : decide (0 < k) = true := decide_eq_true hz
     obtain ⟨e0, e1⟩ := hcl (k - 1) (by omega)
     rw [← hb.cell (p := ⟨b, off + (k - 1) * 2, none⟩) hbw] at e0
     rw [← hb.cell (p := ⟨b, off + (k - 1) * 2 + 1, none⟩) hbw] at e1
     generalize hq : paceAt ps (k - 1) = q at e0 e1
     have Hq := hide hq
     clear hq
     obtain ⟨f', c'⟩ := q
     simp only at e0 e1
     have m0 := cell_regrown (w := wr.alloc (.cells #[.int .i64 f, .int .i64 c] 42)) (a := ⟨b, off + (k - 1) * 2, none⟩) (v := .int .i64 f') (by rw [World.cell?_alloc_old _ _ _ hne]; exact e0)
     have m1 := cell_regrown (w := wr.alloc (.cells #[.int .i64 f, .int .i64 c] 42)) (a := ⟨b, off + (k - 1) * 2 + 1, none⟩) (v := .int .i64 c') (by rw [World.cell?_alloc_old _ _ _ hne]; exact e1)
     clear hcl e0 e1
     cases hab : aboveB (f, c) (f', c')
     all_goals
      go_wp2_with fail
      refine wq ?_
      repeat (go_big_quiet_step (first | exact Calls.regrown_of (isPace_any _ _ _) | exact Calls.regrown_of (isAbove_any _ _ _ _ _)))
      refine wpQuiet_nil ?_
      intro _ hw'
      obtain ⟨⟨dq, osq⟩, hw''⟩ := hw'
      subst hw''
      go_wp2_with fail
     ·go_ret
      exact ⟨ret_bool (pacesB_f hlt (by obtain ⟨m, rfl⟩ : ∃ m, k = m + 1 := ⟨k - 1, by omega⟩; rw [stepB_s (uh Hp) (uh Hq) hpb]; exact hab)).symm, (uh Hb).trans (((Below.refl _ _).alloc (uh Hb).size _).trans ((below_regrown _ _ _).mono (by simp; have := (uh Hb).size; omega)))⟩
     ·have hs : stepB ps k = true := by obtain ⟨m, rfl⟩ : ∃ m, k = m + 1 := ⟨k - 1, by omega⟩; rw [stepB_s (uh Hp) (uh Hq) hpb]; exact hab
      go_roundw
      case rel => exact ⟨k + 1, by omega, by go_num, next_all (uh Hst) hs, (uh Hb).trans (((Below.refl _ _).alloc (uh Hb).size _).trans ((below_regrown _ _ _).mono (by simp; have := (uh Hb).size; omega)))⟩
      case measure => exact ms
    ·obtain rfl : k = 0 := by omega
     simp only [Nat.zero_mul, Nat.add_zero] at c0 c1
     clear hcl hz
     go_wp2_with fail
     refine wq ?_
     repeat (go_big_quiet_step (first | exact Calls.regrown_of (isPace_any _ _ _) | exact Calls.regrown_of (isAbove_any _ _ _ _ _)))
     refine wpQuiet_nil ?_
     intro _ hw'
     obtain ⟨⟨dq, osq⟩, hw''⟩ := hw'
     subst hw''
     go_wp2_with fail
     go_roundw
     case rel => exact ⟨1, by omega, by go_num, next_all (uh Hst) (stepB_0 (uh Hp) hpb), (uh Hb).trans (((Below.refl _ _).alloc (uh Hb).size _).trans ((below_regrown _ _ _).mono (by simp; have := (uh Hb).size; omega)))⟩
     case measure => exact ms
  ·obtain rfl : k = ps.length := by omega
   go_wp2_with fail
   go_ret
   exact ⟨ret_bool (pacesB_t (uh Hst)).symm, hb⟩
theorem roomB_1 {b : Int} {ps : List PaceV} (h : inB b 1 4 = false) : roomB (b, ps) = false := by unfold roomB; simp [h]
theorem roomB_2 {b : Int} {ps : List PaceV} (h : inB ps.length 1 4 = false) : roomB (b, ps) = false := by unfold roomB; simp [h]
theorem roomB_3 {b : Int} {ps : List PaceV} (h : inB b 1 4 = true) (h2 : inB ps.length 1 4 = true) : roomB (b, ps) = pacesB ps := by unfold roomB; simp [h, h2]
theorem implRoomOk_any {w : World} {v : Value} {ps : List PaceV} (b : Int) (h : IsPaces w v ps) :
  Calls Tryz.prog 116 #[.agg #[.int .i64 b, v]] w fun e w' => e = .returned (.bool (roomB (b, ps))) ∧ Below w.heap.size w w' := by
 have Hv := hide h
 obtain ⟨a, cap, rfl, hc, hm, hr⟩ := h
 clear hr
 have hl : (ps.length : Int) ≤ 9223372036854775807 := by omega
 cases h1 : inB b 1 4
 ·go_enter Tryz.func116, Tryz.ntmps116
  go_wp2_with fail
  refine (liesFrom_any _ _ _ _).mono ?_
  rintro e w' ⟨rfl, rfl⟩
  go_wp2_with fail
  go_ret
  exact ⟨ret_bool (roomB_1 h1).symm, (ba _ _)⟩
 cases h2 : inB ps.length 1 4
 ·go_enter Tryz.func116, Tryz.ntmps116
  go_wp2_with fail
  refine (liesFrom_any _ _ _ _).mono ?_
  rintro e w' ⟨rfl, rfl⟩
  go_wp2_with fail
  refine (liesFrom_any _ _ _ _).mono ?_
  rintro e w' ⟨rfl, rfl⟩
  go_wp2_with fail
  go_ret
  exact ⟨ret_bool (roomB_2 h2).symm, (ba _ _)⟩
 ·have H3 := hide (roomB_3 h1 h2)
  go_enter Tryz.func116, Tryz.ntmps116
  go_wp2_with fail
  refine (liesFrom_any _ _ _ _).mono ?_
  rintro e w' ⟨rfl, rfl⟩
  go_wp2_with fail
  refine (liesFrom_any _ _ _ _).mono ?_
  rintro e w' ⟨rfl, rfl⟩
  go_wp2_with fail
  refine ck (pacesOk_any ((uh Hv).below ((ba _ _)))) fun w1 hb => ?_
  go_wp2_with fail
  go_ret
  exact ⟨ret_bool (uh H3).symm, ((ba _ _)).trans (hb.mono (by simp))⟩
theorem below_drewN {B : Nat} {w w' : World} (h : Below B w w') (n : Nat) : Below B w (w'.drewN n) := ⟨h.os, h.tape, h.output, h.size, h.block⟩
theorem stepB_f1 {ps : List PaceV} {k : Nat} {f c : Int} (hp : paceAt ps k = (f, c)) (h : inB f 1 1024 = false) : stepB ps k = false := by unfold stepB paceB; rw [hp]; simp [h]
theorem stepB_f2 {ps : List PaceV} {k : Nat} {f c : Int} (hp : paceAt ps k = (f, c)) (h : inB c 1 1024 = false) : stepB ps k = false := by unfold stepB paceB; rw [hp]; simp [h]
theorem stepB_b {ps : List PaceV} {k : Nat} {f c f' c' : Int} (hp : paceAt ps k = (f, c)) (hz : 0 < k) (hq : paceAt ps (k - 1) = (f', c')) (h1 : inB f 1 1024 = true) (h2 : inB c 1 1024 = true) : stepB ps k = (decide (f' < f) && decide (c' < c)) := by
 unfold stepB paceB aboveB; rw [hp, hq]; simp [h1, h2]; omega
theorem stepB_t0 {ps : List PaceV} {f c : Int} (hp : paceAt ps 0 = (f, c)) (h1 : inB f 1 1024 = true) (h2 : inB c 1 1024 = true) : stepB ps 0 = true := by unfold stepB paceB; rw [hp]; simp [h1, h2]
theorem specRoomOk_any {w : World} {v : Value} {ps : List PaceV} (rb : Int) (h : IsPaces w v ps) :
  Calls Tryz.prog 163 #[.agg #[.int .i64 rb, v]] w fun e w' => e = .returned (.bool (roomB (rb, ps))) ∧ Below w.heap.size w w' := by
 obtain ⟨a, cap, rfl, hc, hm, hr⟩ := h
 have Hr := hide hr
 clear hr
 have hl : (ps.length : Int) ≤ 9223372036854775807 := by omega
 cases h1 : inB rb 1 4
 ·go_enter Tryz.func163, Tryz.ntmps163
  go_wp2_with fail
  refine (l1In_any _ _ _ _).mono ?_
  rintro e w' ⟨rfl, rfl⟩
  go_wp2_with fail
  go_ret
  exact ⟨ret_bool (roomB_1 h1).symm, (ba _ _)⟩
 cases h2 : inB ps.length 1 4
 ·go_enter Tryz.func163, Tryz.ntmps163
  go_wp2_with fail
  refine (l1In_any _ _ _ _).mono ?_
  rintro e w' ⟨rfl, rfl⟩
  go_wp2_with fail
  refine (l1In_any _ _ _ _).mono ?_
  rintro e w' ⟨rfl, rfl⟩
  go_wp2_with fail
  go_ret
  exact ⟨ret_bool (roomB_2 h2).symm, (ba _ _)⟩
 have H3 := hide (roomB_3 h1 h2)
 go_enter Tryz.func163, Tryz.ntmps163
 go_wp2_with fail
 refine (l1In_any _ _ _ _).mono ?_
 rintro e w' ⟨rfl, rfl⟩
 go_wp2_with fail
 refine (l1In_any _ _ _ _).mono ?_
 rintro e w' ⟨rfl, rfl⟩
 go_wp2_with fail
 clear h1 h2
 go_loopw [3] (fun i wr => ∃ k : Nat, k ≤ ps.length ∧ i = .int .i64 k ∧ (∀ j, j < k → stepB ps j = true) ∧ Below (w.heap.size + 1) (w.alloc (.cells #[.int .i64 rb, .slice a ps.length cap] 45)) wr) (fun i _ => ps.length - (intOf i).toNat)
 case atStart => exact ⟨0, Nat.zero_le _, rfl, fun j hj => by omega, Below.refl _ _⟩
 case round =>
  obtain ⟨k, hk, rfl, hst, hb⟩ := hrel
  have Hst := hide hst
  have Hb := hide hb
  clear hst
  have hsz : w.heap.size + 1 ≤ wr.heap.size := by have := hb.size; simpa using this
  have hbox : wr.cell? ⟨w.heap.size, 1, none⟩ = some (.slice a ps.length cap) := by rw [hb.cell (p := ⟨w.heap.size, 1, none⟩) (by simp)]; simp
  have hne0 : w.heap.size ≠ wr.heap.size := by omega
  by_cases hlt : k < ps.length
  ·rcases uh Hr with h0 | ⟨b, off, rfl, hbw, hcl⟩
   ·rw [h0] at hlt; simp at hlt
   have hbB : Below w.heap.size w wr := ((ba _ _)).trans (hb.mono (by omega))
   have hne : b ≠ wr.heap.size := by omega
   have hne' : b ≠ w.heap.size := by omega
   obtain ⟨c0, c1⟩ := hcl k hlt
   rw [← hbB.cell (p := ⟨b, off + k * 2, none⟩) hbw] at c0
   rw [← hbB.cell (p := ⟨b, off + k * 2 + 1, none⟩) hbw] at c1
   generalize hp : paceAt ps k = p at c0 c1
   have Hp := hide hp
   obtain ⟨f, c⟩ := p
   simp only at c0 c1
   clear hp hb
   cases h1 : inB f 1 1024
   ·clear hcl
    go_wp2_with fail
    go_quiet (exact Calls.quiet_of_same (l1In_any _ _ _ _))
    go_wp2_with fail
    go_ret
    exact ⟨ret_bool (by rw [uh H3]; exact (pacesB_f hlt (stepB_f1 (uh Hp) h1)).symm), ((ba _ _)).trans ((below_drewN ((uh Hb).alloc hsz _) _).mono (by omega))⟩
   cases h2 : inB c 1 1024
   ·clear hcl
    go_wp2_with fail
    go_quiet (exact Calls.quiet_of_same (l1In_any _ _ _ _))
    go_wp2_with fail
    go_ret
    exact ⟨ret_bool (by rw [uh H3]; exact (pacesB_f hlt (stepB_f2 (uh Hp) h2)).symm), ((ba _ _)).trans ((below_drewN ((uh Hb).alloc hsz _) _).mono (by omega))⟩
   by_cases hz : 0 < k
   ·have hd : decide (0 < k) = true := decide_eq_true hz
    obtain ⟨e0, e1⟩ := hcl (k - 1) (by omega)
    rw [← hbB.cell (p := ⟨b, off + (k - 1) * 2, none⟩) hbw] at e0
    rw [← hbB.cell (p := ⟨b, off + (k - 1) * 2 + 1, none⟩) hbw] at e1
    generalize hq : paceAt ps (k - 1) = q at e0 e1
    have Hq := hide hq
    obtain ⟨f', c'⟩ := q
    simp only at e0 e1
    have q0 : (wr.alloc (.cells #[.int .i64 f, .int .i64 c] 42)).cell? ⟨w.heap.size, 1, none⟩ = some (.slice (some ⟨b, off, none⟩) ps.length cap) := by rw [World.cell?_alloc_old _ _ _ hne0]; exact hbox
    have q1 : (wr.alloc (.cells #[.int .i64 f, .int .i64 c] 42)).cell? ⟨b, off + (k - 1) * 2, none⟩ = some (.int .i64 f') := by rw [World.cell?_alloc_old _ _ _ hne]; exact e0
    have q2 : (wr.alloc (.cells #[.int .i64 f, .int .i64 c] 42)).cell? ⟨b, off + (k - 1) * 2 + 1, none⟩ = some (.int .i64 c') := by rw [World.cell?_alloc_old _ _ _ hne]; exact e1
    clear hcl hq e0 e1
    have Hs := hide (stepB_b (uh Hp) hz (uh Hq) h1 h2)
    by_cases g1 : f ≤ f'
    ·have g1' : decide (f ≤ f') = true := decide_eq_true g1
     go_wp2_with fail
     go_quiet (exact Calls.quiet_of_same (l1In_any _ _ _ _))
     go_wp2_with fail
     go_ret
     exact ⟨ret_bool (by rw [uh H3]; exact (pacesB_f hlt (by rw [uh Hs]; simp; omega)).symm), ((ba _ _)).trans ((below_drewN ((uh Hb).alloc hsz _) _).mono (by omega))⟩
    have g1' : decide (f ≤ f') = false := decide_eq_false g1
    by_cases g2 : c ≤ c'
    ·have g2' : decide (c ≤ c') = true := decide_eq_true g2
     go_wp2_with fail
     go_quiet (exact Calls.quiet_of_same (l1In_any _ _ _ _))
     go_wp2_with fail
     go_ret
     exact ⟨ret_bool (by rw [uh H3]; exact (pacesB_f hlt (by rw [uh Hs]; simp; omega)).symm), ((ba _ _)).trans ((below_drewN ((uh Hb).alloc hsz _) _).mono (by omega))⟩
    ·have g2' : decide (c ≤ c') = false := decide_eq_false g2
     go_wp2_with fail
     go_quiet (exact Calls.quiet_of_same (l1In_any _ _ _ _))
     go_wp2_with fail
     go_roundw
     case rel => exact ⟨k + 1, by omega, by go_num, next_all (uh Hst) (by rw [uh Hs]; simp; omega), below_drewN ((uh Hb).alloc hsz _) _⟩
     case measure => exact ms
   ·obtain rfl : k = 0 := by omega
    simp only [Nat.zero_mul, Nat.add_zero] at c0 c1
    clear hcl hz
    go_wp2_with fail
    go_quiet (exact Calls.quiet_of_same (l1In_any _ _ _ _))
    go_wp2_with fail
    go_roundw
    case rel => exact ⟨1, by omega, by go_num, next_all (uh Hst) (stepB_t0 (uh Hp) h1 h2), below_drewN ((uh Hb).alloc hsz _) _⟩
    case measure => exact ms
  ·obtain rfl : k = ps.length := by omega
   clear hb
   go_wp2_with fail
   go_ret
   exact ⟨ret_bool (by rw [uh H3]; exact (pacesB_t (uh Hst)).symm), ((ba _ _)).trans ((uh Hb).mono (by omega))⟩
def Adds (rs : List RoomV) : Prop := ∀ k, k ≤ rs.length → 0 ≤ benchSum (rs.take k) ∧ benchSum (rs.take k) ≤ 1000000
theorem adds_of {rs : List RoomV} (h : rs.all roomB = true) (hl : rs.length ≤ 3) : Adds rs := fun k hk => by have := benchSum_bd h k hk; omega
theorem Adds.taken {rs : List RoomV} (h : Adds rs) (n : Nat) : Adds (rs.take n) := fun k hk => by
 have hk' : k ≤ n ∧ k ≤ rs.length := by simp at hk; omega
 rw [List.take_take, Nat.min_eq_left hk'.1]; exact h k hk'.2
theorem roomsOk_any {w : World} {v : Value} {rs : List RoomV} (h : IsRooms w v rs) :
  Calls Tryz.prog 211 #[v] w fun e w' => e = .returned (.bool (rs.all roomB)) ∧ Below w.heap.size w w' := by
 obtain ⟨a, cap, rfl, hc, hm, hr⟩ := h
 have Hr := hide hr
 clear hr
 go_enter Tryz.func211, Tryz.ntmps211
 go_wp2_with fail
 go_loopw [7] (fun i wr => ∃ k : Nat, k ≤ rs.length ∧ i = .int .i64 k ∧ (∀ j, j < k → roomB (roomAt rs j) = true) ∧ Below w.heap.size w wr) (fun i _ => rs.length - (intOf i).toNat)
 case atStart => exact ⟨0, Nat.zero_le _, rfl, fun j hj => by omega, Below.refl _ _⟩
 case round =>
  obtain ⟨k, hk, rfl, hst, hb⟩ := hrel
  have Hst := hide hst
  have Hb := hide hb
  have hsz := hb.size
  clear hst
  by_cases hlt : k < rs.length
  ·rcases uh Hr with h0 | ⟨b, off, rfl, hbw, hcl⟩
   ·rw [h0] at hlt; simp at hlt
   obtain ⟨c0, pv, c1, hip⟩ := hcl k hlt
   rw [← hb.cell (p := ⟨b, off + k * 2, none⟩) hbw] at c0
   rw [← hb.cell (p := ⟨b, off + k * 2 + 1, none⟩) hbw] at c1
   have Hip := hide (hip.below hb)
   obtain ⟨pa, pcap, rfl, _⟩ := hip
   generalize hp : roomAt rs k = p at *
   obtain ⟨rb, ps⟩ := p
   simp only at c0 c1
   have Hp := hide hp
   clear hp hcl hb
   cases hrb : roomB (rb, ps)
   ·go_wp2_with fail
    refine ck (implRoomOk_any rb ((uh Hip).below ((ba _ _)))) fun w1 hb1 => ?_
    go_wp2_with fail
    go_ret
    exact ⟨ret_bool (allRooms_f hlt (by rw [uh Hp]; exact hrb)).symm, ((uh Hb).alloc hsz _).trans (hb1.mono (by simp; omega))⟩
   ·go_wp2_with fail
    refine ck (implRoomOk_any rb ((uh Hip).below ((ba _ _)))) fun w1 hb1 => ?_
    have Hb1 := hide hb1
    clear hb1
    go_wp2_with fail
    go_roundw
    case rel => exact ⟨k + 1, by omega, by go_num, next_all (uh Hst) (by rw [uh Hp]; exact hrb), ((uh Hb).alloc hsz _).trans ((uh Hb1).mono (by simp; omega))⟩
    case measure => exact ms
  ·obtain rfl : k = rs.length := by omega
   go_wp2_with fail
   go_ret
   exact ⟨ret_bool (allRooms_t (uh Hst)).symm, hb⟩
theorem benchesOf_any {w : World} {v : Value} {rs : List RoomV} (h : IsRooms w v rs) (ha : Adds rs) :
  Calls Tryz.prog 212 #[v] w fun e w' => e = .returned (.int .i64 (benchSum rs)) ∧ Below w.heap.size w w' := by
 obtain ⟨a, cap, rfl, hc, hm, hr⟩ := h
 have Hr := hide hr
 have Ha := hide ha
 clear hr ha
 go_enter Tryz.func212, Tryz.ntmps212
 go_wp2_with fail
 go_loopw [3, 8] (fun s i wr => ∃ k : Nat, k ≤ rs.length ∧ i = .int .i64 k ∧ s = .int .i64 (benchSum (rs.take k)) ∧ Below w.heap.size w wr) (fun _ i _ => rs.length - (intOf i).toNat)
 case atStart => exact ⟨0, Nat.zero_le _, rfl, rfl, Below.refl _ _⟩
 case round =>
  obtain ⟨k, hk, rfl, rfl, hb⟩ := hrel
  have Hb := hide hb
  have hsz := hb.size
  by_cases hlt : k < rs.length
  ·rcases uh Hr with h0 | ⟨b, off, rfl, hbw, hcl⟩
   ·rw [h0] at hlt; simp at hlt
   obtain ⟨c0, pv, c1, hip⟩ := hcl k hlt
   rw [← hb.cell (p := ⟨b, off + k * 2, none⟩) hbw] at c0
   rw [← hb.cell (p := ⟨b, off + k * 2 + 1, none⟩) hbw] at c1
   obtain ⟨pa, pcap, rfl, _⟩ := hip
   have hs0 := uh Ha k hk
   have hs1 := uh Ha (k + 1) hlt
   have Hs := hide (benchSum_take rs hlt)
   rw [benchSum_take rs hlt] at hs1
   generalize benchSum (rs.take k) = s at *
   generalize (roomAt rs k).1 = rb at *
   obtain ⟨s0, s1⟩ := hs0
   obtain ⟨s2, s3⟩ := hs1
   clear hcl hb
   go_wp2_with fail
   go_roundw
   case rel => exact ⟨k + 1, by omega, by go_num, by rw [uh Hs], (uh Hb).alloc hsz _⟩
   case measure => exact ms
  ·obtain rfl : k = rs.length := by omega
   go_wp2_with fail
   go_ret
   exact ⟨ret_int (by rw [benchSum_all]), hb⟩
theorem hallB_1 {rs : List RoomV} (h : inB rs.length 1 3 = false) : hallB rs = false := by unfold hallB; simp [h]
theorem hallB_2 {rs : List RoomV} (h : rs.all roomB = false) : hallB rs = false := by unfold hallB; rw [h]; simp
theorem hallB_3 {rs : List RoomV} (h : inB rs.length 1 3 = true) (h2 : rs.all roomB = true) : hallB rs = decide (benchSum rs ≤ 8) := by unfold hallB; rw [h, h2]; simp
theorem IsRooms.alloc {w : World} {v : Value} {rs : List RoomV} (h : IsRooms w v rs) (o : Obj) : IsRooms (w.alloc o) v rs := h.below ((ba _ _))
theorem implHallOk_any {w : World} {v : Value} {rs : List RoomV} (h : IsRooms w v rs) :
  Calls Tryz.prog 164 #[.agg #[v]] w fun e w' => e = .returned (.bool (hallB rs)) ∧ Below w.heap.size w w' := by
 have Hv := hide h
 obtain ⟨a, cap, rfl, hc, hm, hr⟩ := h
 clear hr
 have hl : (rs.length : Int) ≤ 9223372036854775807 := by omega
 cases h1 : inB rs.length 1 3
 ·go_enter Tryz.func164, Tryz.ntmps164
  go_wp2_with fail
  refine (liesFrom_any _ _ _ _).mono ?_
  rintro e w' ⟨rfl, rfl⟩
  go_wp2_with fail
  go_ret
  exact ⟨ret_bool (hallB_1 h1).symm, (ba _ _)⟩
 cases h2 : rs.all roomB
 ·have H2 := hide (hallB_2 h2)
  generalize hx : rs.all roomB = x at *
  have Hx := hide hx
  clear hx
  subst h2
  go_enter Tryz.func164, Tryz.ntmps164
  go_wp2_with fail
  refine (liesFrom_any _ _ _ _).mono ?_
  rintro e w' ⟨rfl, rfl⟩
  go_wp2_with fail
  refine (roomsOk_any ((uh Hv).alloc _)).mono ?_
  rw [uh Hx]
  rintro e w1 ⟨rfl, hb⟩
  go_wp2_with fail
  go_ret
  exact ⟨ret_bool (uh H2).symm, ((ba _ _)).trans (hb.mono (by simp))⟩
 ·have H3 := hide (hallB_3 h1 h2)
  have Ha := hide (adds_of h2 (by have := inB_of h1; omega))
  generalize hx : rs.all roomB = x at *
  have Hx := hide hx
  clear hx
  subst h2
  go_enter Tryz.func164, Tryz.ntmps164
  go_wp2_with fail
  refine (liesFrom_any _ _ _ _).mono ?_
  rintro e w' ⟨rfl, rfl⟩
  go_wp2_with fail
  refine (roomsOk_any ((uh Hv).alloc _)).mono ?_
  rw [uh Hx]
  rintro e w1 ⟨rfl, hb⟩
  have hz : w.heap.size + 1 ≤ w1.heap.size := by have := hb.size; simpa using this
  have hbox : w1.cell? ⟨w.heap.size, 0, none⟩ = some (.slice a rs.length cap) := by rw [hb.cell (p := ⟨w.heap.size, 0, none⟩) (by simp)]; simp
  have hw1 := hide (((uh Hv).alloc _).below hb)
  have Hb := hide hb
  clear hb
  go_wp2_with fail
  refine ck (benchesOf_any (uh hw1) (uh Ha)) fun w2 hb2 => ?_
  have Hb2 := hide hb2
  clear hb2
  go_wp2_with fail
  go_ret
  exact ⟨ret_bool (by rw [uh H3]), ((ba _ _)).trans (((uh Hb).trans ((uh Hb2).mono (uh Hb).size)).mono (by simp))⟩
def benchesV (rs : List RoomV) : Int := if hallB rs = true then benchSum rs else -1
theorem benchesV_t {rs : List RoomV} (h : hallB rs = true) : benchesV rs = benchSum rs := by unfold benchesV; rw [if_pos h]
theorem benchesV_f {rs : List RoomV} (h : hallB rs = false) : benchesV rs = -1 := by unfold benchesV; rw [h]; rfl
theorem adds_hall {rs : List RoomV} (h : hallB rs = true) : Adds rs := adds_of (hallB_of h).2.2.1 (hallB_of h).2.1
theorem implBenchesIn_any {w : World} {v : Value} {rs : List RoomV} (h : IsRooms w v rs) :
  Calls Tryz.prog 168 #[.agg #[v]] w fun e w' => e = .returned (.int .i64 (benchesV rs)) ∧ Below w.heap.size w w' := by
 have Hv := hide h
 obtain ⟨a, cap, rfl, hc, hm, hr⟩ := h
 clear hr
 cases h1 : hallB rs
 ·have H1 := hide h1
  clear h1
  go_enter Tryz.func168, Tryz.ntmps168
  go_wp2_with fail
  refine (implHallOk_any ((uh Hv).alloc _)).mono ?_
  rw [uh H1]
  rintro e w1 ⟨rfl, hb⟩
  go_wp2_with fail
  go_ret
  exact ⟨ret_int (benchesV_f (uh H1)).symm, ((ba _ _)).trans (hb.mono (by simp))⟩
 ·have H1 := hide h1
  clear h1
  go_enter Tryz.func168, Tryz.ntmps168
  go_wp2_with fail
  refine (implHallOk_any ((uh Hv).alloc _)).mono ?_
  rw [uh H1]
  rintro e w1 ⟨rfl, hb⟩
  have hz : w.heap.size + 1 ≤ w1.heap.size := by have := hb.size; simpa using this
  have hbox : w1.cell? ⟨w.heap.size, 0, none⟩ = some (.slice a rs.length cap) := by rw [hb.cell (p := ⟨w.heap.size, 0, none⟩) (by simp)]; simp
  have hw1 := hide (((uh Hv).alloc _).below hb)
  have Hb := hide hb
  clear hb
  go_wp2_with fail
  refine ck (benchesOf_any (uh hw1) (adds_hall (uh H1))) fun w2 hb2 => ?_
  have Hb2 := hide hb2
  clear hb2
  go_wp2_with fail
  go_ret
  exact ⟨ret_int (benchesV_t (uh H1)).symm, ((ba _ _)).trans (((uh Hb).trans ((uh Hb2).mono (uh Hb).size)).mono (by simp))⟩
theorem l4Count_any {w : World} {v : Value} {rs : List RoomV} (h : IsRooms w v rs) (ha : Adds rs) :
  Calls Tryz.prog 105 #[.agg #[v]] w fun e w' => e = .returned (.int .i64 (benchSum rs)) ∧ Below w.heap.size w w' := by
 obtain ⟨a, cap, rfl, hc, hm, hr⟩ := h
 have Hr := hide hr
 have Ha := hide ha
 clear hr ha
 go_enter Tryz.func105, Tryz.ntmps105
 go_wp2_with fail
 go_loop [3, 4] (fun s i => ∃ k : Nat, k ≤ rs.length ∧ i = .int .i64 k ∧ s = .int .i64 (benchSum (rs.take k))) (fun _ i => rs.length - (intOf i).toNat)
 case atStart => exact ⟨0, Nat.zero_le _, rfl, rfl⟩
 case round =>
  obtain ⟨k, hk, rfl, rfl⟩ := hrel
  by_cases hlt : k < rs.length
  ·rcases uh Hr with h0 | ⟨b, off, rfl, hbw, hcl⟩
   ·rw [h0] at hlt; simp at hlt
   obtain ⟨c0, pv, c1, hip⟩ := hcl k hlt
   have hne : b ≠ w.heap.size := Nat.ne_of_lt hbw
   have hs0 := uh Ha k hk
   have hs1 := uh Ha (k + 1) hlt
   have Hs := hide (benchSum_take rs hlt)
   rw [benchSum_take rs hlt] at hs1
   generalize benchSum (rs.take k) = s at *
   generalize (roomAt rs k).1 = rb at *
   obtain ⟨s0, s1⟩ := hs0
   obtain ⟨s2, s3⟩ := hs1
   clear hcl hip
   go_wp2_with fail
   go_round
   case rel => exact ⟨k + 1, by omega, by go_num, by rw [uh Hs]⟩
   case measure => exact ms
  ·obtain rfl : k = rs.length := by omega
   go_wp2_with fail
   go_ret
   exact ⟨ret_int (by first | rfl | rw [benchSum_all]), (ba _ _)⟩
theorem specHallOk_any {w : World} {v : Value} {rs : List RoomV} (h : IsRooms w v rs) :
  Calls Tryz.prog 103 #[.agg #[v]] w fun e w' => e = .returned (.bool (hallB rs)) ∧ Below w.heap.size w w' := by
 have Hv := hide h
 obtain ⟨a, cap, rfl, hc, hm, hr⟩ := h
 have Hr := hide hr
 clear hr
 have hl : (rs.length : Int) ≤ 9223372036854775807 := by omega
 go_enter Tryz.func103, Tryz.ntmps103
 go_wp2_with fail
 go_loopw [3] (fun i wr => ∃ k : Nat, k ≤ rs.length ∧ i = .int .i64 k ∧ (∀ j, j < k → roomB (roomAt rs j) = true) ∧ Below (w.heap.size + 1) (w.alloc (.cells #[.slice a rs.length cap] 26)) wr) (fun i _ => rs.length - (intOf i).toNat)
 case atStart => exact ⟨0, Nat.zero_le _, rfl, fun j hj => by omega, Below.refl _ _⟩
 case round =>
  obtain ⟨k, hk, rfl, hst, hb⟩ := hrel
  have Hst := hide hst
  have Hb := hide hb
  have hsz : w.heap.size + 1 ≤ wr.heap.size := by have := hb.size; simpa using this
  have hbox : wr.cell? ⟨w.heap.size, 0, none⟩ = some (.slice a rs.length cap) := by rw [hb.cell (p := ⟨w.heap.size, 0, none⟩) (by simp)]; simp
  have hbB : Below w.heap.size w wr := ((ba _ _)).trans (hb.mono (by omega))
  clear hst
  by_cases hlt : k < rs.length
  ·rcases uh Hr with h0 | ⟨b, off, rfl, hbw, hcl⟩
   ·rw [h0] at hlt; simp at hlt
   obtain ⟨c0, pv, c1, hip⟩ := hcl k hlt
   rw [← hbB.cell (p := ⟨b, off + k * 2, none⟩) hbw] at c0
   rw [← hbB.cell (p := ⟨b, off + k * 2 + 1, none⟩) hbw] at c1
   have Hip := hide (hip.below hbB)
   obtain ⟨pa, pcap, rfl, _⟩ := hip
   generalize hp : roomAt rs k = p at *
   obtain ⟨rb, ps⟩ := p
   simp only at c0 c1
   have Hp := hide hp
   have HbB := hide hbB
   clear hp hcl hb hbB
   cases hrb : roomB (rb, ps)
   ·go_wp2_with fail
    refine ck (specRoomOk_any rb (uh Hip)) fun w1 hb1 => ?_
    have Hb1 := hide hb1
    clear hb1
    go_wp2_with fail
    go_ret
    exact ⟨ret_bool (hallB_2 (allRooms_f hlt (by rw [uh Hp]; exact hrb))).symm, (uh HbB).trans ((uh Hb1).mono (uh HbB).size)⟩
   ·go_wp2_with fail
    refine ck (specRoomOk_any rb (uh Hip)) fun w1 hb1 => ?_
    have Hb1 := hide hb1
    clear hb1
    go_wp2_with fail
    go_roundw
    case rel => exact ⟨k + 1, by omega, by go_num, next_all (uh Hst) (by rw [uh Hp]; exact hrb), (uh Hb).trans ((uh Hb1).mono hsz)⟩
    case measure => exact ms
  ·obtain rfl : k = rs.length := by omega
   have h2 := allRooms_t (uh Hst)
   have HbB := hide hbB
   have hw1 := hide ((uh Hv).below hbB)
   clear hb hbB
   cases h1 : inB rs.length 1 3
   ·have H2 := hide (hallB_1 h1)
    clear h2
    go_wp2_with fail
    refine (l1In_any _ _ _ _).mono ?_
    rintro e w' ⟨rfl, rfl⟩
    go_wp2_with fail
    go_ret
    exact ⟨ret_bool (uh H2).symm, uh HbB⟩
   ·have H3 := hide (hallB_3 h1 h2)
    have Ha := hide (adds_of h2 (by have := inB_of h1; omega))
    clear h2
    go_wp2_with fail
    refine (l1In_any _ _ _ _).mono ?_
    rintro e w' ⟨rfl, rfl⟩
    go_wp2_with fail
    refine ck (l4Count_any (uh hw1) (uh Ha)) fun w2 hb2 => ?_
    have Hb2 := hide hb2
    clear hb2
    go_wp2_with fail
    go_ret
    exact ⟨ret_bool (by rw [uh H3]), (uh HbB).trans ((uh Hb2).mono (uh HbB).size)⟩
end Go.Proofs.YtffcgajndmhpkaaGreatDoor
