/- What the proof rests on, part 9: lists and numbers, how they lie in memory, and contracts of the calls. No condition but those that a theorem names. -/
import Derived.Test.YtaegckehjlkaaaaGreatXe01
import Derived.Test.YtaegckehjlkaaaaGreatXe02
import Derived.Test.YtaegckehjlkaaaaGreatXe03
import Derived.Test.YtaegckehjlkaaaaGreatXe04
import Derived.Test.YtaegckehjlkaaaaGreatXe05
import Derived.Test.YtaegckehjlkaaaaGreatXe06
import Derived.Test.YtaegckehjlkaaaaGreatXe07
import Derived.Test.YtaegckehjlkaaaaGreatXe08
import Derived.Deep.QuietTactic
import Derived.BigQuiet
import Derived.Laws.OwnMore
import Derived.Maps.AppendAt
import Derived.WalkMore
import Derived.Below
import Derived.WalkKit
import Derived.ProofKit
import Derived.OpenShut
import Derived.Outline
import Derived.Deep.RegionHeld3
import Derived.Deep.DrawnRows
import Derived.BigRegion
import Derived.Deep.RegionLawGrows
import Derived.Lib.QuietBelow
import Derived.Deep.RegionWith
import Derived.OwnWalk
import Derived.Lib.SmallJoins
import Derived.Deep.Fields
import Derived.Deep.Slices
import Derived.OrdersHeld
import Derived.Deep.RegionHeldLaw
import Derived.Laws.StructEq
import Derived.Deep.DeepCutAuto
/- Contracts of BenchSet, the program's and the model's, at whatever hall can be read and whatever room. No other condition. -/
namespace Go.Proofs.YtaegckehjlkaaaaGreat
open Go.ChangeShapes Go.WideShapes Go.ChangeAt Go.RowKit Go.Sort
set_option linter.unusedVariables false

def isRoom (rs : List RoomV) (n : Int) : Bool := hallB rs && inB n 0 ((rs.length : Int) - 1)
/-- The benches from lo to hi less 1, as a set. -/
def bitsV (lo hi : Int) : Int := (2 : Int) ^ hi.toNat - 2 ^ lo.toNat
def setV (rs : List RoomV) (n : Int) : Int := if isRoom rs n = true then bitsV (benchSum (rs.take n.toNat)) (benchSum (rs.take (n.toNat + 1))) else -1
theorem setV_t {rs : List RoomV} {n : Int} (h : isRoom rs n = true) : setV rs n = bitsV (benchSum (rs.take n.toNat)) (benchSum (rs.take (n.toNat + 1))) := by unfold setV; rw [if_pos h]
theorem setV_f {rs : List RoomV} {n : Int} (h : isRoom rs n = false) : setV rs n = -1 := by unfold setV; rw [h]; rfl
theorem isRoom_f1 {rs : List RoomV} {n : Int} (h : hallB rs = false) : isRoom rs n = false := by unfold isRoom; rw [h]; rfl
theorem isRoom_f2 {rs : List RoomV} {n : Int} (h : n < 0 ∨ rs.length ≤ n) : isRoom rs n = false := by unfold isRoom; rw [inB_f (by omega)]; simp

theorem pow_small {s : Int} (h0 : 0 ≤ s) (h1 : s ≤ 12) : 1 ≤ (2 : Int) ^ s.toNat ∧ (2 : Int) ^ s.toNat ≤ 4096 := by
  have key : ∀ k : Fin 13, 1 ≤ (2 : Int) ^ k.val ∧ (2 : Int) ^ k.val ≤ 4096 := by decide
  exact key ⟨s.toNat, by omega⟩
theorem wrap_small {x : Int} (h0 : -100000 ≤ x) (h1 : x ≤ 100000) : wrap64 x = x := by unfold wrap64; omega

set_option maxHeartbeats 2000000 in
theorem implBenchSet_any {w : World} {v : Value} {rs : List RoomV} (n : Int) (h : IsRooms w v rs) :
    Calls Tryz.prog 273 #[.agg #[v], .int .i64 n] w fun e w' => e = .returned (.int .i64 (setV rs n)) ∧ Below w.heap.size w w' := by
  have Hv := hide h
  obtain ⟨a, cap, rfl, hc, hm⟩ : ∃ a cap, v = .slice a rs.length cap ∧ rs.length ≤ cap ∧ cap ≤ 9223372036854775807 := by obtain ⟨a, cap, rfl, hc, hm, _⟩ := h; exact ⟨a, cap, rfl, hc, hm⟩
  clear h
  have Hb0 : Hid (Below w.heap.size w (w.alloc (.cells #[.slice a rs.length cap] 26))) := hide ((Below.refl _ _).alloc (Nat.le_refl _) _)
  cases h1 : hallB rs
  · have H2 := hide (setV_f (isRoom_f1 (n := n) h1))
    go_enter Tryz.func273, Tryz.ntmps273
    go_wp2_with fail
    refine (implHallOk_any ((unhide Hv).alloc _)).mono ?_
    rintro e w1 ⟨rfl, hb⟩
    have Hb := hide hb
    clear hb
    go_wp2_with fail
    go_ret
    exact ⟨ret_int (unhide H2).symm, (unhide Hb0).trans ((unhide Hb).mono (by simp))⟩
  by_cases h2 : n < 0
  · have H2 := hide (setV_f (isRoom_f2 (rs := rs) (.inl h2)))
    go_enter Tryz.func273, Tryz.ntmps273
    go_wp2_with fail
    refine (implHallOk_any ((unhide Hv).alloc _)).mono ?_
    rintro e w1 ⟨rfl, hb⟩
    have Hb := hide hb
    clear hb
    go_wp2_with fail
    go_ret
    exact ⟨ret_int (unhide H2).symm, (unhide Hb0).trans ((unhide Hb).mono (by simp))⟩
  by_cases h3 : (rs.length : Int) ≤ n
  · have H2 := hide (setV_f (isRoom_f2 (rs := rs) (.inr h3)))
    go_enter Tryz.func273, Tryz.ntmps273
    go_wp2_with fail
    refine (implHallOk_any ((unhide Hv).alloc _)).mono ?_
    rintro e w1 ⟨rfl, hb⟩
    have hbox : w1.cell? ⟨w.heap.size, 0, none⟩ = some (.slice a rs.length cap) := by rw [hb.cell (p := ⟨w.heap.size, 0, none⟩) (by simp)]; simp
    have Hb := hide hb
    clear hb
    go_wp2_with fail
    go_ret
    exact ⟨ret_int (unhide H2).symm, (unhide Hb0).trans ((unhide Hb).mono (by simp))⟩
  have h4 : isRoom rs n = true := by unfold isRoom; rw [h1, inB_t (by omega) (by omega)]; rfl
  have H2 := hide (setV_t h4)
  obtain ⟨r, rfl⟩ := Int.eq_ofNat_of_zero_le (show 0 ≤ n by omega)
  have H1 := hide h1
  have Ha := hide (adds_hall h1)
  have hl3 : rs.length ≤ 3 := (hallB_of h1).2.1
  have hb0 := benches_hall h1 r (by omega)
  have hb1 := benches_hall h1 (r + 1) (by omega)
  go_enter Tryz.func273, Tryz.ntmps273
  go_wp2_with fail
  refine (implHallOk_any ((unhide Hv).alloc _)).mono ?_
  rintro e w1 ⟨rfl, hb⟩
  have hbox : w1.cell? ⟨w.heap.size, 0, none⟩ = some (.slice a rs.length cap) := by rw [hb.cell (p := ⟨w.heap.size, 0, none⟩) (by simp)]; simp
  have k0 := cell_regrown hbox
  have Hb := hide hb
  have Hw := hide (((unhide Hv).alloc _).below hb)
  clear hb h4
  go_wp2_with fail
  refine wp_region_quiet_below (by kernel_rfl) (by kernel_rfl) ?_
  repeat (go_big_quiet_step (first | exact Calls.regrown_of (benchesOf_any (((unhide Hw).below (below_regrown _ _ _)).taken (n := r) (by omega)) ((unhide Ha).taken _)) | exact Calls.regrown_of (benchesOf_any (((unhide Hw).below (below_regrown _ _ _)).taken (n := r + 1) (by omega)) ((unhide Ha).taken _))))
  refine wpQuiet_nil ?_
  intro _ hw'
  obtain ⟨⟨dq, osq⟩, hw''⟩ := hw'
  subst hw''
  rw [Int.toNat_natCast] at H2
  generalize benchSum (rs.take r) = s0 at *
  generalize benchSum (rs.take (r + 1)) = s1 at *
  obtain ⟨x0, x1⟩ := hb0
  obtain ⟨y0, y1⟩ := hb1
  go_wp2_with fail
  go_quiet (fail)
  go_wp2_with fail
  go_ret
  refine ⟨ret_int ?_, (unhide Hb0).trans (((unhide Hb).trans (below_drewN ((below_regrown _ _ _).mono (unhide Hb).size) _)).mono (by simp))⟩
  have p0 := pow_small x0 x1
  have p1 := pow_small y0 y1
  rw [unhide H2, wrap_small (x := 2 ^ s1.toNat) (by omega) (by omega), wrap_small (x := 2 ^ s0.toNat) (by omega) (by omega), wrap_small (x := 2 ^ s1.toNat - 2 ^ s0.toNat) (by omega) (by omega)]
  rfl

theorem benchSum_mono {rs : List RoomV} (h : rs.all roomB = true) {i : Nat} : ∀ d, i + d ≤ rs.length → benchSum (rs.take i) ≤ benchSum (rs.take (i + d))
  | 0, _ => Int.le_refl _
  | d + 1, hd => by
    have ih := benchSum_mono h (i := i) d (by omega)
    have hb := room_bd (allRooms_of h (j := i + d) (by omega))
    rw [← Nat.add_assoc, benchSum_take rs (by omega)]; omega
/-- Where a bench stands. -/
theorem room_is {rs : List RoomV} {n : Int} (h : isBench rs n = true) {r : Nat} (hr : r < rs.length) : roomN rs n = r ↔ benchSum (rs.take r) ≤ n ∧ n < benchSum (rs.take (r + 1)) := by
  have hb := isBench_of h
  have ha := (hallB_of hb.1).2.2.1
  have key : ∀ d q : Nat, q + d = rs.length → (∀ j, j < q → benchSum (rs.take (j + 1)) ≤ n) → benchSum (rs.take (roomN rs n)) ≤ n ∧ n < benchSum (rs.take (roomN rs n + 1)) := by
    intro d
    induction d with
    | zero => intro q hq hl; have := room_more h (by omega) hl; omega
    | succ d ih =>
      intro q hq hl
      have hlt := room_more h (r := q) (by omega) hl
      by_cases hc : n < benchSum (rs.take (q + 1))
      · rw [roomN_eq hlt hc hl]
        refine ⟨?_, hc⟩
        cases q with
        | zero => simp [benchSum]; omega
        | succ q => exact hl q (by omega)
      · exact ih (q + 1) (by omega) (next_all hl (by omega))
  constructor
  · intro e; have := key rs.length 0 (by omega) (fun j hj => by omega); rwa [e] at this
  · intro hx
    refine roomN_eq hr hx.2 (fun j hj => ?_)
    have := benchSum_mono ha (i := j + 1) (r - (j + 1)) (by omega)
    rw [show j + 1 + (r - (j + 1)) = r by omega] at this
    omega

end Go.Proofs.YtaegckehjlkaaaaGreat

/- Slices of int64 that the call itself made: what they hold, that what is held stays, and contracts of the laws' own helpers over them (alike, rising, among, marked, held). Conditions: those that each theorem names. -/
namespace Go.Proofs.YtaegckehjlkaaaaGreat
open Go.ChangeShapes Go.WideShapes Go.ChangeAt Go.RowKit
set_option linter.unusedVariables false

/-- The slice v, in a block from n₀ on, holds the numbers zs. -/
def IntsAt (n₀ : Nat) (w : World) (v : Value) (zs : List Int) : Prop := w.ownsRow n₀ 2 1 v zs.length (zs.map (Value.int .i64))

/-- What the walk asks of it: its address and length; the cells, where there are any. -/
theorem IntsAt.view {n₀ : Nat} {w : World} {v : Value} {zs : List Int} (h : IntsAt n₀ w v zs) :
    ∃ (a : Option Addr) (cap : Nat), v = .slice a zs.length cap ∧ zs.length ≤ 9223372036854775807 ∧ (zs = [] ∨ ∃ g, a = some ⟨g, 0, none⟩ ∧ n₀ ≤ g ∧ g < w.heap.size ∧
      (∀ k, k < zs.length → w.cell? ⟨g, k, none⟩ = some (.int .i64 (zs.getD k 0))) ∧ (∀ k, w.frozen? ⟨g, k, none⟩ = false)) := by
  have h' := h
  rcases h.2 with ⟨rfl, hz⟩ | ⟨g, cap, cur, rfl, hb, hg, hnc, hcm, r⟩
  · exact ⟨none, 0, by rw [hz], by omega, .inl (List.eq_nil_of_length_eq_zero hz)⟩
  · refine ⟨_, cap, rfl, by unfold maxLen at hcm; omega, .inr ⟨g, rfl, hb, (Array.getElem?_eq_some_iff.1 hg).1, fun k hk => ?_, fun k => World.ownsRow.frozenAt h' k⟩⟩
    rw [World.ownsRow.cellAt h' k (by omega)]
    simp [List.getElem?_eq_getElem hk]

theorem grownBy_trans {a b c : World} {row : Option Nat} (h : a.grownBy b row) (k : b.grownBy c row) : a.grownBy c row :=
  ⟨k.os.trans h.os, k.tape.trans h.tape, k.output.trans h.output, Nat.le_trans h.size k.size, fun i hi hn => (k.block i (Nat.lt_of_lt_of_le hi h.size) hn).trans (h.block i hi hn)⟩
theorem grownBy_refl (a : World) (row : Option Nat) : a.grownBy a row := ⟨rfl, rfl, rfl, Nat.le_refl _, fun _ _ _ => rfl⟩
theorem IntsAt.stored {n₀ : Nat} {w : World} {g n cap : Nat} {zs : List Int} (h : IntsAt n₀ w (.slice (some ⟨g, 0, none⟩) n cap) zs) (hn : zs.length = n) (j : Nat) (u : Int) :
    IntsAt n₀ (w.setCell ⟨g, j, none⟩ (.int .i64 u)) (.slice (some ⟨g, 0, none⟩) n cap) (zs.set j u) ∧ w.grownBy (w.setCell ⟨g, j, none⟩ (.int .i64 u)) (some g) := by
  subst hn
  have := World.ownsRow.stored h j (.int .i64 u)
  refine ⟨?_, this.2⟩
  unfold IntsAt
  rw [List.length_set, List.map_set]
  exact this.1
/-- The numbers from k on, n of them. -/
def marks (k : Int) (n : Nat) : List Int := (List.range n).map fun i : Nat => k + (i : Int)
theorem marks_len (k : Int) (n : Nat) : (marks k n).length = n := by simp [marks]
theorem marks_get (k : Int) (n i : Nat) (h : i < n) : (marks k n).getD i 0 = k + i := by simp [marks, h]
/-- The first j of them are marked. -/
def marked (zs : List Int) (k : Int) (j : Nat) : List Int := marks k j ++ zs.drop j
theorem marked_len {zs : List Int} {k : Int} {j : Nat} (h : j ≤ zs.length) : (marked zs k j).length = zs.length := by simp [marked, marks_len]; omega
theorem marked_succ {zs : List Int} {k : Int} {j : Nat} (h : j < zs.length) : (marked zs k j).set j (k + j) = marked zs k (j + 1) := by
  unfold marked
  rw [List.set_append_right _ _ (by simp [marks_len]), marks_len, Nat.sub_self, List.drop_eq_getElem_cons h, List.set_cons_zero]
  simp [marks, List.range_succ]
theorem marked_all (zs : List Int) (k : Int) : marked zs k zs.length = marks k zs.length := by simp [marked]

set_option maxHeartbeats 1000000 in
theorem markInts_any {n₀ : Nat} {w : World} {v : Value} {zs : List Int} (k : Int) (hv : IntsAt n₀ w v zs) (hk0 : 0 ≤ k) (hk1 : k ≤ 1000000000000000) (hl : zs.length ≤ 1000000000) :
    Calls Tryz.prog 50 #[v, .int .i64 k] w fun e w' => e = .returned (.int .i64 (k + zs.length)) ∧ IntsAt n₀ w' v (marks k zs.length) ∧ w.grownBy w' v.ownBlock := by
  have hv0 := hide hv
  obtain ⟨a, cap, rfl, hlen, hca⟩ := hv.view
  clear hv
  go_enter Tryz.func50, Tryz.ntmps50
  go_wp2_with fail
  go_loopw [5, 1] (fun i q wr => ∃ j : Nat, j ≤ zs.length ∧ i = .int .i64 j ∧ q = .int .i64 (k + j) ∧ IntsAt n₀ wr (.slice a zs.length cap) (marked zs k j) ∧ w.grownBy wr (Value.ownBlock (.slice a zs.length cap))) (fun i _ _ => zs.length - (intOf i).toNat)
  case atStart => exact ⟨0, Nat.zero_le _, rfl, by simp, unhide hv0, grownBy_refl _ _⟩
  case round =>
    obtain ⟨j, hj, rfl, rfl, hin, hgr⟩ := hrel
    by_cases hlt : j < zs.length
    · rcases hca with rfl | ⟨g, rfl, _, _, _, _⟩
      · simp at hlt
      obtain ⟨hs1, hs2⟩ := hin.stored (marked_len hj) j (k + j)
      rw [marked_succ hlt] at hs1
      have H1 := hide hs1
      have H2 := hide (grownBy_trans hgr hs2)
      have hfz := World.ownsRow.frozenAt (show wr.ownsRow n₀ 2 1 (.slice (some ⟨g, 0, none⟩) (marked zs k j).length cap) (marked zs k j).length _ by rw [marked_len hj]; have h9 := hin; unfold IntsAt at h9; rwa [marked_len hj] at h9) j
      have hcl : ∃ c, wr.cell? ⟨g, j, none⟩ = some c := by
        have h9 := hin
        unfold IntsAt at h9
        rw [marked_len hj] at h9
        have := World.ownsRow.cellAt h9 j (by omega)
        rw [List.getElem?_eq_getElem (by simp [marked_len hj]; omega)] at this
        exact ⟨_, this⟩
      obtain ⟨c, hcl⟩ := hcl
      clear hin hgr hs1 hs2
      go_wp2_with fail
      go_roundw
      case rel => exact ⟨j + 1, by omega, by go_num, by go_num, unhide H1, unhide H2⟩
      case measure => simp [intOf]; omega
    · obtain rfl : j = zs.length := by omega
      rw [marked_all] at hin
      go_wp2_with fail
      go_ret
      exact ⟨rfl, hin, hgr⟩

set_option maxHeartbeats 1000000 in
theorem heldInts_yes {n₀ : Nat} {w : World} {v : Value} (k : Int) (n : Nat) (hv : IntsAt n₀ w v (marks k n)) (hk0 : 0 ≤ k) (hk1 : k ≤ 1000000000000000) (hl : n ≤ 1000000000) :
    Calls Tryz.prog 51 #[v, .int .i64 k] w fun e w' => e = .returned (.int .i64 (k + n)) ∧ w' = w := by
  obtain ⟨a, cap, rfl, hlen, hca⟩ := hv.view
  clear hv
  rw [marks_len] at *
  go_enter Tryz.func51, Tryz.ntmps51
  go_wp2_with fail
  go_loop [5, 1] (fun i q => ∃ j : Nat, j ≤ n ∧ i = .int .i64 j ∧ q = .int .i64 (k + j)) (fun i _ => n - (intOf i).toNat)
  case atStart => exact ⟨0, Nat.zero_le _, rfl, by simp⟩
  case round =>
    obtain ⟨j, hj, rfl, rfl⟩ := hrel
    by_cases hlt : j < n
    · rcases hca with hz | ⟨g, rfl, _, _, hc, _⟩
      · have := congrArg List.length hz; rw [marks_len] at this; simp at this; omega
      have h1 := hc j hlt
      rw [marks_get k n j hlt] at h1
      clear hc
      go_wp2_with fail
      go_round
      case rel => exact ⟨j + 1, by omega, by go_num, by go_num⟩
      case measure => simp [intOf]; omega
    · obtain rfl : j = n := by omega
      go_wp2_with fail
      go_ret
      exact ⟨rfl, rfl⟩

end Go.Proofs.YtaegckehjlkaaaaGreat

/- The members of a set, as a list; the model's Members and FirstOf. No condition. -/
namespace Go.Proofs.YtaegckehjlkaaaaGreat
open Go.ChangeShapes Go.WideShapes Go.ChangeAt Go.RowKit
set_option linter.unusedVariables false

/-- The benches below k that are in the set s, in their order. -/
def upto (s : Int) : Nat → List Int
  | 0 => []
  | k + 1 => if memB s k = true then upto s k ++ [(k : Int)] else upto s k
def mems (s : Int) : List Int := upto s 8
def firstMV (s : Int) : Int := (mems s).headD (-1)
theorem upto_hit {s : Int} {k : Nat} (h : memB s k = true) : upto s (k + 1) = upto s k ++ [(k : Int)] := by simp [upto, h]
theorem upto_miss {s : Int} {k : Nat} (h : memB s k = false) : upto s (k + 1) = upto s k := by simp [upto, h]
theorem upto_len (s : Int) : ∀ k, (upto s k).length ≤ k
  | 0 => by simp [upto]
  | k + 1 => by
    have := upto_len s k
    cases h : memB s k
    · rw [upto_miss h]; omega
    · rw [upto_hit h]; simp; omega
theorem upto_none {s : Int} (h : inB s 0 255 = false) : ∀ k, upto s k = []
  | 0 => rfl
  | k + 1 => by rw [upto_miss (memB_f (.inl h))]; exact upto_none h k
theorem upto_pre (s : Int) : ∀ k, k ≤ 8 → upto s k <+: mems s := by
  have step : ∀ k, upto s k <+: upto s (k + 1) := fun k => by
    cases h : memB s k
    · rw [upto_miss h]; exact List.prefix_refl _
    · rw [upto_hit h]; exact List.prefix_append _ _
  have go : ∀ d k, upto s k <+: upto s (k + d) := by
    intro d
    induction d with
    | zero => intro k; exact List.prefix_refl _
    | succ d ih => intro k; exact (ih k).trans (step (k + d))
  intro k hk
  have := go (8 - k) k
  rwa [show k + (8 - k) = 8 by omega] at this
end Go.Proofs.YtaegckehjlkaaaaGreat

/- Sets of benches that stand one behind the other: how two of them are joined, how many members one has, and which. No condition but those that a theorem names. -/
namespace Go.Proofs.YtaegckehjlkaaaaGreat
open Go.ChangeShapes Go.WideShapes Go.ChangeAt Go.RowKit Go.Sort
set_option linter.unusedVariables false

theorem bits_mem {lo hi b : Int} (h0 : 0 ≤ lo) (h1 : lo ≤ hi) (h2 : hi ≤ 8) (hb0 : -1 ≤ b) (hb1 : b ≤ 8) : memB (bitsV lo hi) b = decide (lo ≤ b ∧ b < hi) := by
  have key : ∀ b : Fin 10, ∀ hi : Fin 9, ∀ lo : Fin 9, lo.val ≤ hi.val → memB (bitsV lo.val hi.val) ((b.val : Int) - 1) = decide ((lo.val : Int) ≤ (b.val : Int) - 1 ∧ (b.val : Int) - 1 < hi.val) := by decide +kernel
  have := key ⟨(b + 1).toNat, by omega⟩ ⟨hi.toNat, by omega⟩ ⟨lo.toNat, by omega⟩ (by show lo.toNat ≤ hi.toNat; omega)
  simp only [show ((lo.toNat : Nat) : Int) = lo by omega, show ((hi.toNat : Nat) : Int) = hi by omega, show (((b + 1).toNat : Nat) : Int) - 1 = b by omega] at this
  exact this

end Go.Proofs.YtaegckehjlkaaaaGreat

/- What the program asks of a smithy, as plain lists; and that it is what the model asks. Lists and numbers alone; no condition but those that a theorem names. -/
namespace Go.Proofs.YtaegckehjlkaaaaGreat
open Go.ChangeShapes Go.WideShapes Go.ChangeAt Go.RowKit Go.Sort
set_option linter.unusedVariables false

/-- Of the first k, the places where it is so. -/
def whereTo {α : Type} [Inhabited α] (p : α → Bool) (xs : List α) : Nat → List Int
  | 0 => []
  | k + 1 => if p (recAt xs k) then whereTo p xs k ++ [(k : Int)] else whereTo p xs k
theorem whereTo_yes {α : Type} [Inhabited α] {p : α → Bool} {xs : List α} {k : Nat} (h : p (recAt xs k) = true) : whereTo p xs (k + 1) = whereTo p xs k ++ [(k : Int)] := by rw [whereTo, if_pos h]
theorem whereTo_no {α : Type} [Inhabited α] {p : α → Bool} {xs : List α} {k : Nat} (h : p (recAt xs k) = false) : whereTo p xs (k + 1) = whereTo p xs k := by rw [whereTo, if_neg (by simp [h])]
theorem whereTo_len {α : Type} [Inhabited α] (p : α → Bool) (xs : List α) : ∀ k, (whereTo p xs k).length ≤ k
  | 0 => Nat.le_refl _
  | k + 1 => by
    have := whereTo_len p xs k
    unfold whereTo
    split
    · simp; omega
    · omega
theorem whereTo_mem {α : Type} [Inhabited α] (p : α → Bool) (xs : List α) (x : Int) : ∀ k, x ∈ whereTo p xs k ↔ ∃ i : Nat, i < k ∧ x = (i : Int) ∧ p (recAt xs i) = true
  | 0 => by simp [whereTo]
  | k + 1 => by
    have ih := whereTo_mem p xs x k
    cases h : p (recAt xs k)
    · rw [whereTo_no h, ih]
      constructor
      · rintro ⟨i, hi, h1, h2⟩
        exact ⟨i, by omega, h1, h2⟩
      · rintro ⟨i, hi, h1, h2⟩
        by_cases hik : i = k
        · subst hik; rw [h] at h2; cases h2
        · exact ⟨i, by omega, h1, h2⟩
    · rw [whereTo_yes h, List.mem_append, ih]
      constructor
      · rintro (⟨i, hi, h1, h2⟩ | h1)
        · exact ⟨i, by omega, h1, h2⟩
        · exact ⟨k, by omega, by simpa using h1, h⟩
      · rintro ⟨i, hi, h1, h2⟩
        by_cases hik : i = k
        · subst hik; right; simp [h1]
        · exact .inl ⟨i, by omega, h1, h2⟩
theorem whereTo_any {α : Type} [Inhabited α] (p : α → Bool) (xs : List α) : ∀ k, decide (0 < (whereTo p xs k).length) = (List.range k).any fun j => p (recAt xs j)
  | 0 => rfl
  | k + 1 => by
    have ih := whereTo_any p xs k
    rw [any_up, ← ih]
    cases h : p (recAt xs k)
    · rw [whereTo_no h]; simp
    · rw [whereTo_yes h]; simp
def allTo {α : Type} [Inhabited α] (p : α → Bool) (xs : List α) (k : Nat) : Bool := (List.range k).all fun j => p (recAt xs j)
theorem allTo_no {α : Type} [Inhabited α] {p : α → Bool} {xs : List α} {k n : Nat} (hk : k < n) (h : p (recAt xs k) = false) : allTo p xs n = false := all_no (p := fun j => p (recAt xs j)) hk h
theorem allTo_up {α : Type} [Inhabited α] {p : α → Bool} {xs : List α} {k : Nat} (h : allTo p xs k = true) (h2 : p (recAt xs k) = true) : allTo p xs (k + 1) = true := by unfold allTo at h ⊢; rw [all_up, h, h2]; rfl
theorem allTo_and {α : Type} [Inhabited α] (p q : α → Bool) (xs : List α) : ∀ k, (allTo p xs k && allTo q xs k) = allTo (fun x => p x && q x) xs k
  | 0 => rfl
  | k + 1 => by
    have ih := allTo_and p q xs k
    unfold allTo at ih ⊢
    rw [all_up, all_up, all_up, ← ih]
    generalize ((List.range k).all fun j => p (recAt xs j)) = a
    generalize ((List.range k).all fun j => q (recAt xs j)) = b
    cases a <;> cases b <;> cases hp : p (recAt xs k) <;> cases hq : q (recAt xs k) <;> simp [hp, hq]
theorem allTo_congr {α : Type} [Inhabited α] {p q : α → Bool} (xs : List α) (h : ∀ x, p x = q x) (k : Nat) : allTo p xs k = allTo q xs k := by unfold allTo; congr 1; funext j; exact h _

def hasB (n : Nat) (i : Int) : Bool := decide (0 ≤ i) && decide (i < n)
def atB (b : Int) (s : SmithV) : Bool := (s.1 == 2 || s.1 == 3) && s.2.1 == b
def worksB (b : Int) (s : SmithV) : Bool := s.1 == 3 && s.2.1 == b
def thereB (n : Nat) (s : SmithV) : Bool := s.1 == 0 || (s.2.2.2.2.1 == -1 || hasB n s.2.2.2.2.1)
def placeB (ds : List DeskV) (s : SmithV) : Bool := s.1 == 0 || (hasB ds.length s.2.1 && (s.1 == 1 || ((recAt ds s.2.1.toNat).1 && (memB s.2.2.2.1 s.2.1 && inBandB s.2.2.2.2.2.2.2.1 (recAt ds s.2.1.toNat).2.2))))
def smithsIB (ss : List SmithV) (n : Nat) : Bool := decide (ss.length ≤ 12) && (allTo smithB ss ss.length && allTo (thereB n) ss ss.length)
def desksIB (ds : List DeskV) (n : Int) : Bool := decide ((ds.length : Int) = n) && (allTo deskB ds ds.length && decide (0 < (whereTo (fun d : DeskV => d.1) ds ds.length).length))
def pacesIB (ps : List Int) (rs : List RoomV) : Bool := decide (ps.length = rs.length) && (List.range ps.length).all fun j => hasB (roomAt rs j).2.length (recAt ps j)
def partsIB (m : SmyV) : Bool := hallB m.rooms && (guildsB m.guilds && (smithsIB m.smiths m.guilds.length && (desksIB m.desks (benchSum m.rooms) && (pacesIB m.paces m.rooms && inB m.now 0 1000000))))
def inPlaceIB (m : SmyV) : Bool := partsIB m && allTo (placeB m.desks) m.smiths m.smiths.length
def turnIB (m : SmyV) (b : Nat) : Bool := if (recAt m.desks b).2.1 = -1 then decide ((whereTo (atB b) m.smiths m.smiths.length).length = 0) else decide ((whereTo (worksB b) m.smiths m.smiths.length).length = 1) && decide (recAt (whereTo (worksB b) m.smiths m.smiths.length) 0 = (recAt m.desks b).2.1)
def turnsIB (m : SmyV) : Bool := (List.range m.desks.length).all (turnIB m)
def smyIB (m : SmyV) : Bool := inPlaceIB m && turnsIB m

theorem band_same (h m : Int) : inBandB h m = bandB h m := by
  unfold inBandB bandB hadB
  rw [Bool.and_assoc]
theorem one_same (m : SmyV) (s : SmithV) : (smithB s && (thereB m.guilds.length s && placeB m.desks s)) = (hereB m s && seatB m s) := by
  cases hs : smithB s
  · unfold hereB; rw [hs]; rfl
  · have hh : hereB m s = (s.1 == 0 || (decide (s.2.2.2.2.1 < m.guilds.length) && decide (s.2.1 < m.desks.length))) := by unfold hereB; rw [hs]; rfl
    rw [hh, Bool.true_and]
    unfold smithB at hs
    simp only [Bool.or_eq_true] at hs
    rcases hs with hg | hp
    · have e := goneB_of hg
      subst e
      rfl
    · obtain ⟨st, be, rk, my, gu, lo, hi, hd, ca, ut, wk⟩ := s
      obtain ⟨⟨s1, s2⟩, ⟨b1, b2⟩, _, ⟨m1, m2⟩, ⟨g1, g2⟩, _⟩ := presB_of hp
      have hmem : memB my be = bitB my be := memB_t (inB_t (by omega) (by omega)) (inB_t (by omega) (by omega))
      have hst0 : (st == 0) = false := by simp; omega
      have hgu : (gu == -1 || hasB m.guilds.length gu) = decide (gu < m.guilds.length) := by
        unfold hasB
        by_cases e : gu = -1
        · subst e; simp; omega
        · have : (gu == -1) = false := by simpa using e
          rw [this, Bool.false_or, show decide (0 ≤ gu) = true from decide_eq_true (by omega), Bool.true_and]
      have hbe : hasB m.desks.length be = decide (be < m.desks.length) := by
        unfold hasB
        rw [show decide (0 ≤ be) = true from decide_eq_true (by omega), Bool.true_and]
      have hpr : presS (st, be, rk, my, gu, lo, hi, hd, ca, ut, wk) = !(st == 1) := by
        unfold presS
        rcases (by omega : st = 1 ∨ st = 2 ∨ st = 3) with e | e | e <;> subst e <;> rfl
      unfold thereB placeB seatB
      simp only
      rw [hst0, hgu, hbe, hpr, hmem, band_same, Bool.not_not]
      simp only [Bool.false_or, Bool.and_assoc]
theorem scan_same (ss : List SmithV) (b : Int) : ∀ k : Nat,
    (match scanV ss b k with
      | none => 2 ≤ (whereTo (worksB b) ss k).length
      | some (wk, wt) => ((wk = -1 ∧ whereTo (worksB b) ss k = []) ∨ (0 ≤ wk ∧ whereTo (worksB b) ss k = [wk])) ∧ ((whereTo (atB b) ss k = []) ↔ (whereTo (worksB b) ss k = [] ∧ wt = false)))
  | 0 => by simp [scanV, whereTo]
  | k + 1 => by
    have ih := scan_same ss b k
    unfold scanV
    cases hsc : scanV ss b k with
    | none =>
      rw [hsc] at ih
      simp only at ih ⊢
      unfold whereTo
      split
      · simp; omega
      · exact ih
    | some r =>
      obtain ⟨wk, wt⟩ := r
      rw [hsc] at ih
      simp only at ih ⊢
      by_cases hat : (recAt ss k).2.1 = b ∧ presS (recAt ss k) = true
      · rw [if_pos hat]
        have hA : atB b (recAt ss k) = true := by
          have h2 := hat.2
          unfold presS at h2
          unfold atB
          rw [h2, hat.1]; simp
        by_cases h2 : (recAt ss k).1 = 2
        · rw [if_pos h2]
          have hW : worksB b (recAt ss k) = false := by unfold worksB; rw [h2]; rfl
          rw [whereTo_no hW, whereTo_yes hA]
          exact ⟨ih.1, by simp⟩
        · rw [if_neg h2]
          have h3 : (recAt ss k).1 = 3 := by
            have := hat.2
            unfold presS at this
            simp only [Bool.or_eq_true, beq_iff_eq] at this
            omega
          have hW : worksB b (recAt ss k) = true := by unfold worksB; rw [h3, hat.1]; simp
          rw [whereTo_yes hW, whereTo_yes hA]
          by_cases hwk : 0 ≤ wk
          · rw [if_pos hwk]
            rcases ih.1 with ⟨e, _⟩ | ⟨_, e⟩
            · omega
            · simp only
              rw [e]; simp
          · rw [if_neg hwk]
            rcases ih.1 with ⟨_, e⟩ | ⟨e, _⟩
            · simp only
              rw [e]; simp
            · omega
      · rw [if_neg hat]
        have hA : atB b (recAt ss k) = false := by
          cases hc : atB b (recAt ss k)
          · rfl
          · exfalso
            apply hat
            unfold atB at hc
            simp only [Bool.and_eq_true, beq_iff_eq] at hc
            exact ⟨hc.2, by unfold presS; exact hc.1⟩
        have hW : worksB b (recAt ss k) = false := by
          cases hc : worksB b (recAt ss k)
          · rfl
          · exfalso
            apply hat
            unfold worksB at hc
            simp only [Bool.and_eq_true, beq_iff_eq] at hc
            exact ⟨hc.2, by unfold presS; rw [hc.1]; rfl⟩
        rw [whereTo_no hW, whereTo_no hA]
        exact ih
theorem turn_same (m : SmyV) (b : Nat) : turnIB m b = benchOkB m b := by
  have h := scan_same m.smiths b m.smiths.length
  unfold turnIB benchOkB
  cases hsc : scanV m.smiths b m.smiths.length with
  | none =>
    rw [hsc] at h
    simp only at h ⊢
    split
    · have : whereTo (atB b) m.smiths m.smiths.length ≠ [] := by
        intro e
        have hx : recAt (whereTo (worksB b) m.smiths m.smiths.length) 0 ∈ whereTo (worksB b) m.smiths m.smiths.length := recAt_mem (by omega)
        obtain ⟨i, hi, _, hw⟩ := (whereTo_mem _ _ _ _).1 hx
        have : (i : Int) ∈ whereTo (atB b) m.smiths m.smiths.length := (whereTo_mem _ _ _ _).2 ⟨i, hi, rfl, by
          unfold worksB at hw
          simp only [Bool.and_eq_true, beq_iff_eq] at hw
          unfold atB
          rw [hw.1, hw.2]; simp⟩
        rw [e] at this
        cases this
      simp only [List.length_eq_zero_iff, this, decide_false]
    · rw [show decide ((whereTo (worksB b) m.smiths m.smiths.length).length = 1) = false from decide_eq_false (by omega), Bool.false_and]
  | some r =>
    obtain ⟨wk, wt⟩ := r
    rw [hsc] at h
    simp only at h ⊢
    obtain ⟨h1, h2⟩ := h
    generalize whereTo (worksB b) m.smiths m.smiths.length = ws at *
    generalize whereTo (atB b) m.smiths m.smiths.length = az at *
    generalize (recAt m.desks b).2.1 = who at *
    by_cases hw : who = -1
    · subst hw
      simp only [if_true, List.length_eq_zero_iff]
      rcases h1 with ⟨rfl, rfl⟩ | ⟨hk, rfl⟩
      · cases wt
        · simp at h2; simp [h2]
        · simp at h2; simp [h2]
      · have hne : az ≠ [] := by
          intro e
          have := (h2.1 e).1
          cases this
        have : ((-1 : Int) == wk) = false := by simp; omega
        rw [this]
        simp [hne]
    · rw [if_neg hw]
      rcases h1 with ⟨rfl, rfl⟩ | ⟨hk, rfl⟩
      · have : (who == -1) = false := by simpa using hw
        rw [this]; simp
      · have h0 : decide (wk < 0) = false := decide_eq_false (by omega)
        rw [h0, Bool.and_false, Bool.not_false, Bool.and_true]
        simp only [List.length_cons, List.length_nil, decide_true, Bool.true_and]
        show decide (wk = who) = (who == wk)
        by_cases e : wk = who
        · subst e; simp
        · rw [decide_eq_false e]; symm; simp; omega
theorem has_in (n : Nat) (i : Int) : hasB n i = inB i 0 ((n : Int) - 1) := by
  unfold hasB inB
  by_cases h0 : 0 ≤ i <;> by_cases h1 : i < n
  · rw [decide_eq_true h0, decide_eq_true h1, decide_eq_true (show 0 ≤ i ∧ i ≤ (n : Int) - 1 by omega)]; rfl
  · rw [decide_eq_true h0, decide_eq_false h1, decide_eq_false (show ¬ (0 ≤ i ∧ i ≤ (n : Int) - 1) by omega)]; rfl
  · rw [decide_eq_false h0, decide_eq_false (show ¬ (0 ≤ i ∧ i ≤ (n : Int) - 1) by omega)]; rfl
  · rw [decide_eq_false h0, decide_eq_false (show ¬ (0 ≤ i ∧ i ≤ (n : Int) - 1) by omega)]; rfl
theorem loose_same (m : SmyV) : inPlaceIB m = looseB m := by
  have e1 : upSmiths m m.smiths.length = (allTo smithB m.smiths m.smiths.length && (allTo (thereB m.guilds.length) m.smiths m.smiths.length && allTo (placeB m.desks) m.smiths m.smiths.length)) := by
    rw [allTo_and, allTo_and]
    exact (allTo_congr m.smiths (one_same m) m.smiths.length).symm
  have e2 : pacesIB m.paces m.rooms = (decide (m.paces.length = m.rooms.length) && upPaces m m.paces.length) := by
    unfold pacesIB upPaces
    congr 2
    funext j
    unfold paceInB
    exact has_in _ _
  have e3 : decide (0 < (whereTo (fun d : DeskV => d.1) m.desks m.desks.length).length) = upOpen m m.desks.length := whereTo_any _ _ _
  unfold inPlaceIB partsIB looseB headB smithsIB desksIB
  rw [e1, e2, e3]
  have e4 : allTo deskB m.desks m.desks.length = upDesks m m.desks.length := rfl
  rw [e4]
  generalize hallB m.rooms = x1
  generalize guildsB m.guilds = x2
  generalize decide (m.smiths.length ≤ 12) = x3
  generalize allTo smithB m.smiths m.smiths.length = x4
  generalize allTo (thereB m.guilds.length) m.smiths m.smiths.length = x5
  generalize decide ((m.desks.length : Int) = benchSum m.rooms) = x6
  generalize upDesks m m.desks.length = x7
  generalize upOpen m m.desks.length = x8
  generalize decide (m.paces.length = m.rooms.length) = x9
  generalize upPaces m m.paces.length = x10
  generalize inB m.now 0 1000000 = x11
  generalize allTo (placeB m.desks) m.smiths m.smiths.length = x12
  rw [Bool.eq_iff_iff]
  simp only [Bool.and_eq_true]
  constructor
  · rintro ⟨⟨a1, a2, ⟨a3, a4, a5⟩, ⟨a6, a7, a8⟩, ⟨a9, a10⟩, a11⟩, a12⟩
    exact ⟨⟨a1, a2, a3, a6, a9, a11⟩, a7, a10, ⟨a4, a5, a12⟩, a8⟩
  · rintro ⟨⟨a1, a2, a3, a6, a9, a11⟩, a7, a10, ⟨a4, a5, a12⟩, a8⟩
    exact ⟨⟨a1, a2, ⟨a3, a4, a5⟩, ⟨a6, a7, a8⟩, ⟨a9, a10⟩, a11⟩, a12⟩
theorem smy_same (m : SmyV) : smyIB m = smyB m := by
  unfold smyIB smyB turnsIB
  rw [loose_same, show turnIB m = benchOkB m from funext (turn_same m)]

/-! ### The program's queue -/
theorem take_snoc_at {ps : List Int} {k : Nat} (h : k < ps.length) : ps.take (k + 1) = ps.take k ++ [recAt ps k] := by
  unfold recAt
  rw [List.take_add_one, List.getD, List.getElem?_eq_getElem h]; rfl
end Go.Proofs.YtaegckehjlkaaaaGreat

/- WantOf and UsedAt as plain lists. Lists and numbers alone; no condition but those that a theorem names. -/
namespace Go.Proofs.YtaegckehjlkaaaaGreat
open Go.ChangeShapes Go.WideShapes Go.ChangeAt Go.RowKit Go.Sort
set_option linter.unusedVariables false

def wantOfV (m : SmyV) (who : Int) : Int := if smyB m && whoB m who then wantV m who else -1
end Go.Proofs.YtaegckehjlkaaaaGreat

/- The model's At: who waits or works at a bench. Condition: the smithy can be read. -/
namespace Go.Proofs.YtaegckehjlkaaaaGreat
open Go.ChangeShapes Go.WideShapes Go.ChangeAt Go.RowKit Go.Sort
set_option linter.unusedVariables false

theorem spec_q {w : World} {v0 v1 v2 v3 v4 : Value} {m : SmyV} {q : Bool} (hq : smyB m = q) (h : Smy w v0 v1 v2 v3 v4 m) : Calls Tryz.prog 21 #[.agg #[v0, v1, v2, v3, v4, .int .i64 m.now]] w fun e w' => e = .returned (.bool q) ∧ Below w.heap.size w w' := by
  have := specSmithyOk_any h; rw [hq] at this; exact this

set_option maxHeartbeats 1000000 in
theorem l11Bench_q {w : World} {v0 v1 v2 v3 v4 : Value} {m : SmyV} {b : Int} {q : Bool} (hq : isBenchB m b = q) (h : Smy w v0 v1 v2 v3 v4 m) :
    Calls Tryz.prog 64 #[.agg #[v0, v1, v2, v3, v4, .int .i64 m.now], .int .i64 b] w fun e w' => e = .returned (.bool q) ∧ Below w.heap.size w w' := by
  have hq2 : inB b 0 ((m.desks.length : Int) - 1) = q := hq
  clear hq
  obtain ⟨a0, p0, rfl, _, _⟩ := IsRooms.shape h.rooms
  obtain ⟨a1, p1, rfl, _, _⟩ := IsRec.shape h.guilds
  obtain ⟨a2, p2, rfl, _, _⟩ := IsRec.shape h.smiths
  obtain ⟨a3, p3, rfl, hc3, hm3⟩ := IsRec.shape h.desks
  obtain ⟨a4, p4, rfl, _, _⟩ := IsRec.shape h.paces
  clear h
  go_enter Tryz.func64, Tryz.ntmps64
  go_wp2_with (go_at_call 123; refine (l1In_any _ _ _ _).mono ?_; rw [hq2]; rintro e w' ⟨rfl, h9⟩; subst w')
  go_ret
  exact ⟨rfl, (Below.refl _ _).alloc (Nat.le_refl _) _⟩

end Go.Proofs.YtaegckehjlkaaaaGreat

/- What the program asks for coal, as plain lists, and that it is what the model asks: sums over those at a bench, over the benches of a room. Lists and numbers alone; no condition but those that a theorem names. -/
namespace Go.Proofs.YtaegckehjlkaaaaGreat
open Go.ChangeShapes Go.WideShapes Go.ChangeAt Go.RowKit Go.Sort
set_option linter.unusedVariables false

/-! ### What is used at a bench, in whatever order -/
def sumP (m : SmyV) : List PaceV → Int
  | [] => 0
  | e :: q => wantV m e.2 + sumP m q
def sumW (m : SmyV) : List Int → Int
  | [] => 0
  | x :: q => wantV m x + sumW m q
theorem sumP_app (m : SmyV) (a b : List PaceV) : sumP m (a ++ b) = sumP m a + sumP m b := by
  induction a with
  | nil => show sumP m b = 0 + sumP m b; omega
  | cons e a ih => show wantV m e.2 + sumP m (a ++ b) = wantV m e.2 + sumP m a + sumP m b; omega
theorem sumW_app (m : SmyV) (a b : List Int) : sumW m (a ++ b) = sumW m a + sumW m b := by
  induction a with
  | nil => show sumW m b = 0 + sumW m b; omega
  | cons e a ih => show wantV m e + sumW m (a ++ b) = wantV m e + sumW m a + sumW m b; omega
theorem sumW_snoc (m : SmyV) (a : List Int) (x : Int) : sumW m (a ++ [x]) = sumW m a + wantV m x := by rw [sumW_app]; show _ + (wantV m x + 0) = _; omega
theorem sumW_bd (m : SmyV) : ∀ a : List Int, 0 ≤ sumW m a ∧ sumW m a ≤ 1024 * a.length
  | [] => by simp [sumW]
  | x :: a => by
    have ih := sumW_bd m a
    have hw := wantV_bd m x
    show 0 ≤ wantV m x + sumW m a ∧ wantV m x + sumW m a ≤ 1024 * ((a.length + 1 : Nat) : Int)
    omega
theorem sumP_put (m : SmyV) (q : List PaceV) (e : PaceV) : sumP m (putV q e) = sumP m q + wantV m e.2 := by
  have h := sumP_app m (q.take (lessN e q)) (q.drop (lessN e q))
  rw [List.take_append_drop] at h
  unfold putV
  rw [sumP_app, h]
  show _ + (wantV m e.2 + _) = _
  omega
theorem usedF_sum (m : SmyV) (but : Int) : ∀ (q : List PaceV) (n : Int), (∀ e ∈ q, e.2 ≠ but) → q.foldl (fun n e => if e.2 = but then n else n + wantV m e.2) n = n + sumP m q
  | [], n, _ => by show n = n + 0; omega
  | e :: q, n, h => by
    have h0 := h e (by simp)
    have ih := usedF_sum m but q (if e.2 = but then n else n + wantV m e.2) (fun x hx => h x (by simp [hx]))
    rw [List.foldl_cons, ih, if_neg h0]
    show _ = n + (wantV m e.2 + sumP m q)
    omega
theorem usedV_sum (m : SmyV) (b : Int) : usedV m b (-1) = sumP m (atV m.smiths b m.smiths.length) := by
  have := usedF_sum m (-1) (atV m.smiths b m.smiths.length) 0 (fun e he => by
    obtain ⟨i, _, _, _, rfl⟩ := (atV_mem m.smiths b e m.smiths.length).1 he
    show (i : Int) ≠ -1
    omega)
  unfold usedV usedL
  omega
theorem at_is (b : Int) (s : SmithV) : atB b s = decide (s.2.1 = b ∧ presS s = true) := by
  unfold atB presS
  rw [Bool.eq_iff_iff]
  simp only [Bool.and_eq_true, decide_eq_true_eq, beq_iff_eq]
  exact ⟨fun h => ⟨h.2, h.1⟩, fun h => ⟨h.2, h.1⟩⟩
theorem where_sum (m : SmyV) (ss : List SmithV) (b : Int) : ∀ k, sumW m (whereTo (atB b) ss k) = sumP m (atV ss b k)
  | 0 => rfl
  | k + 1 => by
    have ih := where_sum m ss b k
    by_cases hat : (recAt ss k).2.1 = b ∧ presS (recAt ss k) = true
    · rw [whereTo_yes (by rw [at_is]; exact decide_eq_true hat), sumW_snoc, atV_yes hat.1 hat.2, sumP_put, ih]
    · rw [whereTo_no (by rw [at_is]; exact decide_eq_false hat), atV_no hat, ih]
theorem used_where (m : SmyV) (b : Int) : sumW m (whereTo (atB b) m.smiths m.smiths.length) = usedV m b (-1) := by rw [where_sum, usedV_sum]
theorem sumW_step (m : SmyV) {ws : List Int} {k : Nat} (h : k < ws.length) : sumW m (ws.take (k + 1)) = sumW m (ws.take k) + wantV m (recAt ws k) := by rw [take_snoc_at h, sumW_snoc]

/-! ### What one wants can be told -/
/-- What wantOf asks: guilds that are right, and of each that is not gone a guild and bounds. -/
structure Wants (m : SmyV) : Prop where
  guilds : guildsB m.guilds = true
  each : ∀ i, i < m.smiths.length → (recAt m.smiths i).1 ≠ 0 → isB m.guilds (recAt m.smiths i).2.2.2.2.1 = true ∧ pairB (recAt m.smiths i).2.2.2.2.2.1 (recAt m.smiths i).2.2.2.2.2.2.1 = true
theorem Loose.wants {m : SmyV} (h : Loose m) : Wants m := by
  have hd := h.head
  unfold headB at hd
  simp only [Bool.and_eq_true, decide_eq_true_eq] at hd
  refine ⟨hd.2.1, fun i hi hs => ?_⟩
  obtain ⟨hp, hg, _⟩ := h.limits hi hs
  have hgs := hd.2.1
  generalize recAt m.smiths i = s at *
  obtain ⟨st, be, rk, my, gu, lo, hi, hd, ca, ut, wk⟩ := s
  obtain ⟨_, _, _, _, ⟨g0, g5⟩, hpair, _⟩ := presB_of hp
  simp only at hg
  exact ⟨by unfold isB; rw [hgs, inB_t g0 (by omega)]; rfl, hpair⟩
theorem withM_at (m : SmyV) {k : Nat} (hk : k < m.smiths.length) (b : Int) (i : Nat) : recAt (withM m (k : Int) b).smiths i = if i = k then atBench (recAt m.smiths k) b else recAt m.smiths i := by
  unfold withM
  simp only [Int.toNat_natCast]
  exact recAt_set hk i
theorem Wants.with {m : SmyV} (h : Wants m) {k : Nat} (hk : k < m.smiths.length) (hs : (recAt m.smiths k).1 ≠ 0) (b : Int) : Wants (withM m (k : Int) b) := by
  refine ⟨h.guilds, fun i hi hne => ?_⟩
  have hi' : i < m.smiths.length := by unfold withM at hi; simpa using hi
  rw [withM_at m hk] at hne ⊢
  by_cases e : i = k
  · rw [if_pos e]; exact h.each k hk hs
  · rw [if_neg e] at hne ⊢; exact h.each i hi' hne

/-! ### The benches of a room -/
def openB (m : SmyV) (b : Int) : Bool := hasB m.desks.length b && (recAt m.desks b.toNat).1
def needL (m : SmyV) (bs : List Int) : Int := bs.foldl (fun n b => if openB m b then max n (usedV m b (-1)) else n) 0
def workL (m : SmyV) (bs : List Int) : Int := bs.foldl (fun n b => n + usedV m b (-1)) 0
theorem needL_snoc (m : SmyV) (bs : List Int) (b : Int) : needL m (bs ++ [b]) = if openB m b then max (needL m bs) (usedV m b (-1)) else needL m bs := by unfold needL; rw [List.foldl_append]; rfl
theorem workL_snoc (m : SmyV) (bs : List Int) (b : Int) : workL m (bs ++ [b]) = workL m bs + usedV m b (-1) := by unfold workL; rw [List.foldl_append]; rfl
theorem needF_bd (m : SmyV) (hl : m.smiths.length ≤ 12) : ∀ (bs : List Int) (n : Int), 0 ≤ n → n ≤ 12288 → 0 ≤ bs.foldl (fun n b => if openB m b then max n (usedV m b (-1)) else n) n ∧ bs.foldl (fun n b => if openB m b then max n (usedV m b (-1)) else n) n ≤ 12288
  | [], n, h0, h1 => ⟨h0, h1⟩
  | b :: bs, n, h0, h1 => by
    have hu := usedV_bd m b (-1)
    refine needF_bd m hl bs (if openB m b then max n (usedV m b (-1)) else n) ?_ ?_ <;> split <;> omega
theorem needL_bd (m : SmyV) (hl : m.smiths.length ≤ 12) (bs : List Int) : 0 ≤ needL m bs ∧ needL m bs ≤ 12288 := needF_bd m hl bs 0 (by omega) (by omega)
theorem workF_bd (m : SmyV) (hl : m.smiths.length ≤ 12) : ∀ (bs : List Int) (n : Int), 0 ≤ n → 0 ≤ bs.foldl (fun n b => n + usedV m b (-1)) n ∧ bs.foldl (fun n b => n + usedV m b (-1)) n ≤ n + 12288 * bs.length
  | [], n, h0 => ⟨h0, by simp⟩
  | b :: bs, n, h0 => by
    have hu := usedV_bd m b (-1)
    have ih := workF_bd m hl bs (n + usedV m b (-1)) (by omega)
    refine ⟨ih.1, Int.le_trans ih.2 ?_⟩
    simp only [List.length_cons, Int.natCast_add, Int.natCast_one]
    omega
theorem workL_bd (m : SmyV) (hl : m.smiths.length ≤ 12) (bs : List Int) : 0 ≤ workL m bs ∧ workL m bs ≤ 12288 * bs.length := by
  have := workF_bd m hl bs 0 (by omega)
  unfold workL; omega
theorem room_set {m : SmyV} (h : Sane m) {r : Nat} (hr : r < m.rooms.length) {b : Nat} (hb : b < 8) : memB (setV m.rooms (r : Int)) (b : Int) = true ↔ b < m.desks.length ∧ (roomN m.rooms b : Int) = (r : Int) := by
  have hR : isRoom m.rooms (r : Int) = true := by unfold isRoom; rw [h.hall, inB_t (by omega) (by omega)]; rfl
  have ha := (hallB_of h.hall).2.2.1
  have h0 := benches_hall h.hall r (by omega)
  have h1 := benches_hall h.hall (r + 1) (by omega)
  have hm := benchSum_mono ha (i := r) 1 (by omega)
  have hm0 := benchSum_mono ha (i := r + 1) (m.rooms.length - (r + 1)) (by omega)
  rw [show r + 1 + (m.rooms.length - (r + 1)) = m.rooms.length by omega, List.take_length] at hm0
  have h8 := h.eight
  have hd := h.desks
  rw [setV_t hR, Int.toNat_natCast, bits_mem h0.1 hm (by omega) (by omega) (by omega), decide_eq_true_iff]
  constructor
  · intro hx
    have hbd : b < m.desks.length := by omega
    exact ⟨hbd, by rw [(room_is (h.bench hbd) hr).2 hx]⟩
  · rintro ⟨hbd, e⟩
    exact (room_is (h.bench hbd) hr).1 (by omega)
theorem room_upto {m : SmyV} (h : Sane m) {r : Nat} (hr : r < m.rooms.length) : ∀ k : Nat, k ≤ m.desks.length → needL m (upto (setV m.rooms (r : Int)) k) = (usedIn m r k).1 ∧ workL m (upto (setV m.rooms (r : Int)) k) = (usedIn m r k).2
  | 0, _ => ⟨rfl, rfl⟩
  | k + 1, hk => by
    have ih := room_upto h hr k (by omega)
    have h8 := h.eight
    have hs := room_set h hr (b := k) (by omega)
    by_cases e : (roomN m.rooms k : Int) = (r : Int)
    · rw [upto_hit (hs.2 ⟨by omega, e⟩), needL_snoc, workL_snoc, ih.1, ih.2]
      have ho : openB m (k : Int) = (recAt m.desks k).1 := by
        unfold openB hasB
        rw [Int.toNat_natCast, decide_eq_true (show (0 : Int) ≤ (k : Int) by omega), decide_eq_true (show (k : Int) < (m.desks.length : Int) by omega)]
        simp
      rw [ho]
      show _ = (if _ then _ else _ : Int × Int).1 ∧ _ = (if _ then _ else _ : Int × Int).2
      rw [if_pos e]
      exact ⟨rfl, rfl⟩
    · have hn : memB (setV m.rooms (r : Int)) (k : Int) = false := by
        cases hc : memB (setV m.rooms (r : Int)) (k : Int)
        · rfl
        · exact absurd (hs.1 hc).2 e
      rw [upto_miss hn]
      show _ = (if _ then _ else _ : Int × Int).1 ∧ _ = (if _ then _ else _ : Int × Int).2
      rw [if_neg e]
      exact ih
theorem room_mems {m : SmyV} (h : Sane m) {r : Nat} (hr : r < m.rooms.length) : needL m (mems (setV m.rooms (r : Int))) = (usedIn m r m.desks.length).1 ∧ workL m (mems (setV m.rooms (r : Int))) = (usedIn m r m.desks.length).2 := by
  have key : ∀ d k : Nat, m.desks.length + d = k → k ≤ 8 → upto (setV m.rooms (r : Int)) k = upto (setV m.rooms (r : Int)) m.desks.length := by
    intro d
    induction d with
    | zero => intro k hk _; rw [← hk]; rfl
    | succ d ih =>
      intro k hk h8
      obtain ⟨j, rfl⟩ : ∃ j, k = j + 1 := ⟨k - 1, by omega⟩
      have hn : memB (setV m.rooms (r : Int)) (j : Int) = false := by
        cases hc : memB (setV m.rooms (r : Int)) (j : Int)
        · rfl
        · have := ((room_set h hr (b := j) (by omega)).1 hc).1; omega
      rw [upto_miss hn]
      exact ih j (by omega) (by omega)
  have h8 := h.eight
  have e := key (8 - m.desks.length) 8 (by omega) (by omega)
  unfold mems
  rw [e]
  exact room_upto h hr m.desks.length (Nat.le_refl _)

/-! ### Chapter 13's answers -/
def coalWithOfV (m : SmyV) (who b : Int) : Int := if smyB m && (whoB m who && openB m b) then coalWithV m who b else -1

end Go.Proofs.YtaegckehjlkaaaaGreat

/- Which bench, as the program asks it, as plain lists, and that it is what the model asks. Lists and numbers alone; no condition but those that a theorem names. -/
namespace Go.Proofs.YtaegckehjlkaaaaGreat
open Go.ChangeShapes Go.WideShapes Go.ChangeAt Go.RowKit Go.Sort
set_option linter.unusedVariables false

/-! ### What is used but by one -/
def awayS (s : SmithV) : SmithV := (1, s.2)
def awayM (m : SmyV) (who : Int) : SmyV := { m with smiths := m.smiths.set who.toNat (awayS (recAt m.smiths who.toNat)) }
theorem away_at (m : SmyV) {k : Nat} (hk : k < m.smiths.length) (i : Nat) : recAt (awayM m (k : Int)).smiths i = if i = k then awayS (recAt m.smiths k) else recAt m.smiths i := by
  unfold awayM
  simp only [Int.toNat_natCast]
  exact recAt_set hk i
theorem away_len (m : SmyV) (who : Int) : (awayM m who).smiths.length = m.smiths.length := by unfold awayM; simp
theorem away_want (m : SmyV) {k : Nat} (hk : k < m.smiths.length) (x : Int) : wantV (awayM m (k : Int)) x = wantV m x := by
  unfold wantV
  rw [away_at m hk]
  by_cases e : x.toNat = k
  · rw [if_pos e, e]; rfl
  · rw [if_neg e]; rfl
def sumB (m : SmyV) (but : Int) : List PaceV → Int
  | [] => 0
  | e :: q => (if e.2 = but then 0 else wantV m e.2) + sumB m but q
theorem sumB_app (m : SmyV) (but : Int) (a b : List PaceV) : sumB m but (a ++ b) = sumB m but a + sumB m but b := by
  induction a with
  | nil => show sumB m but b = 0 + sumB m but b; omega
  | cons e a ih => show _ + sumB m but (a ++ b) = _ + sumB m but a + sumB m but b; omega
theorem sumB_put (m : SmyV) (but : Int) (q : List PaceV) (e : PaceV) : sumB m but (putV q e) = sumB m but q + (if e.2 = but then 0 else wantV m e.2) := by
  have h := sumB_app m but (q.take (lessN e q)) (q.drop (lessN e q))
  rw [List.take_append_drop] at h
  unfold putV
  rw [sumB_app, h]
  show _ + ((if e.2 = but then 0 else wantV m e.2) + _) = _
  omega
theorem usedF_B (m : SmyV) (but : Int) : ∀ (q : List PaceV) (n : Int), q.foldl (fun n e => if e.2 = but then n else n + wantV m e.2) n = n + sumB m but q
  | [], n => by show n = n + 0; omega
  | e :: q, n => by
    have ih := usedF_B m but q (if e.2 = but then n else n + wantV m e.2)
    rw [List.foldl_cons, ih]
    show _ = n + ((if e.2 = but then 0 else wantV m e.2) + sumB m but q)
    split <;> omega
theorem usedV_B (m : SmyV) (b but : Int) : usedV m b but = sumB m but (atV m.smiths b m.smiths.length) := by
  have := usedF_B m but (atV m.smiths b m.smiths.length) 0
  unfold usedV usedL
  omega
theorem sum_away (m : SmyV) {k : Nat} (hk : k < m.smiths.length) (b : Int) : ∀ j, sumB (awayM m (k : Int)) (-1) (atV (awayM m (k : Int)).smiths b j) = sumB m (k : Int) (atV m.smiths b j)
  | 0 => rfl
  | j + 1 => by
    have ih := sum_away m hk b j
    by_cases e : j = k
    · subst e
      rw [atV_no (ss := (awayM m (j : Int)).smiths) (by rw [away_at m hk, if_pos rfl]; rintro ⟨_, h⟩; cases h), ih]
      by_cases hat : (recAt m.smiths j).2.1 = b ∧ presS (recAt m.smiths j) = true
      · rw [atV_yes hat.1 hat.2, sumB_put, if_pos rfl]; omega
      · rw [atV_no hat]
    · have hr : recAt (awayM m (k : Int)).smiths j = recAt m.smiths j := by rw [away_at m hk, if_neg e]
      by_cases hat : (recAt m.smiths j).2.1 = b ∧ presS (recAt m.smiths j) = true
      · rw [atV_yes (ss := (awayM m (k : Int)).smiths) (by rw [hr]; exact hat.1) (by rw [hr]; exact hat.2), atV_yes hat.1 hat.2, sumB_put, sumB_put, ih, away_want m hk]
        show _ + (if (j : Int) = -1 then 0 else wantV m (j : Int)) = _ + (if (j : Int) = (k : Int) then 0 else wantV m (j : Int))
        rw [if_neg (by omega), if_neg (by omega)]
      · rw [atV_no (ss := (awayM m (k : Int)).smiths) (by rw [hr]; exact hat), atV_no hat, ih]
theorem used_away (m : SmyV) {k : Nat} (hk : k < m.smiths.length) (b : Int) : usedV (awayM m (k : Int)) b (-1) = usedV m b (k : Int) := by
  rw [usedV_B, usedV_B, away_len]
  exact sum_away m hk b _
theorem Wants.away {m : SmyV} (h : Wants m) {k : Nat} (hk : k < m.smiths.length) (hs : (recAt m.smiths k).1 ≠ 0) : Wants (awayM m (k : Int)) := by
  refine ⟨h.guilds, fun i hi hne => ?_⟩
  rw [away_len] at hi
  rw [away_at m hk] at hne ⊢
  by_cases e : i = k
  · rw [if_pos e]; exact h.each k hk hs
  · rw [if_neg e] at hne ⊢; exact h.each i hi hne

/-! ### Benches -/
abbrev BenchV := Int × Int × Int
def benchV (m : SmyV) (k : Nat) : BenchV := ((k : Int), usedV m (k : Int) (-1), forceV m.rooms (k : Int))
/-- The open ones of the first k. -/
def openTo (m : SmyV) : Nat → List BenchV
  | 0 => []
  | k + 1 => if (recAt m.desks k).1 then openTo m k ++ [benchV m k] else openTo m k
theorem openTo_yes {m : SmyV} {k : Nat} (h : (recAt m.desks k).1 = true) : openTo m (k + 1) = openTo m k ++ [benchV m k] := by show (if _ then _ else _) = _; rw [if_pos h]
theorem openTo_no {m : SmyV} {k : Nat} (h : (recAt m.desks k).1 = false) : openTo m (k + 1) = openTo m k := by show (if _ then _ else _) = _; rw [h]; rfl
theorem openTo_len (m : SmyV) : ∀ k, (openTo m k).length ≤ k
  | 0 => Nat.le_refl _
  | k + 1 => by
    have := openTo_len m k
    unfold openTo
    split
    · simp; omega
    · omega
theorem openTo_mem (m : SmyV) (x : BenchV) : ∀ k, x ∈ openTo m k ↔ ∃ b : Nat, b < k ∧ (recAt m.desks b).1 = true ∧ x = benchV m b
  | 0 => by simp [openTo]
  | k + 1 => by
    have ih := openTo_mem m x k
    cases ho : (recAt m.desks k).1
    · rw [openTo_no ho, ih]
      constructor
      · rintro ⟨b, hb, h⟩; exact ⟨b, by omega, h⟩
      · rintro ⟨b, hb, h1, h2⟩
        by_cases e : b = k
        · subst e; rw [ho] at h1; cases h1
        · exact ⟨b, by omega, h1, h2⟩
    · rw [openTo_yes ho, List.mem_append, ih]
      constructor
      · rintro (⟨b, hb, h⟩ | h)
        · exact ⟨b, by omega, h⟩
        · exact ⟨k, by omega, ho, by simpa using h⟩
      · rintro ⟨b, hb, h1, h2⟩
        by_cases e : b = k
        · subst e; right; simp [h2]
        · left; exact ⟨b, by omega, h1, h2⟩
def butV (m : SmyV) (who : Int) (k : Nat) : BenchV := ((k : Int), usedV m (k : Int) who, forceV m.rooms (k : Int))
/-- Those of the first k where one may work, as they are but by itself. -/
def mayTo (m : SmyV) (who : Int) : Nat → List BenchV
  | 0 => []
  | k + 1 => if mayAt m who k then mayTo m who k ++ [butV m who k] else mayTo m who k
theorem mayTo_yes {m : SmyV} {who : Int} {k : Nat} (h : mayAt m who k = true) : mayTo m who (k + 1) = mayTo m who k ++ [butV m who k] := by show (if _ then _ else _) = _; rw [if_pos h]
theorem mayTo_no {m : SmyV} {who : Int} {k : Nat} (h : mayAt m who k = false) : mayTo m who (k + 1) = mayTo m who k := by show (if _ then _ else _) = _; rw [h]; rfl
theorem mayTo_mem (m : SmyV) (who : Int) (x : BenchV) : ∀ k, x ∈ mayTo m who k ↔ ∃ b : Nat, b < k ∧ mayAt m who b = true ∧ x = butV m who b
  | 0 => by simp [mayTo]
  | k + 1 => by
    have ih := mayTo_mem m who x k
    cases ho : mayAt m who k
    · rw [mayTo_no ho, ih]
      constructor
      · rintro ⟨b, hb, h⟩; exact ⟨b, by omega, h⟩
      · rintro ⟨b, hb, h1, h2⟩
        by_cases e : b = k
        · subst e; rw [ho] at h1; cases h1
        · exact ⟨b, by omega, h1, h2⟩
    · rw [mayTo_yes ho, List.mem_append, ih]
      constructor
      · rintro (⟨b, hb, h⟩ | h)
        · exact ⟨b, by omega, h⟩
        · exact ⟨k, by omega, ho, by simpa using h⟩
      · rintro ⟨b, hb, h1, h2⟩
        by_cases e : b = k
        · subst e; right; simp [h2]
        · left; exact ⟨b, by omega, h1, h2⟩
theorem mayTo_len (m : SmyV) (who : Int) : ∀ k, (mayTo m who k).length ≤ k
  | 0 => Nat.le_refl _
  | k + 1 => by
    have := mayTo_len m who k
    unfold mayTo
    split
    · simp; omega
    · omega
/-- Whether a bench is one of its May. -/
def inMay (m : SmyV) (k : Nat) (x : BenchV) : Bool := bitB (recAt m.smiths k).2.2.2.1 x.1
theorem open_may (m : SmyV) {k : Nat} (hk : k < m.smiths.length) : ∀ n, (openTo (awayM m (k : Int)) n).filter (inMay m k) = mayTo m (k : Int) n
  | 0 => rfl
  | n + 1 => by
    have ih := open_may m hk n
    have hd : (awayM m (k : Int)).desks = m.desks := rfl
    have hm : mayAt m (k : Int) n = ((recAt m.desks n).1 && bitB (recAt m.smiths k).2.2.2.1 (n : Int)) := rfl
    have hi : inMay m k (benchV (awayM m (k : Int)) n) = bitB (recAt m.smiths k).2.2.2.1 (n : Int) := rfl
    cases ho : (recAt m.desks n).1
    · rw [openTo_no (by rw [hd]; exact ho), ih, mayTo_no (by rw [hm, ho]; rfl)]
    · rw [openTo_yes (by rw [hd]; exact ho), List.filter_append, ih]
      cases hb : bitB (recAt m.smiths k).2.2.2.1 (n : Int)
      · rw [mayTo_no (by rw [hm, ho, hb]; rfl), List.filter_cons_of_neg (by rw [hi, hb]; simp)]
        simp
      · rw [mayTo_yes (by rw [hm, ho, hb]; rfl), List.filter_cons_of_pos (by rw [hi, hb])]
        have hv : benchV (awayM m (k : Int)) n = butV m (k : Int) n := by unfold benchV butV; rw [used_away m hk]; rfl
        rw [hv]
        rfl
/-- All benches where one may work; none where it is not right. -/
def forV (m : SmyV) (who : Int) : List BenchV := if smyB m && whoB m who then mayTo m who m.desks.length else []

/-! ### Chapter 14's answers -/
def mayWorkV (m : SmyV) (who b : Int) : Bool := smyB m && (whoB m who && (isBenchB m b && mayAt m who b.toNat))
def fittingOfV (m : SmyV) (who : Int) : List Int := if smyB m && whoB m who then fittingL m who else []
def crowdedV (m : SmyV) : Bool := smyB m && crowdB m
def chosenOfV (m : SmyV) (who : Int) : Int := if smyB m && whoB m who then chosenV m who else -1
theorem for_may (m : SmyV) (who b : Int) : (forV m who).any (fun x => x.1 == b) = mayWorkV m who b := by
  unfold forV mayWorkV
  cases h1 : smyB m
  · rfl
  cases h2 : whoB m who
  · rfl
  simp only [Bool.and_self, if_true, Bool.true_and]
  rw [Bool.eq_iff_iff, List.any_eq_true, Bool.and_eq_true]
  unfold isBenchB inB
  rw [decide_eq_true_iff]
  constructor
  · rintro ⟨x, hx, he⟩
    obtain ⟨j, hj, hm, rfl⟩ := (mayTo_mem m who x _).1 hx
    have he2 : (j : Int) = b := by simpa [butV] using he
    subst he2
    exact ⟨⟨by omega, by omega⟩, by rw [Int.toNat_natCast]; exact hm⟩
  · rintro ⟨⟨h3, h4⟩, hm⟩
    exact ⟨butV m who b.toNat, (mayTo_mem m who _ _).2 ⟨b.toNat, by omega, hm, rfl⟩, by simp only [butV, beq_iff_eq]; omega⟩
def takesB (wn : Int) (x : BenchV) : Bool := fitsB wn x.2.1 x.2.2
theorem may_fit (m : SmyV) (who : Int) : ∀ k, ((mayTo m who k).filter (takesB (wantV m who))).map (·.1) = fitTo m who k
  | 0 => rfl
  | k + 1 => by
    have ih := may_fit m who k
    have hf : fitAt m who k = (mayAt m who k && takesB (wantV m who) (butV m who k)) := rfl
    cases hm : mayAt m who k
    · rw [mayTo_no hm, ih]
      show _ = if _ then _ else _
      rw [hf, hm]; rfl
    · rw [mayTo_yes hm, List.filter_append, List.map_append, ih]
      show _ = if _ then _ else _
      cases ht : takesB (wantV m who) (butV m who k)
      · rw [hf, hm, ht, List.filter_cons_of_neg (by rw [ht]; simp)]; simp
      · rw [hf, hm, ht, List.filter_cons_of_pos ht]; rfl
theorem for_fit (m : SmyV) (who : Int) : ((forV m who).filter (takesB (wantOfV m who))).map (·.1) = fittingOfV m who := by
  unfold forV fittingOfV wantOfV
  cases h : (smyB m && whoB m who)
  · rfl
  · simp only [if_true]; exact may_fit m who _
/-- The one with most to spare of a list so far: its place, and what it has. -/
def roomStep (a : Int × Int) (x : BenchV) : Int × Int := if a.1 = -1 ∨ a.2 < spareV x.2.1 x.2.2 then (x.1, spareV x.2.1 x.2.2) else a
def roomL (l : List BenchV) : Int × Int := l.foldl roomStep (-1, 0)
theorem roomL_snoc (l : List BenchV) (x : BenchV) : roomL (l ++ [x]) = roomStep (roomL l) x := by unfold roomL; rw [List.foldl_append]; rfl
theorem may_most (m : SmyV) (who : Int) : ∀ k, roomL (mayTo m who k) = mostTo m who k
  | 0 => rfl
  | k + 1 => by
    have ih := may_most m who k
    have ho := most_or m who k
    have hn : ((mostTo m who k).1 < 0) ↔ (mostTo m who k).1 = -1 := by
      rcases ho with ⟨e, _⟩ | ⟨b, _, e, _⟩
      · rw [e]; omega
      · rw [e]; omega
    have hM : mostTo m who (k + 1) = if mayAt m who k && (decide ((mostTo m who k).1 < 0) || decide ((mostTo m who k).2 < spareV (usedV m k who) (forceV m.rooms k))) then ((k : Int), spareV (usedV m k who) (forceV m.rooms k)) else mostTo m who k := rfl
    rw [hM]
    cases hm : mayAt m who k
    · rw [mayTo_no hm, ih]; rfl
    · rw [mayTo_yes hm, roomL_snoc, ih]
      show (if (mostTo m who k).1 = -1 ∨ (mostTo m who k).2 < spareV (usedV m k who) (forceV m.rooms k) then _ else _) = _
      by_cases hc : (mostTo m who k).1 = -1 ∨ (mostTo m who k).2 < spareV (usedV m k who) (forceV m.rooms k)
      · rw [if_pos hc, if_pos (by rw [Bool.true_and, Bool.or_eq_true, decide_eq_true_iff, decide_eq_true_iff, hn]; exact hc)]; rfl
      · rw [if_neg hc, if_neg (by rw [Bool.true_and, Bool.or_eq_true, decide_eq_true_iff, decide_eq_true_iff, hn]; exact hc)]
/-- The cheapest of a list so far, and what it costs. -/
def cheapStep (m : SmyV) (who : Int) (a : Int × Int) (b : Int) : Int × Int := if a.1 = -1 ∨ coalWithV m who b < a.2 ∨ (coalWithV m who b = a.2 ∧ b = (recAt m.smiths who.toNat).2.1) then (b, coalWithV m who b) else a
def cheapL (m : SmyV) (who : Int) (f : List Int) : Int × Int := f.foldl (cheapStep m who) (-1, 0)
theorem cheapL_snoc (m : SmyV) (who : Int) (f : List Int) (b : Int) : cheapL m who (f ++ [b]) = cheapStep m who (cheapL m who f) b := by unfold cheapL; rw [List.foldl_append]; rfl
theorem cheap_fold (m : SmyV) (who : Int) : ∀ (f : List Int) (a : Int × Int), 0 ≤ a.1 → (∀ x ∈ f, 0 ≤ x) → f.foldl (cheapStep m who) a = f.foldl (stepBest m who) a
  | [], a, _, _ => rfl
  | b :: f, a, h0, hf => by
    have e : cheapStep m who a b = stepBest m who a b := by
      unfold cheapStep stepBest
      by_cases hc : coalWithV m who b < a.2 ∨ (coalWithV m who b = a.2 ∧ b = (recAt m.smiths who.toNat).2.1)
      · rw [if_pos hc, if_pos (.inr hc)]
      · rw [if_neg hc, if_neg (by rintro (h | h); · omega
                                  · exact hc h)]
    rw [List.foldl_cons, List.foldl_cons, e]
    refine cheap_fold m who f _ ?_ (fun x hx => hf x (List.mem_cons_of_mem _ hx))
    unfold stepBest
    split
    · exact hf b (by simp)
    · exact h0
theorem cheap_best (m : SmyV) (who : Int) {f : List Int} (h : 0 < f.length) (hf : ∀ x ∈ f, 0 ≤ x) : cheapL m who f = bestTo m who f f.length := by
  obtain ⟨x, r, rfl⟩ : ∃ x r, f = x :: r := by
    cases f with
    | nil => simp at h
    | cons x r => exact ⟨x, r, rfl⟩
  unfold cheapL bestTo
  rw [List.take_length, List.foldl_cons]
  show r.foldl (cheapStep m who) (cheapStep m who (-1, 0) x) = r.foldl (stepBest m who) (x, coalWithV m who x)
  have e : cheapStep m who (-1, 0) x = (x, coalWithV m who x) := by unfold cheapStep; rw [if_pos (.inl rfl)]
  rw [e]
  exact cheap_fold m who r _ (hf x (by simp)) (fun y hy => hf y (by simp [hy]))
theorem fitL_mem {m : SmyV} {who x : Int} (h : x ∈ fittingL m who) : ∃ b : Nat, b < m.desks.length ∧ x = (b : Int) ∧ mayAt m who b = true := by
  obtain ⟨b, hb, e, hf⟩ := (fitTo_mem m who x m.desks.length).1 h
  unfold fitAt at hf
  simp only [Bool.and_eq_true] at hf
  exact ⟨b, hb, e, hf.1⟩
/-- As the program puts it. -/
theorem chosen_is (m : SmyV) (who : Int) : chosenOfV m who = if crowdedV m || decide ((fittingOfV m who).length = 0) then (roomL (forV m who)).1 else (cheapL m who (fittingOfV m who)).1 := by
  unfold chosenOfV crowdedV fittingOfV forV
  cases h1 : smyB m
  · rfl
  cases h2 : whoB m who
  · cases crowdB m <;> rfl
  simp only [Bool.and_self, if_true, Bool.true_and]
  unfold chosenV
  rw [may_most]
  cases hc : crowdB m
  · by_cases hl : (fittingL m who).length = 0
    · rw [if_neg (by simp [hl]), if_pos (by simp [hl])]
    · rw [if_pos (by simp; omega), if_neg (by simp; intro e; rw [e] at hl; simp at hl)]
      rw [cheap_best m who (by omega) (fun x hx => by obtain ⟨b, _, rfl, _⟩ := fitL_mem hx; omega)]
  · rfl

/-! ### What FnFitting and FnChosen ask -/
theorem take_snocR {α : Type} [Inhabited α] {l : List α} {k : Nat} (h : k < l.length) : l.take (k + 1) = l.take k ++ [recAt l k] := by
  rw [List.take_succ_eq_append_getElem h, recAt_get h]
theorem may_bd {m : SmyV} (h : Loose m) {k : Nat} (hk : k < m.smiths.length) (hs : (recAt m.smiths k).1 ≠ 0) : 0 ≤ (recAt m.smiths k).2.2.2.1 ∧ (recAt m.smiths k).2.2.2.1 ≤ 255 := by
  obtain ⟨hp, _, _⟩ := h.limits hk hs
  generalize recAt m.smiths k = s at *
  obtain ⟨st, be, rk, my, gu, lo, hi, hd, ca, ut, wk⟩ := s
  obtain ⟨_, _, _, ⟨y0, y1⟩, _⟩ := presB_of hp
  show 0 ≤ my ∧ my ≤ 255
  omega
theorem open_at {m : SmyV} {k : Nat} (hk : k < m.desks.length) : openB m (k : Int) = (recAt m.desks k).1 := by
  unfold openB hasB
  rw [Int.toNat_natCast, decide_eq_true (show (0 : Int) ≤ (k : Int) by omega), decide_eq_true (show (k : Int) < (m.desks.length : Int) by omega)]
  simp
theorem mem_may {m : SmyV} (h : Loose m) {k : Nat} (hk : k < m.smiths.length) (hs : (recAt m.smiths k).1 ≠ 0) {x : BenchV} (hx : x ∈ openTo (awayM m (k : Int)) m.desks.length) : memB (recAt m.smiths k).2.2.2.1 x.1 = inMay m k x := by
  obtain ⟨b, hb, _, rfl⟩ := (openTo_mem _ x _).1 hx
  obtain ⟨y0, y1⟩ := may_bd h hk hs
  have h8 := h.sane.eight
  unfold memB inMay benchV
  rw [inB_t y0 y1, inB_t (show (0 : Int) ≤ (b : Int) by omega) (show (b : Int) ≤ 7 by omega)]
  rfl
theorem for_none {m : SmyV} {who : Int} (h : wantOfV m who = -1) : forV m who = [] := by
  unfold forV
  unfold wantOfV at h
  have hb := (wantV_bd m who).1
  cases hc : (smyB m && whoB m who)
  · rfl
  · rw [hc, if_pos rfl] at h; omega
theorem for_some {m : SmyV} {k : Nat} (h : smyB m = true) (hw : whoB m (k : Int) = true) (hk : k < m.smiths.length) : (openTo (awayM m (k : Int)) m.desks.length).filter (inMay m k) = forV m (k : Int) := by
  unfold forV
  rw [h, hw, open_may m hk]
  rfl
theorem crowd_any (m : SmyV) : (openTo m m.desks.length).any (fun x => muchB x.2.1 x.2.2) = crowdB m := by
  unfold crowdB
  rw [Bool.eq_iff_iff, List.any_eq_true, List.any_eq_true]
  constructor
  · rintro ⟨x, hx, hm⟩
    obtain ⟨b, hb, ho, rfl⟩ := (openTo_mem m x _).1 hx
    exact ⟨b, List.mem_range.2 hb, by unfold crowdAt; rw [ho]; exact hm⟩
  · rintro ⟨b, hb, hc⟩
    unfold crowdAt at hc
    simp only [Bool.and_eq_true] at hc
    exact ⟨benchV m b, (openTo_mem m _ _).2 ⟨b, List.mem_range.1 hb, hc.1, rfl⟩, hc.2⟩
theorem any_no {α : Type} [Inhabited α] {p : α → Bool} {l : List α} (h : ∀ i, i < l.length → p (recAt l i) = false) : l.any p = false := by
  rw [List.any_eq_false]
  intro x hx
  obtain ⟨i, hi, rfl⟩ := List.getElem_of_mem hx
  rw [← recAt_get hi, h i hi]
  simp
theorem any_yes {α : Type} [Inhabited α] {p : α → Bool} {l : List α} {i : Nat} (hi : i < l.length) (h : p (recAt l i) = true) : l.any p = true := List.any_eq_true.2 ⟨_, recAt_mem hi, h⟩
theorem filter_yes {α : Type} [Inhabited α] {p : α → Bool} {l : List α} {j : Nat} (hj : j < l.length) (h : p (recAt l j) = true) : (l.take (j + 1)).filter p = (l.take j).filter p ++ [recAt l j] := by
  rw [take_snocR hj, List.filter_append, List.filter_cons_of_pos h]; rfl
theorem filter_no {α : Type} [Inhabited α] {p : α → Bool} {l : List α} {j : Nat} (hj : j < l.length) (h : p (recAt l j) = false) : (l.take (j + 1)).filter p = (l.take j).filter p := by
  rw [take_snocR hj, List.filter_append, List.filter_cons_of_neg (by rw [h]; simp)]; simp
theorem room_next {l : List BenchV} {j : Nat} (hj : j < l.length) : roomL (l.take (j + 1)) = roomStep (roomL (l.take j)) (recAt l j) := by rw [take_snocR hj, roomL_snoc]
theorem cheap_next {m : SmyV} {who : Int} {l : List Int} {j : Nat} (hj : j < l.length) : cheapL m who (l.take (j + 1)) = cheapStep m who (cheapL m who (l.take j)) (recAt l j) := by rw [take_snocR hj, cheapL_snoc]
theorem fit_open {m : SmyV} {k : Nat} {x : Int} (hx : x ∈ fittingOfV m (k : Int)) : coalWithOfV m (k : Int) x = coalWithV m (k : Int) x := by
  unfold fittingOfV at hx
  cases hc : (smyB m && whoB m (k : Int))
  · rw [hc] at hx; simp at hx
  rw [hc, if_pos rfl] at hx
  simp only [Bool.and_eq_true] at hc
  obtain ⟨b, hb, rfl, hm⟩ := fitL_mem hx
  unfold mayAt at hm
  simp only [Bool.and_eq_true] at hm
  unfold coalWithOfV
  rw [hc.1, hc.2, open_at hb, hm.1]
  rfl

end Go.Proofs.YtaegckehjlkaaaaGreat

/- Rows of open benches that stand behind the program's interface: what they read as, and how one more is appended. Conditions: those that each theorem names. -/
namespace Go.Proofs.YtaegckehjlkaaaaGreat
open Go.ChangeShapes Go.WideShapes Go.ChangeAt Go.RowKit Go.Sort
set_option linter.unusedVariables false

def encBench (x : BenchV) : List Value := [.iface 196 (.agg #[.int .i64 x.1, .int .i64 x.2.1, .int .i64 x.2.2])]
theorem encBench_len (x : BenchV) : (encBench x).length = 1 := rfl
abbrev BenchesAt (n₀ : Nat) (w : World) (v : Value) (xs : List BenchV) : Prop := RecAt 96 1 encBench n₀ w v xs
theorem infoBench : (Tryz.prog.info? 96).map (fun i => (i.zero, i.size, i.bytes)) = some (some .nilIface, 1, 16) := by kernel_rfl
theorem bench_cell {w : World} {g : Nat} {xs : List BenchV} (h : ∀ j, j < xs.length → ∀ i u, (encBench (recAt xs j))[i]? = some u → w.cell? ⟨g, j * 1 + i, none⟩ = some u) {j : Nat} (hj : j < xs.length) : w.cell? ⟨g, j, none⟩ = some (.iface 196 (.agg #[.int .i64 (recAt xs j).1, .int .i64 (recAt xs j).2.1, .int .i64 (recAt xs j).2.2])) := by
  have := h j hj 0 _ rfl
  simpa using this
theorem run_append_bench {w : World} {base t ty : Nat} (ht : Tryz.prog.underlying t = some (.slice 96)) {v x : Value} {ps qs : List BenchV} (hown : BenchesAt base w v ps) (hx : IsRec 1 encBench w x qs) (hb : ps.length + qs.length ≤ 4000) (hbase : base ≤ w.heap.size) :
    ∃ v' w', (Builtin.append_ #[t, t] ty #[v, x]).run Tryz.prog w = .ok v' w' ∧ BenchesAt base w' v' (ps ++ qs) ∧ w.grownBy w' v.ownBlock ∧ (v'.ownBlock = v.ownBlock ∨ v'.ownBlock = some w.heap.size) := by
  obtain ⟨i0, hi, hz0, hz1, hz2⟩ := parts_of infoBench
  obtain ⟨a, c, rfl, hc, hm, hr⟩ := hx
  by_cases h0 : qs = []
  · subst h0
    refine ⟨v, w, run_append_none ht hi hown a c, by simpa using hown, grown_refl _ _, .inl rfl⟩
  · rcases hr with hr | ⟨b, off, rfl, hlt, hcl⟩
    · exact absurd hr h0
    · obtain ⟨v', w', hr, h2, h3, _, h5⟩ := run_append_own_at (P := Tryz.prog) w base t ty 96 i0 .nilIface 1 16 ht hi hz0 hz1 hz2 rfl (by omega) v ps.length _ hown ⟨b, off, none⟩ qs.length c (flat encBench qs) (flat_len encBench_len qs)
        (rec_cells encBench_len (by omega) hcl) (flat_one (fun x u hu => by rcases List.mem_singleton.1 hu with rfl; rfl) qs) (by simp only [maxLen]; omega) (by omega) hbase
      refine ⟨v', w', hr, ?_, h3, h5⟩
      unfold BenchesAt RecAt
      rw [flat_append, List.length_append]
      exact h2
/-- At a plain region's list. -/
theorem wpList_append_bench {w : World} {ops : Array Oper} {rest : List Oper} {o : Oper} {a : Act} {Q : Exit → Act → World → Prop} (hgd : o.guard = none) (s x : Operand) (t : TypeId) (ht : Tryz.prog.underlying t = some (.slice 96))
    (ho : o.op = .call { callee := .builtin .append, args := #[s, x], argTypes := #[t, t] }) (base : Nat) (v u : Value) (ps qs : List BenchV) (hs : a.eval s = v) (hx : a.eval x = u) (hown : BenchesAt base w v ps) (hr : IsRec 1 encBench w u qs)
    (hb : ps.length + qs.length ≤ 4000) (hbase : base ≤ w.heap.size)
    (h : ∀ v' w', BenchesAt base w' v' (ps ++ qs) → w.grownBy w' v.ownBlock → (v'.ownBlock = v.ownBlock ∨ v'.ownBlock = some w.heap.size) → wpList Tryz.prog ops Q rest (a.put o.dst v') w') :
    wpList Tryz.prog ops Q (o :: rest) a w := by
  refine wpList_plain hgd fun K hK => ?_
  obtain ⟨v', w', hrun, h2, h3, h5⟩ := run_append_bench (ty := o.type) ht hown hr hb hbase
  unfold Oper.wp execOp
  simp only [ho, resolve, invoke, builtin, Sem.run_bind, Sem.run_pure, Result.andThen_ok, List.map_toArray, List.map_cons, List.map_nil, hs, hx, hrun]
  exact hK _ _ (h v' w' h2 h3 h5)

end Go.Proofs.YtaegckehjlkaaaaGreat

