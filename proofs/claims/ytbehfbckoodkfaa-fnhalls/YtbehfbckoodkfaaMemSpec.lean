/- The members of a set, as a list; the model's Members and FirstOf. No condition. -/
import Derived.Test.YtbehfbckoodkfaaSets
import Derived.Test.YtbehfbckoodkfaaInts
import Derived.Maps.AppendAt
namespace Go.Proofs.Ytbehfbckoodkfaa
open Go.ChangeShapes Go.WideShapes Go.ChangeAt Go.RowKit
set_option linter.unusedVariables false

/-- The benches below k that are in the set s, in their order. -/
def upto (s : Int) : Nat → List Int
  | 0 => []
  | k + 1 => if memB s k = true then upto s k ++ [(k : Int)] else upto s k
def mems (s : Int) : List Int := upto s 8
def firstV (s : Int) : Int := (mems s).headD (-1)
theorem upto_hit {s : Int} {k : Nat} (h : memB s k = true) : upto s (k + 1) = upto s k ++ [(k : Int)] := by simp [upto, h]
theorem upto_miss {s : Int} {k : Nat} (h : memB s k = false) : upto s (k + 1) = upto s k := by simp [upto, h]
theorem upto_len (s : Int) : ∀ k, (upto s k).length ≤ k
  | 0 => by simp [upto]
  | k + 1 => by
    have := upto_len s k
    cases h : memB s k
    · rw [upto_miss h]; omega
    · rw [upto_hit h]; simp; omega
theorem upto_none {s : Int} (h : inB s 0 255 = false) : ∀ k, upto s k = []
  | 0 => rfl
  | k + 1 => by rw [upto_miss (memB_f (.inl h))]; exact upto_none h k
theorem upto_pre (s : Int) : ∀ k, k ≤ 8 → upto s k <+: mems s := by
  have step : ∀ k, upto s k <+: upto s (k + 1) := fun k => by
    cases h : memB s k
    · rw [upto_miss h]; exact List.prefix_refl _
    · rw [upto_hit h]; exact List.prefix_append _ _
  have go : ∀ d k, upto s k <+: upto s (k + d) := by
    intro d
    induction d with
    | zero => intro k; exact List.prefix_refl _
    | succ d ih => intro k; exact (ih k).trans (step (k + d))
  intro k hk
  have := go (8 - k) k
  rwa [show k + (8 - k) = 8 by omega] at this
theorem info64 : (Try.prog.info? 2).map (fun i => (i.zero, i.size, i.bytes)) = some (some (.int .i64 0), 1, 8) := by kernel_rfl
theorem mems_len (s : Int) : (mems s).length ≤ 8 := upto_len s 8

theorem rel_hit {w wr w1 : World} {v v' : Value} {s : Int} {k : Nat} {o : Obj} (hm : memB s k = true) (hown : IntsAt w.heap.size wr v (upto s k)) (hb : Below w.heap.size w wr)
    (hown' : w1.ownsRow w.heap.size 2 1 v' ((upto s k).length + 1) ((upto s k).map (Value.int .i64) ++ [.int .i64 k])) (hg : (wr.alloc o).grownBy w1 v.ownBlock) :
    IntsAt w.heap.size w1 v' (upto s (k + 1)) ∧ Below w.heap.size w w1 := by
  refine ⟨?_, ?_⟩
  · unfold IntsAt; rw [upto_hit hm]; simpa using hown'
  · exact (hb.alloc hb.size o).grown hg (by have := hb.size; simp; omega) (fun j ej => (hown.block_lt ej).1)

set_option maxHeartbeats 2000000 in
theorem specMembers_yes (s : Int) (w : World) (hs : inB s 0 255 = true) :
    Calls Try.prog 36 #[.int .i64 s] w fun e w' => ∃ v, e = .returned v ∧ IntsAt w.heap.size w' v (mems s) ∧ Below w.heap.size w w' := by
  obtain ⟨i0, hi, hz0, hz1, hz2⟩ := info_parts info64
  obtain ⟨hs0, hs1⟩ := inB_of hs
  go_enter Try.func36, Try.ntmps36
  go_wp2_with fail
  go_loopw [3, 4] (fun v i wr => ∃ k : Nat, k ≤ 8 ∧ i = .int .i64 k ∧ IntsAt w.heap.size wr v (upto s k) ∧ Below w.heap.size w wr) (fun _ i _ => 8 - (intOf i).toNat)
  case atStart => exact ⟨0, by omega, rfl, World.ownsRow_lit w #[] 0 (Nat.le_refl _) (by simp [maxLen]) rfl, (Below.refl _ _).alloc (Nat.le_refl _) _⟩
  case round =>
    obtain ⟨k, hk, rfl, hown, hbl⟩ := hrel
    have hul := upto_len s k
    by_cases hlt : (k : Int) < 8
    · have hin : inB (k : Int) 0 7 = true := inB_t (by omega) (by omega)
      cases hm : bitB s k
      · have hm' : memB s k = false := by rw [memB_t hs hin]; exact hm
        go_wp2_with (first | (go_at_call 61; refine (l2Set_any _ _).mono ?_; rintro e w' ⟨rfl, rfl⟩) | (go_at_call 62; refine (l2Has_any _ _ _ hs0 hs1 (by omega) (by omega)).mono ?_; rintro e w' ⟨rfl, rfl⟩))
        go_roundw
        case rel => exact ⟨k + 1, by omega, by go_num, by rw [upto_miss hm']; exact hown, hbl⟩
        case measure => simp [intOf]; omega
      · have hm' : memB s k = true := by rw [memB_t hs hin]; exact hm
        go_wp2_with (first | (go_at_call 61; refine (l2Set_any _ _).mono ?_; rintro e w' ⟨rfl, rfl⟩) | (go_at_call 62; refine (l2Has_any _ _ _ hs0 hs1 (by omega) (by omega)).mono ?_; rintro e w' ⟨rfl, rfl⟩) | (at_builtin; refine wpList_append_own _ rfl _ _ 53 rfl w.heap.size 2 i0 (.int .i64 0) 1 8 Try.underlying53 hi hz0 hz1 hz2 rfl (by decide) _ _ _ rfl (World.ownsRow.alloc hown _) ⟨_, 0, none⟩ 1 1 [.int .i64 k] rfl rfl (cell_one_new _ _ _) (by simp [Value.oneCell']) (by simp only [maxLen]; omega) (by omega) (by have := hbl.size; simp; omega) ?_; intro v' w1 hown' hgrow _; have R := rel_hit hm' hown hbl hown' hgrow; clear hown' hgrow hown hbl))
        go_roundw
        case rel => exact ⟨k + 1, by omega, by go_num, R.1, R.2⟩
        case measure => simp [intOf]; omega
    · obtain rfl : k = 8 := by omega
      go_wp2_with fail
      go_ret
      exact ⟨_, rfl, hown, hbl⟩

set_option maxHeartbeats 2000000 in
theorem specMembers_no (s : Int) (w : World) (hs : inB s 0 255 = false) :
    Calls Try.prog 36 #[.int .i64 s] w fun e w' => ∃ v, e = .returned v ∧ IntsAt w.heap.size w' v (mems s) ∧ Below w.heap.size w w' := by
  go_enter Try.func36, Try.ntmps36
  go_wp2_with fail
  go_loopw [3, 4] (fun v i wr => i = .int .i64 0 ∧ IntsAt w.heap.size wr v (mems s) ∧ Below w.heap.size w wr) (fun _ i _ => 8 - (intOf i).toNat)
  case atStart => exact ⟨rfl, by unfold mems; rw [upto_none hs]; exact World.ownsRow_lit w #[] 0 (Nat.le_refl _) (by simp [maxLen]) rfl, (Below.refl _ _).alloc (Nat.le_refl _) _⟩
  case round =>
    obtain ⟨rfl, hown, hbl⟩ := hrel
    go_wp2_with (go_at_call 61; refine (l2Set_any _ _).mono ?_; rintro e w' ⟨rfl, rfl⟩)
    go_ret
    exact ⟨_, rfl, hown, hbl⟩

theorem specMembers_any (s : Int) (w : World) :
    Calls Try.prog 36 #[.int .i64 s] w fun e w' => ∃ v, e = .returned v ∧ IntsAt w.heap.size w' v (mems s) ∧ Below w.heap.size w w' := by
  cases h : inB s 0 255
  · exact specMembers_no s w h
  · exact specMembers_yes s w h


end Go.Proofs.Ytbehfbckoodkfaa
