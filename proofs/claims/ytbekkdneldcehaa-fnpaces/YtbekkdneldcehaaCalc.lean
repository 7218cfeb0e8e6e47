/- Contracts of chapter 1's exported functions and of their models: each returns the plain number that is defined here, at every argument of type int64; nothing that was in memory is changed. -/
import Derived.Test.YtbekkdneldcehaaBase
namespace Go.Proofs.Ytbekkdneldcehaa
open Go.ChangeShapes Go.WideShapes Go.ChangeAt Go.RowKit
set_option linter.unusedVariables false

def mulDivV (a b c : Int) : Int := if inB a 0 1000000000 && inB b 0 1000000000 && inB c 1 1000000000 then a * b / c else -1
def fadeN (x : Int) : Nat → Int → Int
  | 0, u => u
  | n + 1, u => fadeN x n ((31 * u + x) / 32)
def fadedManyV (u x n : Int) : Int := if inB u 0 1024 && inB x 0 1024 && inB n 0 1000 then fadeN x n.toNat u else -1
def fadedV (u x : Int) : Int := if inB u 0 1024 && inB x 0 1024 then (31 * u + x) / 32 else -1

theorem fade_bd {u x : Int} (h1 : 0 ≤ u) (h2 : u ≤ 1024) (h3 : 0 ≤ x) (h4 : x ≤ 1024) : 0 ≤ (31 * u + x) / 32 ∧ (31 * u + x) / 32 ≤ 1024 := by omega
theorem fadeN_bd (x : Int) (h3 : 0 ≤ x) (h4 : x ≤ 1024) : ∀ (n : Nat) (u : Int), 0 ≤ u → u ≤ 1024 → 0 ≤ fadeN x n u ∧ fadeN x n u ≤ 1024
  | 0, u, h1, h2 => ⟨h1, h2⟩
  | n + 1, u, h1, h2 => fadeN_bd x h3 h4 n _ (fade_bd h1 h2 h3 h4).1 (fade_bd h1 h2 h3 h4).2
theorem fadeN_succ (x : Int) : ∀ (n : Nat) (u : Int), fadeN x (n + 1) u = (31 * fadeN x n u + x) / 32
  | 0, u => rfl
  | n + 1, u => fadeN_succ x n _

theorem mul_bd {a b : Int} (a0 : 0 ≤ a) (a1 : a ≤ 1000000000) (b0 : 0 ≤ b) (b1 : b ≤ 1000000000) : 0 ≤ a * b ∧ a * b ≤ 1000000000000000000 := by
  refine ⟨Int.mul_nonneg a0 b0, ?_⟩
  have h := Int.mul_le_mul a1 b1 b0 (by omega)
  omega

/-- The ways through the tests: each is decided. -/
theorem ways3 {P : Prop} (a b c lo hi l1 h1 l2 h2 : Int)
    (k1 : inB a lo hi = false → P) (k2 : inB a lo hi = true → inB b l1 h1 = false → P) (k3 : inB a lo hi = true → inB b l1 h1 = true → inB c l2 h2 = false → P)
    (k4 : inB a lo hi = true → inB b l1 h1 = true → inB c l2 h2 = true → P) : P := by
  cases ha : inB a lo hi
  · exact k1 ha
  · cases hb : inB b l1 h1
    · exact k2 ha hb
    · cases hc : inB c l2 h2
      · exact k3 ha hb hc
      · exact k4 ha hb hc


set_option maxHeartbeats 400000 in
theorem specMulDiv_any (a b c : Int) (w : World) : Calls Try.prog 43 #[.int .i64 a, .int .i64 b, .int .i64 c] w fun e w' => e = .returned (.int .i64 (mulDivV a b c)) ∧ w' = w := by
  refine ways3 a b c 0 1000000000 0 1000000000 1 1000000000 ?_ ?_ ?_ ?_
  · intro ha
    have hv : mulDivV a b c = -1 := by simp [mulDivV, ha]
    rw [hv]; clear hv
    go_enter Try.func43, Try.ntmps43
    go_wp2_with (first | (go_at_call 55; refine (l1Big_any _ _).mono ?_; rintro e w' ⟨rfl, rfl⟩) | (go_at_call 42; refine (l1In_any _ _ _ _).mono ?_; rintro e w' ⟨rfl, rfl⟩))
    go_ret
    exact ⟨rfl, rfl⟩
  · intro ha hb
    have hv : mulDivV a b c = -1 := by simp [mulDivV, hb]
    rw [hv]; clear hv
    go_enter Try.func43, Try.ntmps43
    go_wp2_with (first | (go_at_call 55; refine (l1Big_any _ _).mono ?_; rintro e w' ⟨rfl, rfl⟩) | (go_at_call 42; refine (l1In_any _ _ _ _).mono ?_; rintro e w' ⟨rfl, rfl⟩))
    go_ret
    exact ⟨rfl, rfl⟩
  · intro ha hb hc
    have hv : mulDivV a b c = -1 := by simp [mulDivV, hc]
    rw [hv]; clear hv
    go_enter Try.func43, Try.ntmps43
    go_wp2_with (first | (go_at_call 55; refine (l1Big_any _ _).mono ?_; rintro e w' ⟨rfl, rfl⟩) | (go_at_call 42; refine (l1In_any _ _ _ _).mono ?_; rintro e w' ⟨rfl, rfl⟩))
    go_ret
    exact ⟨rfl, rfl⟩
  · intro ha hb hc
    have hv : mulDivV a b c = a * b / c := by simp [mulDivV, ha, hb, hc]
    rw [hv]; clear hv
    obtain ⟨a0, a1⟩ := inB_of ha
    obtain ⟨b0, b1⟩ := inB_of hb
    obtain ⟨c0, c1⟩ := inB_of hc
    obtain ⟨m0, m1⟩ := mul_bd a0 a1 b0 b1
    go_enter Try.func43, Try.ntmps43
    go_wp2_with (first | (go_at_call 55; refine (l1Big_any _ _).mono ?_; rintro e w' ⟨rfl, rfl⟩) | (go_at_call 42; refine (l1In_any _ _ _ _).mono ?_; rintro e w' ⟨rfl, rfl⟩))
    go_ret
    exact ⟨rfl, rfl⟩

theorem all2 {p : Int → Bool} (a b : Int) : [a, b].all p = (p a && p b) := by simp
theorem all1 {p : Int → Bool} (a : Int) : [a].all p = p a := by simp
theorem cells2 (W : World) (a b : Int) (bk : Nat) (hb : bk = W.heap.size) : ∀ k, k < [a, b].length → (W.alloc (.cells #[.int .i64 a, .int .i64 b] 2)).cell? ⟨bk, k, none⟩ = some (.int .i64 ([a, b].getD k 0)) := by
  intro k hk
  rw [World.cell?_alloc_at _ _ _ _ hb]
  match k, hk with
  | 0, _ => rfl
  | 1, _ => rfl
theorem cells1 (W : World) (a : Int) (bk : Nat) (hb : bk = W.heap.size) : ∀ k, k < [a].length → (W.alloc (.cells #[.int .i64 a] 2)).cell? ⟨bk, k, none⟩ = some (.int .i64 ([a].getD k 0)) := by
  intro k hk
  rw [World.cell?_alloc_at _ _ _ _ hb]
  match k, hk with
  | 0, _ => rfl
theorem two_isFactor (a b : Int) (W : World) (bk : Nat) (hb : bk = W.heap.size) : Calls Try.prog 52 #[.func (Fn.func 53) #[] #[], .slice (some ⟨bk, 0, none⟩) 2 2] (W.alloc (.cells #[.int .i64 a, .int .i64 b] 2))
    fun e w' => e = .returned (.bool (inB a 0 1000000000 && inB b 0 1000000000)) ∧ w' = W.alloc (.cells #[.int .i64 a, .int .i64 b] 2) := by
  have h := allAre_isFactor bk 2 [a, b] (W.alloc (.cells #[.int .i64 a, .int .i64 b] 2)) (by simp) (cells2 W a b bk hb)
  rw [all2] at h
  exact h
theorem one_isDivisor (a : Int) (W : World) (bk : Nat) (hb : bk = W.heap.size) : Calls Try.prog 52 #[.func (Fn.func 54) #[] #[], .slice (some ⟨bk, 0, none⟩) 1 1] (W.alloc (.cells #[.int .i64 a] 2))
    fun e w' => e = .returned (.bool (inB a 1 1000000000)) ∧ w' = W.alloc (.cells #[.int .i64 a] 2) := by
  have h := allAre_isDivisor bk 1 [a] (W.alloc (.cells #[.int .i64 a] 2)) (by simp) (cells1 W a bk hb)
  rw [all1] at h
  exact h

set_option maxHeartbeats 400000 in
theorem implMulDiv_any (a b c : Int) (w : World) : Calls Try.prog 39 #[.int .i64 a, .int .i64 b, .int .i64 c] w fun e w' => e = .returned (.int .i64 (mulDivV a b c)) ∧ Below w.heap.size w w' := by
  refine ways3 a b c 0 1000000000 0 1000000000 1 1000000000 ?_ ?_ ?_ ?_
  · intro ha
    have hv : mulDivV a b c = -1 := by simp [mulDivV, ha]
    rw [hv]; clear hv
    go_enter Try.func39, Try.ntmps39
    go_wp2_with fail
    refine (two_isFactor a b _ _ rfl).mono ?_
    rintro e w' ⟨rfl, rfl⟩
    go_wp2_with fail
    go_ret
    exact ⟨rfl, (Below.refl _ _).alloc (Nat.le_refl _) _⟩
  · intro ha hb
    have hv : mulDivV a b c = -1 := by simp [mulDivV, hb]
    rw [hv]; clear hv
    go_enter Try.func39, Try.ntmps39
    go_wp2_with fail
    refine (two_isFactor a b _ _ rfl).mono ?_
    rintro e w' ⟨rfl, rfl⟩
    go_wp2_with fail
    go_ret
    exact ⟨rfl, (Below.refl _ _).alloc (Nat.le_refl _) _⟩
  · intro ha hb hc
    have hv : mulDivV a b c = -1 := by simp [mulDivV, hc]
    rw [hv]; clear hv
    go_enter Try.func39, Try.ntmps39
    go_wp2_with fail
    refine (two_isFactor a b _ _ rfl).mono ?_
    rintro e w' ⟨rfl, rfl⟩
    go_wp2_with fail
    refine (one_isDivisor c _ _ (by simp)).mono ?_
    rintro e w' ⟨rfl, rfl⟩
    go_wp2_with fail
    go_ret
    exact ⟨rfl, ((Below.refl _ _).alloc (Nat.le_refl _) _).alloc (by simp) _⟩
  · intro ha hb hc
    have hv : mulDivV a b c = a * b / c := by simp [mulDivV, ha, hb, hc]
    rw [hv]; clear hv
    obtain ⟨a0, a1⟩ := inB_of ha
    obtain ⟨b0, b1⟩ := inB_of hb
    obtain ⟨c0, c1⟩ := inB_of hc
    obtain ⟨m0, m1⟩ := mul_bd a0 a1 b0 b1
    go_enter Try.func39, Try.ntmps39
    go_wp2_with fail
    refine (two_isFactor a b _ _ rfl).mono ?_
    rintro e w' ⟨rfl, rfl⟩
    go_wp2_with fail
    refine (one_isDivisor c _ _ (by simp)).mono ?_
    rintro e w' ⟨rfl, rfl⟩
    go_wp2_with fail
    go_ret
    exact ⟨rfl, ((Below.refl _ _).alloc (Nat.le_refl _) _).alloc (by simp) _⟩
end Go.Proofs.Ytbekkdneldcehaa
