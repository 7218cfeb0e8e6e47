/- The law on sets: a set has its members, and the first one is the least: whatever bytes are drawn from. No condition. -/
import Derived.Test.YtijacdjhpdoflaaMemImpl
import Derived.Test.YtijacdjhpdoflaaDraw2
import Derived.Deep.DeepCutAuto
namespace Go.Proofs.Ytijacdjhpdoflaa
open Go.ChangeShapes Go.WideShapes Go.ChangeAt Go.RowKit
open Draw (IsRow Row row_of row_later big_yes big_no drawInSet_any)
set_option linter.unusedVariables false

theorem mem_upto (s i : Int) : ∀ k : Nat, i ∈ upto s k ↔ (memB s i = true ∧ 0 ≤ i ∧ i < k)
  | 0 => by
    constructor
    · intro h; exact absurd h (by simp [upto])
    · rintro ⟨_, a, b⟩; exact absurd b (by omega)
  | k + 1 => by
    have ih := mem_upto s i k
    cases h : memB s k
    · rw [upto_miss h, ih]
      constructor
      · rintro ⟨a, b, c⟩; exact ⟨a, b, by omega⟩
      · rintro ⟨a, b, c⟩
        refine ⟨a, b, ?_⟩
        have : i ≠ k := fun e => by rw [e, h] at a; cases a
        omega
    · rw [upto_hit h, List.mem_append, ih]
      constructor
      · rintro (⟨a, b, c⟩ | e)
        · exact ⟨a, b, by omega⟩
        · simp at e; subst e; exact ⟨h, by omega, by omega⟩
      · rintro ⟨a, b, c⟩
        by_cases e : i = k
        · exact .inr (by simp [e])
        · exact .inl ⟨a, b, by omega⟩
theorem mem_mems (s i : Int) : decide (i ∈ mems s) = memB s i := by
  have h := mem_upto s i 8
  cases hm : memB s i
  · exact decide_eq_false (fun e => by have := (h.1 e).1; rw [hm] at this; cases this)
  · refine decide_eq_true (h.2 ⟨hm, ?_⟩)
    have hi : inB i 0 7 = true := by
      unfold memB at hm; simp at hm; exact hm.1.2
    have := inB_of hi
    omega
theorem mems_bd (s : Int) : ∀ x ∈ mems s, 0 ≤ x ∧ x ≤ 7 := fun x hx => by have := (mem_upto s x 8).1 hx; omega
theorem mems_rise (s : Int) : ∀ k, k + 1 < (mems s).length → (mems s).getD k 0 < (mems s).getD (k + 1) 0 := by
  have go : ∀ j, (upto s j).Pairwise (· < ·) := by
    intro j
    induction j with
    | zero => exact List.Pairwise.nil
    | succ j ih =>
      cases h : memB s j
      · rw [upto_miss h]; exact ih
      · rw [upto_hit h, List.pairwise_append]
        refine ⟨ih, by simp, fun x hx y hy => ?_⟩
        simp at hy; subst hy
        exact ((mem_upto s x j).1 hx).2.2
  intro k hk
  have h1 : (mems s).getD k 0 = (mems s)[k] := by simp [show k < (mems s).length by omega]
  have h2 : (mems s).getD (k + 1) 0 = (mems s)[k + 1] := by simp [hk]
  rw [h1, h2]
  exact List.pairwise_iff_getElem.1 (show (mems s).Pairwise (· < ·) from go 8) k (k + 1) (by omega) hk (by omega)

/-- What the members of a list weigh, each as its bit. -/
def wt (l : List Int) : Int := (l.map fun x => (2 : Int) ^ x.toNat).sum
theorem wt_snoc (l : List Int) (x : Int) : wt (l ++ [x]) = wt l + 2 ^ x.toNat := by simp [wt]
theorem wt_all : ∀ s : Fin 256, wt (mems (s.val : Int)) = (s.val : Int) := by decide +kernel
theorem wt_mems {s : Int} (h : inB s 0 255 = true) : wt (mems s) = s := by
  obtain ⟨h0, h1⟩ := inB_of h
  obtain ⟨n, rfl⟩ := Int.eq_ofNat_of_zero_le h0
  exact wt_all ⟨n, by omega⟩
theorem pow_bd {x : Int} (h0 : 0 ≤ x) (h1 : x ≤ 7) : 1 ≤ (2 : Int) ^ x.toNat ∧ (2 : Int) ^ x.toNat ≤ 128 := by
  obtain ⟨n, rfl⟩ := Int.eq_ofNat_of_zero_le h0
  have hn : n ≤ 7 := by omega
  have : ∀ m : Fin 8, 1 ≤ (2 : Int) ^ m.val ∧ (2 : Int) ^ m.val ≤ 128 := by decide
  exact this ⟨n, by omega⟩
theorem wt_bd : ∀ l : List Int, (∀ x ∈ l, 0 ≤ x ∧ x ≤ 7) → 0 ≤ wt l ∧ wt l ≤ 128 * l.length
  | [], _ => by simp [wt]
  | x :: l, h => by
    have ih := wt_bd l (fun y hy => h y (List.mem_cons_of_mem _ hy))
    have hx := h x (List.mem_cons_self ..)
    have hp := pow_bd hx.1 hx.2
    have e : wt (x :: l) = 2 ^ x.toNat + wt l := by simp [wt]
    rw [e]
    simp only [List.length_cons]
    omega

theorem firstWays (s : Int) : (firstV s = -1 ∧ mems s = []) ∨ (0 ≤ firstV s ∧ 0 < (mems s).length ∧ (mems s).getD 0 0 = firstV s) := by
  cases h : mems s with
  | nil => exact .inl ⟨by unfold firstV; rw [h]; rfl, rfl⟩
  | cons x r =>
    have hx := mems_bd s x (by rw [h]; exact List.mem_cons_self ..)
    have hf : firstV s = x := by unfold firstV; rw [h]; rfl
    exact .inr ⟨by omega, by simp, by rw [hf]; rfl⟩

theorem has_mem {n₀ : Nat} {w : World} {v : Value} {s : Int} (x : Int) (hv : IntsAt n₀ w v (mems s)) :
    Calls Try.prog 20 #[v, .int .i64 x] w fun e w' => e = .returned (.bool (memB s x)) ∧ w' = w := by
  have := has_any x hv
  rwa [mem_mems] at this
theorem wt_step {l : List Int} {k : Nat} (h : k < l.length) : wt (l.take (k + 1)) = wt (l.take k) + 2 ^ (l.getD k 0).toNat := by
  rw [List.take_succ_eq_append_getElem h, wt_snoc]
  simp [h]

set_option maxHeartbeats 2000000 in
theorem walkFnSets (a0 : Option Addr) (len0 cap0 : Nat) (z0 : List Int) (w : World) (w0 : IsRow .u8 w a0 len0 cap0 z0) :
    Calls Try.prog 3 #[.slice a0 len0 cap0] w fun e w' => e = .returned (.bool true) ∧ Below w.heap.size w w' := by
  by_cases hbig : 4096 < len0
  · go_enter Try.func3, Try.ntmps3
    go_wp2_with fail
    refine (big_yes _ _ _ _ hbig).mono ?_
    rintro e w' ⟨rfl, rfl⟩
    go_wp2_with fail
    go_ret
    exact ⟨rfl, Below.refl _ _⟩
  have Hr := hide (row_of w0 (by omega))
  clear w0
  go_enter Try.func3, Try.ntmps3
  go_wp2_with fail
  refine (big_no _ _ _ _ (by omega)).mono ?_
  rintro e w' ⟨rfl, rfl⟩
  go_wp2_with fail
  refine (drawInSet_any _ _ _ _ (unhide Hr)).mono ?_
  rintro e w1 ⟨s, i, rfl, i0, i1, b1⟩
  have Hb1 := hide b1
  clear b1
  go_wp2_with fail
  refine (implMembers_any _ _).mono ?_
  rintro e w2 ⟨v, rfl, hv2, b2⟩
  have Hb2 := hide ((unhide Hb1).trans (b2.mono (unhide Hb1).size))
  have Hv2 := hide hv2
  clear Hb1 b2 hv2 Hr
  go_wp2_with fail
  refine (implFirstOf_any _ _).mono ?_
  rintro e w3 ⟨rfl, b3⟩
  have Hb3 := hide ((unhide Hb2).trans (b3.mono (unhide Hb2).size))
  have Hv3 := hide ((unhide Hv2).later b3)
  clear Hb2 Hv2 b3
  go_wp2_with fail
  refine (specMembers_any _ _).mono ?_
  rintro e w4 ⟨u, rfl, hu4, b4⟩
  have Hb4 := hide ((unhide Hb3).trans (b4.mono (unhide Hb3).size))
  have Hv4 := hide ((unhide Hv3).later b4)
  have Hu4 := hide hu4
  clear Hb3 Hv3 b4 hu4
  go_wp2_with fail
  refine (likeInts_yes (unhide Hv4) (unhide Hu4)).mono ?_
  rintro e w5 ⟨rfl, s5⟩
  have Hb5 := hide ((unhide Hb4).trans (s5.below _))
  have Hv5 := hide ((unhide Hv4).still s5)
  clear Hb4 Hv4 Hu4 s5
  go_wp2_with fail
  refine (specFirstOf_any _ _).mono ?_
  rintro e w6 ⟨rfl, b6⟩
  have Hb6 := hide ((unhide Hb5).trans (b6.mono (unhide Hb5).size))
  have Hv6 := hide ((unhide Hv5).later b6)
  clear Hb5 Hv5 b6
  go_wp2_with (first | (go_at_call 16; refine (specInSet_any _ _ _).mono ?_; rintro e w' ⟨rfl, hw⟩; subst w') | (go_at_call 15; refine (implInSet_any _ _ _).mono ?_; rintro e w' ⟨rfl, hw⟩; subst w') | (go_at_call 18; refine (specSetOk_any _ _).mono ?_; rintro e w' ⟨rfl, hw⟩; subst w') | (go_at_call 17; refine (implSetOk_any _ _).mono ?_; rintro e w' ⟨rfl, hw⟩; subst w'))
  refine (rises_yes (unhide Hv6) (mems_rise s)).mono ?_
  rintro e w7 ⟨rfl, s7⟩
  have Hb7 := hide ((unhide Hb6).trans (s7.below _))
  have Hv7 := hide ((unhide Hv6).still s7)
  clear Hb6 Hv6 s7
  go_wp2_with fail
  refine (implInSet_any _ _ _).mono ?_
  rintro e w' ⟨rfl, hw⟩
  subst w'
  go_wp2_with fail
  refine (has_mem _ (unhide Hv7)).mono ?_
  rintro e w' ⟨rfl, hw⟩
  subst w'
  obtain ⟨a, cap, rfl, hlen, hca⟩ := (unhide Hv7).view
  have hbd := mems_bd s
  have hml := mems_len s
  have hfw := firstWays s
  have hend : (inB s 0 255 = false ∧ mems s = []) ∨ (inB s 0 255 = true ∧ wt (mems s) = s) := by
    cases h : inB s 0 255
    · exact .inl ⟨rfl, upto_none h 8⟩
    · exact .inr ⟨rfl, wt_mems h⟩
  clear Hv7
  generalize mems s = ms at *
  generalize firstV s = f at *
  have HE := hide hend
  have HB := hide hbd
  clear hend hbd
  rcases hfw with ⟨rfl, rfl⟩ | ⟨f0, hpos, hf⟩
  · clear hca hlen hml
    go_wp2_with fail
    go_loopw [7, 8] (fun n k wr => n = .int .i64 0 ∧ k = .int .i64 0 ∧ wr = w7) (fun _ _ _ => 0)
    case atStart => exact ⟨rfl, rfl, rfl⟩
    case round =>
      obtain ⟨rfl, rfl, rfl⟩ := hrel
      rcases unhide HE with ⟨h, _⟩ | ⟨h, hs⟩
      · go_wp2_with (go_at_call 18; refine (specSetOk_any _ _).mono ?_; rintro e w' ⟨rfl, hw⟩; subst w')
        go_ret
        exact ⟨rfl, unhide Hb7⟩
      · have h0 : s = 0 := by rw [← hs]; rfl
        subst h0
        go_wp2_with (go_at_call 18; refine (specSetOk_any _ _).mono ?_; rintro e w' ⟨rfl, hw⟩; subst w')
        go_ret
        exact ⟨rfl, unhide Hb7⟩
  · rcases hca with h | ⟨g, rfl, _, _, hc, _⟩
    · rw [h] at hpos; simp at hpos
    have hc0 := hc 0 hpos
    rw [hf] at hc0
    have HC := hide hc
    have hset : inB s 0 255 = true ∧ Hid (wt ms = s) := by
      rcases unhide HE with ⟨_, h⟩ | ⟨h1, h2⟩
      · rw [h] at hpos; simp at hpos
      · exact ⟨h1, h2⟩
    obtain ⟨hin, HW⟩ := hset
    clear hc hf HE
    go_wp2_with fail
    go_loopw [7, 8] (fun n k wr => ∃ j : Nat, j ≤ ms.length ∧ k = .int .i64 j ∧ n = .int .i64 (wt (ms.take j)) ∧ wr = w7) (fun _ k _ => ms.length - (intOf k).toNat)
    case atStart => exact ⟨0, by omega, rfl, rfl, rfl⟩
    case round =>
      obtain ⟨j, hj, rfl, rfl, rfl⟩ := hrel
      have hwb := wt_bd (ms.take j) (fun x hx => unhide HB x (List.mem_of_mem_take hx))
      have htl : (ms.take j).length ≤ 8 := by simp; omega
      by_cases hlt : j < ms.length
      · have hcj := unhide HC j hlt
        have hst := hide (wt_step hlt)
        have hz := unhide HB (ms.getD j 0) (by rw [show ms.getD j 0 = ms[j] by simp [hlt]]; exact List.getElem_mem hlt)
        generalize ms.getD j 0 = z at *
        obtain ⟨z0', z1'⟩ := hz
        have hp := pow_bd z0' z1'
        generalize hq : wt (ms.take j) = q at *
        have Hq := hide hq
        clear hq
        go_wp2_with fail
        go_roundw
        case rel => exact ⟨j + 1, by omega, by go_num, by rw [unhide hst], trivial⟩
        case measure => simp [intOf]; omega
      · obtain rfl : j = ms.length := by omega
        have hws : wt (ms.take ms.length) = s := by rw [List.take_length]; exact unhide HW
        rw [hws] at *
        go_wp2_with (go_at_call 18; refine (specSetOk_any _ _).mono ?_; rintro e w' ⟨rfl, hw⟩; subst w')
        go_ret
        exact ⟨rfl, unhide Hb7⟩

end Go.Proofs.Ytijacdjhpdoflaa
