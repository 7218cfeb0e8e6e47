/- Contracts of chapter 7's functions and of their models: what each call returns; and a rule for a scope whose run jumps to several labels. No condition but those that a theorem names. -/
import Derived.Test.YtbekkdneldcehaaBase
import Derived.WalkMore
import Derived.Below
namespace Go.Proofs.Ytbekkdneldcehaa
open Go.ChangeShapes Go.WideShapes Go.ChangeAt Go.RowKit
set_option linter.unusedVariables false

/-- As Q; by a goto to label l: J l. -/
def jumps (J : Nat → Act → World → Prop) (Q : Exit → Act → World → Prop) : Exit → Act → World → Prop
  | .goto l, a, w => J l a w
  | e, a, w => Q e a w
theorem jumps_ret {J : Nat → Act → World → Prop} {Q : Exit → Act → World → Prop} {a : Act} {w : World} : jumps J Q .ret a w = Q .ret a w := rfl

/-- A scope in which the run jumps from label to label: what holds at each label's jumps, and a measure that every pass lowers. -/
theorem wp_scope_all {P : Program} {a : Act} {w : World} {Q : Exit → Act → World → Prop} {c : Code} (J : Nat → Act → World → Prop) (μ : Nat → Act → World → Nat)
    (first : c.wp P (jumps J Q) a w)
    (pass : ∀ l a w, J l a w → ∃ rest, findLabel c l = some rest ∧ rest.wp P (jumps (fun l' a' w' => J l' a' w' ∧ μ l' a' w' < μ l a w) Q) a w) : (Code.scope c).wp P Q a w := by
  intro b k cs
  have key : ∀ n l a w, μ l a w = n → J l a w → ∃ rest, findLabel c l = some rest ∧ ∃ e a' w', Q e a' w' ∧ Arrives P (lone (b.at a (.code rest :: .inScope c :: k)) cs w) b k cs e a' w' := by
    intro n
    induction n using Nat.strongRecOn with
    | _ n ih =>
      intro l a w hn hJ
      obtain ⟨rest, hf, hp⟩ := pass l a w hJ
      refine ⟨rest, hf, ?_⟩
      obtain ⟨e, a₁, w₁, hq, harr⟩ := hp b (.inScope c :: k) cs
      cases e with
      | normal => exact ⟨.normal, a₁, w₁, hq, Steps.trans harr (.one step_inScope)⟩
      | exit id => exact ⟨.exit id, a₁, w₁, hq, fun k' hk => harr k' (by simp [exitTo, hk])⟩
      | goto l' =>
        obtain ⟨hJ', hlt⟩ := hq
        obtain ⟨rest', hf', e₂, a₂, w₂, hq₂, harr₂⟩ := ih _ (by omega) l' a₁ w₁ rfl hJ'
        exact ⟨e₂, a₂, w₂, hq₂, .of_steps (harr _ (by simp [gotoIn, hf'])) harr₂⟩
      | ret => exact ⟨_, a₁, w₁, hq, harr⟩
      | panic ch => exact ⟨_, a₁, w₁, hq, harr⟩
      | outgrown => exact ⟨_, a₁, w₁, hq, harr⟩
  obtain ⟨e, a₁, w₁, hq, harr⟩ := first b (.inScope c :: k) cs
  cases e with
  | normal => exact ⟨.normal, a₁, w₁, hq, .head step_scope (Steps.trans harr (.one step_inScope))⟩
  | exit id => exact ⟨.exit id, a₁, w₁, hq, fun k' hk => .head step_scope (harr k' (by simp [exitTo, hk]))⟩
  | goto l' =>
    obtain ⟨rest', hf', e₂, a₂, w₂, hq₂, harr₂⟩ := key _ l' a₁ w₁ rfl hq
    exact ⟨e₂, a₂, w₂, hq₂, .of_steps (.head step_scope (harr _ (by simp [gotoIn, hf']))) harr₂⟩
  | ret => exact ⟨_, a₁, w₁, hq, .of_steps (.one step_scope) harr⟩
  | panic ch => exact ⟨_, a₁, w₁, hq, .of_steps (.one step_scope) harr⟩
  | outgrown => exact ⟨_, a₁, w₁, hq, .of_steps (.one step_scope) harr⟩

theorem amtIn_any (lo n hi : Int) (w : World) : Calls Try.prog 37 #[.int .i64 lo, .int .i64 n, .int .i64 hi] w fun e w' => e = .returned (.bool (inB n lo hi)) ∧ w' = w := by
  by_cases h1 : lo ≤ n
  · by_cases h2 : n ≤ hi
    all_goals
      go_enter Try.func37, Try.ntmps37
      go_wp2
      go_ret
      exact ⟨ret_bool (by unfold inB; simp [h1, h2]), rfl⟩
  · go_enter Try.func37, Try.ntmps37
    go_wp2
    go_ret
    exact ⟨ret_bool (inB_f (by omega)).symm, rfl⟩

theorem isEnough_any (f need : Int) (w : World) (f0 : 0 ≤ f) (f1 : f ≤ 1000000) (n0 : 0 ≤ need) (n1 : need ≤ 2000000) :
    Calls Try.prog 48 #[.int .i64 f, .int .i64 need] w fun e w' => e = .returned (.bool (decide (5 * need ≤ 4 * f))) ∧ w' = w := by
  go_enter Try.func48, Try.ntmps48
  go_wp2_with fail
  go_ret
  exact ⟨ret_bool rfl, rfl⟩

theorem amtWork_any (x : Int) (w : World) : Calls Try.prog 41 #[.int .i64 x] w fun e w' => e = .returned (.bool (inB x 0 1000000)) ∧ w' = w := by
  go_enter Try.func41, Try.ntmps41
  go_wp2_with (go_at_call 42; refine (l1In_any _ _ _ _).mono ?_; rintro e w' ⟨rfl, rfl⟩)
  go_ret
  exact ⟨rfl, rfl⟩

set_option maxHeartbeats 400000 in
theorem areAmounts_any (b cap : Nat) (zs : List Int) (w : World) (hl : zs.length ≤ 1000) (hc : ∀ k, k < zs.length → w.cell? ⟨b, k, none⟩ = some (.int .i64 (zs.getD k 0))) :
    Calls Try.prog 47 #[.slice (some ⟨b, 0, none⟩) zs.length cap] w fun e w' => e = .returned (.bool (zs.all fun z => inB z 0 1000000)) ∧ w' = w := by
  have Hc := hide hc
  clear hc
  go_enter Try.func47, Try.ntmps47
  go_wp2_with fail
  refine wp_scope_all (fun l a' w' => w' = w ∧ ∃ (r : Bool) (k : Nat) (u4 u5 u6 u7 u8 u9 u10 u11 u12 u13 u14 u15 : Value), k ≤ zs.length ∧ a' = { tmps := #[.slice (some ⟨b, 0, none⟩) zs.length cap, undef, .bool r, .int .i64 k, u4, u5, u6, u7, u8, u9, u10, u11, u12, u13, u14, u15], defers := [] } ∧
      ((l = 0 ∧ (zs.all fun z => inB z 0 1000000) = true) ∨ (l = 1 ∧ ((zs.take k).all fun z => inB z 0 1000000) = true) ∨ (l = 2 ∧ (zs.all fun z => inB z 0 1000000) = false))) (fun l a' _ => if l = 1 then zs.length + 1 - (intOf (a'.tmps.getD 3 undef)).toNat else 0) ?_ ?_
  · by_cases hlt : 0 < zs.length
    · have hcell := unhide Hc 0 hlt
      generalize hz : zs.getD 0 0 = z at hcell
      have Hz := hide hz
      clear hz
      cases hp : inB z 0 1000000
      · go_wp2_with fail
        go_step3
        go_wp2_with (go_at_call 37; refine (amtIn_any _ _ _ _).mono ?_; rintro e w' ⟨rfl, rfl⟩)
        go_step3
        exact ⟨rfl, false, 0, _, _, _, _, _, _, _, _, _, _, _, _, Nat.zero_le _, rfl, .inr (.inr ⟨rfl, all_snoc_f hlt (unhide Hz) hp⟩)⟩
      · go_wp2_with fail
        go_step3
        go_wp2_with (go_at_call 37; refine (amtIn_any _ _ _ _).mono ?_; rintro e w' ⟨rfl, rfl⟩)
        go_step3
        exact ⟨rfl, false, 1, _, _, _, _, _, _, _, _, _, _, _, _, hlt, rfl, .inr (.inl ⟨rfl, all_snoc (k := 0) hlt (unhide Hz) (by simp) hp⟩)⟩
    · obtain rfl : zs = [] := List.eq_nil_of_length_eq_zero (by omega)
      go_wp2_with fail
      go_step3
      go_wp2_with fail
      go_step3
      exact ⟨rfl, false, 0, _, _, _, _, _, _, _, _, _, _, _, _, Nat.zero_le _, rfl, .inl ⟨rfl, rfl⟩⟩
  · rintro l a' w' ⟨rfl, r, k, u4, u5, u6, u7, u8, u9, u10, u11, u12, u13, u14, u15, hk, rfl, ⟨rfl, ha⟩ | ⟨rfl, ha⟩ | ⟨rfl, ha⟩⟩
    · refine ⟨_, rfl, ?_⟩
      go_wp2_with fail
      rw [jumps_ret]
      go_ret
      exact ⟨ret_bool ha.symm, rfl⟩
    · refine ⟨_, rfl, ?_⟩
      have Ha := hide ha
      clear ha
      by_cases hlt : k < zs.length
      · have hcell := unhide Hc k hlt
        have hne : ((k : Int) == (zs.length : Int)) = false := by simp; omega
        generalize hz : zs.getD k 0 = z at hcell
        have Hz := hide hz
        clear hz
        cases hp : inB z 0 1000000
        · go_wp2_with (go_at_call 37; refine (amtIn_any _ _ _ _).mono ?_; rintro e w' ⟨rfl, rfl⟩)
          go_step3
          refine ⟨⟨rfl, r, k, _, _, _, _, _, _, _, _, _, _, _, _, hk, rfl, .inr (.inr ⟨rfl, all_snoc_f hlt (unhide Hz) hp⟩)⟩, ?_⟩
          simp [intOf]; omega
        · go_wp2_with (go_at_call 37; refine (amtIn_any _ _ _ _).mono ?_; rintro e w' ⟨rfl, rfl⟩)
          go_step3
          refine ⟨⟨rfl, r, k + 1, _, _, _, _, _, _, _, _, _, _, _, _, hlt, by go_num, .inr (.inl ⟨rfl, all_snoc hlt (unhide Hz) (unhide Ha) hp⟩)⟩, ?_⟩
          simp [intOf]; omega
      · obtain rfl : k = zs.length := by omega
        go_wp2_with fail
        go_step3
        refine ⟨⟨rfl, r, zs.length, _, _, _, _, _, _, _, _, _, _, _, _, hk, rfl, .inl ⟨rfl, ?_⟩⟩, ?_⟩
        · rw [← unhide Ha, List.take_of_length_le (by omega)]
        · simp [intOf]
    · refine ⟨_, rfl, ?_⟩
      go_wp2_with fail
      rw [jumps_ret]
      go_ret
      exact ⟨ret_bool ha.symm, rfl⟩

def amt (x : Int) : Bool := inB x 0 1000000
def fitsB (w u f : Int) : Bool := (amt w && (amt u && amt f)) && decide (5 * (w + u) ≤ 4 * f)
def muchB (u f : Int) : Bool := (amt u && amt f) && !decide (5 * u ≤ 4 * f)
def spareV (u f : Int) : Int := if amt u && amt f then f - u else -1000001

theorem much_dec (u f : Int) : decide (4 * f < 5 * u) = !decide (5 * u ≤ 4 * f) := by
  by_cases h : 5 * u ≤ 4 * f
  · rw [decide_eq_true h, decide_eq_false (by omega)]; rfl
  · rw [decide_eq_false h, decide_eq_true (by omega)]; rfl
theorem amt_of {x : Int} (h : amt x = true) : 0 ≤ x ∧ x ≤ 1000000 := inB_of h
theorem amts2 (x y : Int) : ([x, y].all fun z => inB z 0 1000000) = (amt x && amt y) := by simp [amt]
theorem amts3 (x y z : Int) : ([x, y, z].all fun z => inB z 0 1000000) = (amt x && (amt y && amt z)) := by simp [amt]

theorem implSpareOf_any (u f : Int) (w : World) : Calls Try.prog 25 #[.int .i64 u, .int .i64 f] w fun e w' => e = .returned (.int .i64 (spareV u f)) ∧ Below w.heap.size w w' := by
  cases h : amt u && amt f
  · have hs : spareV u f = -1000001 := by unfold spareV; rw [h]; rfl
    have Hs := hide hs
    go_enter Try.func25, Try.ntmps25
    go_wp2_with fail
    refine (areAmounts_any _ _ [u, f] _ (by simp) ?_).mono ?_
    · intro k hk
      simp at hk
      match k, hk with
      | 0, _ => simp
      | 1, _ => simp
    rintro e w' ⟨rfl, rfl⟩
    rw [amts2, h]
    go_wp2_with fail
    go_ret
    exact ⟨ret_int (unhide Hs).symm, (Below.refl _ _).alloc (Nat.le_refl _) _⟩
  · have hs : spareV u f = f - u := by unfold spareV; rw [h]; rfl
    have Hs := hide hs
    have h' := h
    simp only [Bool.and_eq_true] at h'
    obtain ⟨u0, u1⟩ := amt_of h'.1
    obtain ⟨f0, f1⟩ := amt_of h'.2
    go_enter Try.func25, Try.ntmps25
    go_wp2_with fail
    refine (areAmounts_any _ _ [u, f] _ (by simp) ?_).mono ?_
    · intro k hk
      simp at hk
      match k, hk with
      | 0, _ => simp
      | 1, _ => simp
    rintro e w' ⟨rfl, rfl⟩
    rw [amts2, h]
    go_wp2_with fail
    go_ret
    exact ⟨ret_int (unhide Hs).symm, (Below.refl _ _).alloc (Nat.le_refl _) _⟩

theorem implTooMuch_any (u f : Int) (w : World) : Calls Try.prog 27 #[.int .i64 u, .int .i64 f] w fun e w' => e = .returned (.bool (muchB u f)) ∧ Below w.heap.size w w' := by
  cases h : amt u && amt f
  · have hs : muchB u f = false := by unfold muchB; rw [h]; rfl
    have Hs := hide hs
    go_enter Try.func27, Try.ntmps27
    go_wp2_with fail
    refine (areAmounts_any _ _ [u, f] _ (by simp) ?_).mono ?_
    · intro k hk
      simp at hk
      match k, hk with
      | 0, _ => simp
      | 1, _ => simp
    rintro e w' ⟨rfl, rfl⟩
    rw [amts2, h]
    go_wp2_with fail
    go_ret
    exact ⟨ret_bool (unhide Hs).symm, (Below.refl _ _).alloc (Nat.le_refl _) _⟩
  · have hs : muchB u f = !decide (5 * u ≤ 4 * f) := by unfold muchB; rw [h]; rfl
    have Hs := hide hs
    have h' := h
    simp only [Bool.and_eq_true] at h'
    obtain ⟨u0, u1⟩ := amt_of h'.1
    obtain ⟨f0, f1⟩ := amt_of h'.2
    go_enter Try.func27, Try.ntmps27
    go_wp2_with fail
    refine (areAmounts_any _ _ [u, f] _ (by simp) ?_).mono ?_
    · intro k hk
      simp at hk
      match k, hk with
      | 0, _ => simp
      | 1, _ => simp
    rintro e w' ⟨rfl, rfl⟩
    rw [amts2, h]
    go_wp2_with (go_at_call 48; refine (isEnough_any f u _ f0 f1 u0 (by omega)).mono ?_; rintro e w' ⟨rfl, rfl⟩)
    go_ret
    exact ⟨ret_bool (unhide Hs).symm, (Below.refl _ _).alloc (Nat.le_refl _) _⟩

theorem implFitsIn_any (x u f : Int) (w : World) : Calls Try.prog 23 #[.int .i64 x, .int .i64 u, .int .i64 f] w fun e w' => e = .returned (.bool (fitsB x u f)) ∧ Below w.heap.size w w' := by
  cases h : amt x && (amt u && amt f)
  · have hs : fitsB x u f = false := by unfold fitsB; rw [h]; rfl
    have Hs := hide hs
    go_enter Try.func23, Try.ntmps23
    go_wp2_with fail
    refine (areAmounts_any _ _ [x, u, f] _ (by simp) ?_).mono ?_
    · intro k hk
      simp at hk
      match k, hk with
      | 0, _ => simp
      | 1, _ => simp
      | 2, _ => simp
    rintro e w' ⟨rfl, rfl⟩
    rw [amts3, h]
    go_wp2_with fail
    go_ret
    exact ⟨ret_bool (unhide Hs).symm, (Below.refl _ _).alloc (Nat.le_refl _) _⟩
  · have hs : fitsB x u f = decide (5 * (x + u) ≤ 4 * f) := by unfold fitsB; rw [h]; rfl
    have Hs := hide hs
    have h' := h
    simp only [Bool.and_eq_true] at h'
    obtain ⟨x0, x1⟩ := amt_of h'.1
    obtain ⟨u0, u1⟩ := amt_of h'.2.1
    obtain ⟨f0, f1⟩ := amt_of h'.2.2
    go_enter Try.func23, Try.ntmps23
    go_wp2_with fail
    refine (areAmounts_any _ _ [x, u, f] _ (by simp) ?_).mono ?_
    · intro k hk
      simp at hk
      match k, hk with
      | 0, _ => simp
      | 1, _ => simp
      | 2, _ => simp
    rintro e w' ⟨rfl, rfl⟩
    rw [amts3, h]
    go_wp2_with (go_at_call 48; refine (isEnough_any f (x + u) _ f0 f1 (by omega) (by omega)).mono ?_; rintro e w' ⟨rfl, rfl⟩)
    go_ret
    exact ⟨ret_bool (unhide Hs).symm, (Below.refl _ _).alloc (Nat.le_refl _) _⟩

set_option maxHeartbeats 1000000 in
theorem specFitsIn_any (x u f : Int) (w : World) : Calls Try.prog 26 #[.int .i64 x, .int .i64 u, .int .i64 f] w fun e w' => e = .returned (.bool (fitsB x u f)) ∧ w' = w := by
  cases hx : inB x 0 1000000
  · go_enter Try.func26, Try.ntmps26
    go_wp2_with (go_at_call 41; refine (amtWork_any _ _).mono ?_; rintro e w' ⟨rfl, rfl⟩)
    go_ret
    exact ⟨ret_bool (by simp [fitsB, amt, hx]), rfl⟩
  · cases hu : inB u 0 1000000
    · go_enter Try.func26, Try.ntmps26
      go_wp2_with (go_at_call 41; refine (amtWork_any _ _).mono ?_; rintro e w' ⟨rfl, rfl⟩)
      go_ret
      exact ⟨ret_bool (by simp [fitsB, amt, hx, hu]), rfl⟩
    · cases hf : inB f 0 1000000
      · go_enter Try.func26, Try.ntmps26
        go_wp2_with (go_at_call 41; refine (amtWork_any _ _).mono ?_; rintro e w' ⟨rfl, rfl⟩)
        go_ret
        exact ⟨ret_bool (by simp [fitsB, amt, hx, hu, hf]), rfl⟩
      · obtain ⟨x0, x1⟩ := inB_of hx
        obtain ⟨u0, u1⟩ := inB_of hu
        obtain ⟨f0, f1⟩ := inB_of hf
        go_enter Try.func26, Try.ntmps26
        go_wp2_with (go_at_call 41; refine (amtWork_any _ _).mono ?_; rintro e w' ⟨rfl, rfl⟩)
        go_ret
        exact ⟨ret_bool (by simp [fitsB, amt, hx, hu, hf]), rfl⟩

set_option maxHeartbeats 1000000 in
theorem specTooMuch_any (u f : Int) (w : World) : Calls Try.prog 28 #[.int .i64 u, .int .i64 f] w fun e w' => e = .returned (.bool (muchB u f)) ∧ w' = w := by
  cases hu : inB u 0 1000000
  · go_enter Try.func28, Try.ntmps28
    go_wp2_with (go_at_call 41; refine (amtWork_any _ _).mono ?_; rintro e w' ⟨rfl, rfl⟩)
    go_ret
    exact ⟨ret_bool (by simp [muchB, amt, hu]), rfl⟩
  · cases hf : inB f 0 1000000
    · go_enter Try.func28, Try.ntmps28
      go_wp2_with (go_at_call 41; refine (amtWork_any _ _).mono ?_; rintro e w' ⟨rfl, rfl⟩)
      go_ret
      exact ⟨ret_bool (by simp [muchB, amt, hu, hf]), rfl⟩
    · obtain ⟨u0, u1⟩ := inB_of hu
      obtain ⟨f0, f1⟩ := inB_of hf
      go_enter Try.func28, Try.ntmps28
      go_wp2_with (go_at_call 41; refine (amtWork_any _ _).mono ?_; rintro e w' ⟨rfl, rfl⟩)
      go_ret
      exact ⟨ret_bool (by simp [muchB, amt, hu, hf, much_dec]), rfl⟩

set_option maxHeartbeats 1000000 in
theorem specSpareOf_any (u f : Int) (w : World) : Calls Try.prog 29 #[.int .i64 u, .int .i64 f] w fun e w' => e = .returned (.int .i64 (spareV u f)) ∧ w' = w := by
  cases hu : inB u 0 1000000
  · go_enter Try.func29, Try.ntmps29
    go_wp2_with (go_at_call 41; refine (amtWork_any _ _).mono ?_; rintro e w' ⟨rfl, rfl⟩)
    go_ret
    exact ⟨ret_int (by simp [spareV, amt, hu]), rfl⟩
  · cases hf : inB f 0 1000000
    · go_enter Try.func29, Try.ntmps29
      go_wp2_with (go_at_call 41; refine (amtWork_any _ _).mono ?_; rintro e w' ⟨rfl, rfl⟩)
      go_ret
      exact ⟨ret_int (by simp [spareV, amt, hu, hf]), rfl⟩
    · obtain ⟨u0, u1⟩ := inB_of hu
      obtain ⟨f0, f1⟩ := inB_of hf
      go_enter Try.func29, Try.ntmps29
      go_wp2_with (go_at_call 41; refine (amtWork_any _ _).mono ?_; rintro e w' ⟨rfl, rfl⟩)
      go_ret
      exact ⟨ret_int (by simp [spareV, amt, hu, hf]), rfl⟩

theorem walkFnExactFitsIn (a0 a1 a2 : Int) (w0 : (Lit.int .i64 a0).wf = true) (w1 : (Lit.int .i64 a1).wf = true) (w2 : (Lit.int .i64 a2).wf = true) (w : World) :
    Calls Try.prog 8 #[.int .i64 a0, .int .i64 a1, .int .i64 a2] w fun e w' => e = .returned (.bool true) ∧ Below w.heap.size w w' := by
  go_enter Try.func8, Try.ntmps8
  go_wp2_with (go_at_call 26; refine (specFitsIn_any _ _ _ _).mono ?_; rintro e w' ⟨rfl, rfl⟩)
  refine (implFitsIn_any _ _ _ _).mono ?_
  rintro e w' ⟨rfl, hb⟩
  have Hb := hide hb
  clear hb
  go_wp2_with fail
  go_ret
  exact ⟨rfl, unhide Hb⟩



end Go.Proofs.Ytbekkdneldcehaa
