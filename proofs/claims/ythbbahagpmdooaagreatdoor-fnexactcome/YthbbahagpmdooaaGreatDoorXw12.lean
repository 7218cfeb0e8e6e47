/- Part 12 of what the proof rests on. No condition but those that a theorem names. -/
import Derived.Test.YthbbahagpmdooaaGreatDoorXw11
import Derived.WalkMore
import Derived.Below
set_option maxHeartbeats 8000000
set_option maxRecDepth 100000
namespace Go.Proofs.YthbbahagpmdooaaGreatDoor
open Go.ChangeShapes Go.WideShapes Go.ChangeAt Go.RowKit
set_option linter.unusedVariables false
def jumps (J : Nat → Act → World → Prop) (Q : Exit → Act → World → Prop) : Exit → Act → World → Prop
 | .goto l, a, w => J l a w
 | e, a, w => Q e a w
theorem jumps_ret {J : Nat → Act → World → Prop} {Q : Exit → Act → World → Prop} {a : Act} {w : World} : jumps J Q .ret a w = Q .ret a w := rfl
theorem wp_scope_all {P : Program} {a : Act} {w : World} {Q : Exit → Act → World → Prop} {c : Code} (J : Nat → Act → World → Prop) (μ : Nat → Act → World → Nat)
  (first : c.wp P (jumps J Q) a w)
  (pass : ∀ l a w, J l a w → ∃ rest, findLabel c l = some rest ∧ rest.wp P (jumps (fun l' a' w' => J l' a' w' ∧ μ l' a' w' < μ l a w) Q) a w) : (Code.scope c).wp P Q a w := by
 intro b k cs
 have key : ∀ n l a w, μ l a w = n → J l a w → ∃ rest, findLabel c l = some rest ∧ ∃ e a' w', Q e a' w' ∧ Arrives P (lone (b.at a (.code rest :: .inScope c :: k)) cs w) b k cs e a' w' := by
  intro n
  induction n using Nat.strongRecOn with
  | _ n ih =>
   intro l a w hn hJ
   obtain ⟨rest, hf, hp⟩ := pass l a w hJ
   refine ⟨rest, hf, ?_⟩
   obtain ⟨e, a₁, w₁, hq, harr⟩ := hp b (.inScope c :: k) cs
   cases e with
   | normal => exact ⟨.normal, a₁, w₁, hq, Steps.trans harr (.one step_inScope)⟩
   | exit id => exact ⟨.exit id, a₁, w₁, hq, fun k' hk => harr k' (by simp [exitTo, hk])⟩
   | goto l' =>
    obtain ⟨hJ', hlt⟩ := hq
    obtain ⟨rest', hf', e₂, a₂, w₂, hq₂, harr₂⟩ := ih _ (by omega) l' a₁ w₁ rfl hJ'
    exact ⟨e₂, a₂, w₂, hq₂, .of_steps (harr _ (by simp [gotoIn, hf'])) harr₂⟩
   | ret => exact ⟨_, a₁, w₁, hq, harr⟩
   | panic ch => exact ⟨_, a₁, w₁, hq, harr⟩
   | outgrown => exact ⟨_, a₁, w₁, hq, harr⟩
 obtain ⟨e, a₁, w₁, hq, harr⟩ := first b (.inScope c :: k) cs
 cases e with
 | normal => exact ⟨.normal, a₁, w₁, hq, .head step_scope (Steps.trans harr (.one step_inScope))⟩
 | exit id => exact ⟨.exit id, a₁, w₁, hq, fun k' hk => .head step_scope (harr k' (by simp [exitTo, hk]))⟩
 | goto l' =>
  obtain ⟨rest', hf', e₂, a₂, w₂, hq₂, harr₂⟩ := key _ l' a₁ w₁ rfl hq
  exact ⟨e₂, a₂, w₂, hq₂, .of_steps (.head step_scope (harr _ (by simp [gotoIn, hf']))) harr₂⟩
 | ret => exact ⟨_, a₁, w₁, hq, .of_steps (.one step_scope) harr⟩
 | panic ch => exact ⟨_, a₁, w₁, hq, .of_steps (.one step_scope) harr⟩
 | outgrown => exact ⟨_, a₁, w₁, hq, .of_steps (.one step_scope) harr⟩
theorem amtIn_any (lo n hi : Int) (w : World) : Calls Tryz.prog 189 #[.int .i64 lo, .int .i64 n, .int .i64 hi] w fun e w' => e = .returned (.bool (inB n lo hi)) ∧ w' = w := by
 by_cases h1 : lo ≤ n
 ·by_cases h2 : n ≤ hi
  all_goals
   go_enter Tryz.func189, Tryz.ntmps189
   go_wp2
   go_ret
   exact ⟨ret_bool (by unfold inB; simp [h1, h2]), rfl⟩
 ·go_enter Tryz.func189, Tryz.ntmps189
  go_wp2
  go_ret
  exact ⟨ret_bool (inB_f (by omega)).symm, rfl⟩
theorem isEnough_any (f need : Int) (w : World) (f0 : 0 ≤ f) (f1 : f ≤ 1000000) (n0 : 0 ≤ need) (n1 : need ≤ 2000000) :
  Calls Tryz.prog 340 #[.int .i64 f, .int .i64 need] w fun e w' => e = .returned (.bool (decide (5 * need ≤ 4 * f))) ∧ w' = w := by
 go_enter Tryz.func340, Tryz.ntmps340
 go_wp2_with fail
 go_ret
 exact ⟨ret_bool rfl, rfl⟩
theorem amtWork_any (x : Int) (w : World) : Calls Tryz.prog 178 #[.int .i64 x] w fun e w' => e = .returned (.bool (inB x 0 1000000)) ∧ w' = w := by
 go_enter Tryz.func178, Tryz.ntmps178
 go_wp2_with (go_at_call 56; refine (l1In_any _ _ _ _).mono ?_; rintro e w' ⟨rfl, rfl⟩)
 go_ret
 exact ⟨rfl, rfl⟩
theorem areAmounts_any (b cap : Nat) (zs : List Int) (w : World) (hl : zs.length ≤ 1000) (hc : ∀ k, k < zs.length → w.cell? ⟨b, k, none⟩ = some (.int .i64 (zs.getD k 0))) :
  Calls Tryz.prog 399 #[.slice (some ⟨b, 0, none⟩) zs.length cap] w fun e w' => e = .returned (.bool (zs.all fun z => inB z 0 1000000)) ∧ w' = w := by
 have Hc := hide hc
 clear hc
 go_enter Tryz.func399, Tryz.ntmps399
 go_wp2_with fail
 refine wp_scope_all (fun l a' w' => w' = w ∧ ∃ (r : Bool) (k : Nat) (u4 u5 u6 u7 u8 u9 u10 u11 u12 u13 u14 u15 : Value), k ≤ zs.length ∧ a' = { tmps := #[.slice (some ⟨b, 0, none⟩) zs.length cap, undef, .bool r, .int .i64 k, u4, u5, u6, u7, u8, u9, u10, u11, u12, u13, u14, u15], defers := [] } ∧
   ((l = 0 ∧ (zs.all fun z => inB z 0 1000000) = true) ∨ (l = 1 ∧ ((zs.take k).all fun z => inB z 0 1000000) = true) ∨ (l = 2 ∧ (zs.all fun z => inB z 0 1000000) = false))) (fun l a' _ => if l = 1 then zs.length + 1 - (intOf (a'.tmps.getD 3 undef)).toNat else 0) ?_ ?_
 ·by_cases hlt : 0 < zs.length
  ·have hcell := uh Hc 0 hlt
   generalize hz : zs.getD 0 0 = z at hcell
   have Hz := hide hz
   clear hz
   cases hp : inB z 0 1000000
   ·go_wp2_with fail
    go_step3
    go_wp2_with (go_at_call 189; refine (amtIn_any _ _ _ _).mono ?_; rintro e w' ⟨rfl, rfl⟩)
    go_step3
    exact ⟨rfl, false, 0, _, _, _, _, _, _, _, _, _, _, _, _, Nat.zero_le _, rfl, .inr (.inr ⟨rfl, all_snoc_f hlt (uh Hz) hp⟩)⟩
   ·go_wp2_with fail
    go_step3
    go_wp2_with (go_at_call 189; refine (amtIn_any _ _ _ _).mono ?_; rintro e w' ⟨rfl, rfl⟩)
    go_step3
    exact ⟨rfl, false, 1, _, _, _, _, _, _, _, _, _, _, _, _, hlt, rfl, .inr (.inl ⟨rfl, all_snoc (k := 0) hlt (uh Hz) (by simp) hp⟩)⟩
  ·obtain rfl : zs = [] := List.eq_nil_of_length_eq_zero (by omega)
   go_wp2_with fail
   go_step3
   go_wp2_with fail
   go_step3
   exact ⟨rfl, false, 0, _, _, _, _, _, _, _, _, _, _, _, _, Nat.zero_le _, rfl, .inl ⟨rfl, rfl⟩⟩
 ·rintro l a' w' ⟨rfl, r, k, u4, u5, u6, u7, u8, u9, u10, u11, u12, u13, u14, u15, hk, rfl, ⟨rfl, ha⟩ | ⟨rfl, ha⟩ | ⟨rfl, ha⟩⟩
  ·refine ⟨_, rfl, ?_⟩
   go_wp2_with fail
   rw [jumps_ret]
   go_ret
   exact ⟨ret_bool ha.symm, rfl⟩
  ·refine ⟨_, rfl, ?_⟩
   have Ha := hide ha
   clear ha
   by_cases hlt : k < zs.length
   ·have hcell := uh Hc k hlt
    have hne : ((k : Int) == (zs.length : Int)) = false := by simp; omega
    generalize hz : zs.getD k 0 = z at hcell
    have Hz := hide hz
    clear hz
    cases hp : inB z 0 1000000
    ·go_wp2_with (go_at_call 189; refine (amtIn_any _ _ _ _).mono ?_; rintro e w' ⟨rfl, rfl⟩)
     go_step3
     refine ⟨⟨rfl, r, k, _, _, _, _, _, _, _, _, _, _, _, _, hk, rfl, .inr (.inr ⟨rfl, all_snoc_f hlt (uh Hz) hp⟩)⟩, ?_⟩
     simp [intOf]; omega
    ·go_wp2_with (go_at_call 189; refine (amtIn_any _ _ _ _).mono ?_; rintro e w' ⟨rfl, rfl⟩)
     go_step3
     refine ⟨⟨rfl, r, k + 1, _, _, _, _, _, _, _, _, _, _, _, _, hlt, by go_num, .inr (.inl ⟨rfl, all_snoc hlt (uh Hz) (uh Ha) hp⟩)⟩, ?_⟩
     simp [intOf]; omega
   ·obtain rfl : k = zs.length := by omega
    go_wp2_with fail
    go_step3
    refine ⟨⟨rfl, r, zs.length, _, _, _, _, _, _, _, _, _, _, _, _, hk, rfl, .inl ⟨rfl, ?_⟩⟩, ?_⟩
    ·rw [← uh Ha, List.take_of_length_le (by omega)]
    ·simp [intOf]
  ·refine ⟨_, rfl, ?_⟩
   go_wp2_with fail
   rw [jumps_ret]
   go_ret
   exact ⟨ret_bool ha.symm, rfl⟩
def amt (x : Int) : Bool := inB x 0 1000000
def fitsB (w u f : Int) : Bool := (amt w && (amt u && amt f)) && decide (5 * (w + u) ≤ 4 * f)
def muchB (u f : Int) : Bool := (amt u && amt f) && !decide (5 * u ≤ 4 * f)
def spareV (u f : Int) : Int := if amt u && amt f then f - u else -1000001
theorem much_dec (u f : Int) : decide (4 * f < 5 * u) = !decide (5 * u ≤ 4 * f) := by
 by_cases h : 5 * u ≤ 4 * f
 ·rw [decide_eq_true h, decide_eq_false (by omega)]; rfl
 ·rw [decide_eq_false h, decide_eq_true (by omega)]; rfl
theorem amt_of {x : Int} (h : amt x = true) : 0 ≤ x ∧ x ≤ 1000000 := inB_of h
theorem amts2 (x y : Int) : ([x, y].all fun z => inB z 0 1000000) = (amt x && amt y) := by simp [amt]
theorem amts3 (x y z : Int) : ([x, y, z].all fun z => inB z 0 1000000) = (amt x && (amt y && amt z)) := by simp [amt]
theorem implSpareOf_any (u f : Int) (w : World) : Calls Tryz.prog 397 #[.int .i64 u, .int .i64 f] w fun e w' => e = .returned (.int .i64 (spareV u f)) ∧ Below w.heap.size w w' := by
 cases h : amt u && amt f
 ·have hs : spareV u f = -1000001 := by unfold spareV; rw [h]; rfl
  have Hs := hide hs
  go_enter Tryz.func397, Tryz.ntmps397
  go_wp2_with fail
  refine (areAmounts_any _ _ [u, f] _ (by simp) ?_).mono ?_
  ·intro k hk
   simp at hk
   match k, hk with
   | 0, _ => simp
   | 1, _ => simp
  rintro e w' ⟨rfl, rfl⟩
  rw [amts2, h]
  go_wp2_with fail
  go_ret
  exact ⟨ret_int (uh Hs).symm, (Below.refl _ _).alloc (Nat.le_refl _) _⟩
 ·have hs : spareV u f = f - u := by unfold spareV; rw [h]; rfl
  have Hs := hide hs
  have h' := h
  simp only [Bool.and_eq_true] at h'
  obtain ⟨u0, u1⟩ := amt_of h'.1
  obtain ⟨f0, f1⟩ := amt_of h'.2
  go_enter Tryz.func397, Tryz.ntmps397
  go_wp2_with fail
  refine (areAmounts_any _ _ [u, f] _ (by simp) ?_).mono ?_
  ·intro k hk
   simp at hk
   match k, hk with
   | 0, _ => simp
   | 1, _ => simp
  rintro e w' ⟨rfl, rfl⟩
  rw [amts2, h]
  go_wp2_with fail
  go_ret
  exact ⟨ret_int (uh Hs).symm, (Below.refl _ _).alloc (Nat.le_refl _) _⟩
theorem implTooMuch_any (u f : Int) (w : World) : Calls Tryz.prog 396 #[.int .i64 u, .int .i64 f] w fun e w' => e = .returned (.bool (muchB u f)) ∧ Below w.heap.size w w' := by
 cases h : amt u && amt f
 ·have hs : muchB u f = false := by unfold muchB; rw [h]; rfl
  have Hs := hide hs
  go_enter Tryz.func396, Tryz.ntmps396
  go_wp2_with fail
  refine (areAmounts_any _ _ [u, f] _ (by simp) ?_).mono ?_
  ·intro k hk
   simp at hk
   match k, hk with
   | 0, _ => simp
   | 1, _ => simp
  rintro e w' ⟨rfl, rfl⟩
  rw [amts2, h]
  go_wp2_with fail
  go_ret
  exact ⟨ret_bool (uh Hs).symm, (Below.refl _ _).alloc (Nat.le_refl _) _⟩
 ·have hs : muchB u f = !decide (5 * u ≤ 4 * f) := by unfold muchB; rw [h]; rfl
  have Hs := hide hs
  have h' := h
  simp only [Bool.and_eq_true] at h'
  obtain ⟨u0, u1⟩ := amt_of h'.1
  obtain ⟨f0, f1⟩ := amt_of h'.2
  go_enter Tryz.func396, Tryz.ntmps396
  go_wp2_with fail
  refine (areAmounts_any _ _ [u, f] _ (by simp) ?_).mono ?_
  ·intro k hk
   simp at hk
   match k, hk with
   | 0, _ => simp
   | 1, _ => simp
  rintro e w' ⟨rfl, rfl⟩
  rw [amts2, h]
  go_wp2_with (go_at_call 340; refine (isEnough_any f u _ f0 f1 u0 (by omega)).mono ?_; rintro e w' ⟨rfl, rfl⟩)
  go_ret
  exact ⟨ret_bool (uh Hs).symm, (Below.refl _ _).alloc (Nat.le_refl _) _⟩
theorem implFitsIn_any (x u f : Int) (w : World) : Calls Tryz.prog 398 #[.int .i64 x, .int .i64 u, .int .i64 f] w fun e w' => e = .returned (.bool (fitsB x u f)) ∧ Below w.heap.size w w' := by
 cases h : amt x && (amt u && amt f)
 ·have hs : fitsB x u f = false := by unfold fitsB; rw [h]; rfl
  have Hs := hide hs
  go_enter Tryz.func398, Tryz.ntmps398
  go_wp2_with fail
  refine (areAmounts_any _ _ [x, u, f] _ (by simp) ?_).mono ?_
  ·intro k hk
   simp at hk
   match k, hk with
   | 0, _ => simp
   | 1, _ => simp
   | 2, _ => simp
  rintro e w' ⟨rfl, rfl⟩
  rw [amts3, h]
  go_wp2_with fail
  go_ret
  exact ⟨ret_bool (uh Hs).symm, (Below.refl _ _).alloc (Nat.le_refl _) _⟩
 ·have hs : fitsB x u f = decide (5 * (x + u) ≤ 4 * f) := by unfold fitsB; rw [h]; rfl
  have Hs := hide hs
  have h' := h
  simp only [Bool.and_eq_true] at h'
  obtain ⟨x0, x1⟩ := amt_of h'.1
  obtain ⟨u0, u1⟩ := amt_of h'.2.1
  obtain ⟨f0, f1⟩ := amt_of h'.2.2
  go_enter Tryz.func398, Tryz.ntmps398
  go_wp2_with fail
  refine (areAmounts_any _ _ [x, u, f] _ (by simp) ?_).mono ?_
  ·intro k hk
   simp at hk
   match k, hk with
   | 0, _ => simp
   | 1, _ => simp
   | 2, _ => simp
  rintro e w' ⟨rfl, rfl⟩
  rw [amts3, h]
  go_wp2_with (go_at_call 340; refine (isEnough_any f (x + u) _ f0 f1 (by omega) (by omega)).mono ?_; rintro e w' ⟨rfl, rfl⟩)
  go_ret
  exact ⟨ret_bool (uh Hs).symm, (Below.refl _ _).alloc (Nat.le_refl _) _⟩
theorem specFitsIn_any (x u f : Int) (w : World) : Calls Tryz.prog 174 #[.int .i64 x, .int .i64 u, .int .i64 f] w fun e w' => e = .returned (.bool (fitsB x u f)) ∧ w' = w := by
 cases hx : inB x 0 1000000
 ·go_enter Tryz.func174, Tryz.ntmps174
  go_wp2_with (go_at_call 178; refine (amtWork_any _ _).mono ?_; rintro e w' ⟨rfl, rfl⟩)
  go_ret
  exact ⟨ret_bool (by simp [fitsB, amt, hx]), rfl⟩
 ·cases hu : inB u 0 1000000
  ·go_enter Tryz.func174, Tryz.ntmps174
   go_wp2_with (go_at_call 178; refine (amtWork_any _ _).mono ?_; rintro e w' ⟨rfl, rfl⟩)
   go_ret
   exact ⟨ret_bool (by simp [fitsB, amt, hx, hu]), rfl⟩
  ·cases hf : inB f 0 1000000
   ·go_enter Tryz.func174, Tryz.ntmps174
    go_wp2_with (go_at_call 178; refine (amtWork_any _ _).mono ?_; rintro e w' ⟨rfl, rfl⟩)
    go_ret
    exact ⟨ret_bool (by simp [fitsB, amt, hx, hu, hf]), rfl⟩
   ·obtain ⟨x0, x1⟩ := inB_of hx
    obtain ⟨u0, u1⟩ := inB_of hu
    obtain ⟨f0, f1⟩ := inB_of hf
    go_enter Tryz.func174, Tryz.ntmps174
    go_wp2_with (go_at_call 178; refine (amtWork_any _ _).mono ?_; rintro e w' ⟨rfl, rfl⟩)
    go_ret
    exact ⟨ret_bool (by simp [fitsB, amt, hx, hu, hf]), rfl⟩
theorem specTooMuch_any (u f : Int) (w : World) : Calls Tryz.prog 176 #[.int .i64 u, .int .i64 f] w fun e w' => e = .returned (.bool (muchB u f)) ∧ w' = w := by
 cases hu : inB u 0 1000000
 ·go_enter Tryz.func176, Tryz.ntmps176
  go_wp2_with (go_at_call 178; refine (amtWork_any _ _).mono ?_; rintro e w' ⟨rfl, rfl⟩)
  go_ret
  exact ⟨ret_bool (by simp [muchB, amt, hu]), rfl⟩
 ·cases hf : inB f 0 1000000
  ·go_enter Tryz.func176, Tryz.ntmps176
   go_wp2_with (go_at_call 178; refine (amtWork_any _ _).mono ?_; rintro e w' ⟨rfl, rfl⟩)
   go_ret
   exact ⟨ret_bool (by simp [muchB, amt, hu, hf]), rfl⟩
  ·obtain ⟨u0, u1⟩ := inB_of hu
   obtain ⟨f0, f1⟩ := inB_of hf
   go_enter Tryz.func176, Tryz.ntmps176
   go_wp2_with (go_at_call 178; refine (amtWork_any _ _).mono ?_; rintro e w' ⟨rfl, rfl⟩)
   go_ret
   exact ⟨ret_bool (by simp [muchB, amt, hu, hf, much_dec]), rfl⟩
theorem specSpareOf_any (u f : Int) (w : World) : Calls Tryz.prog 116 #[.int .i64 u, .int .i64 f] w fun e w' => e = .returned (.int .i64 (spareV u f)) ∧ w' = w := by
 cases hu : inB u 0 1000000
 ·go_enter Tryz.func116, Tryz.ntmps116
  go_wp2_with (go_at_call 178; refine (amtWork_any _ _).mono ?_; rintro e w' ⟨rfl, rfl⟩)
  go_ret
  exact ⟨ret_int (by simp [spareV, amt, hu]), rfl⟩
 ·cases hf : inB f 0 1000000
  ·go_enter Tryz.func116, Tryz.ntmps116
   go_wp2_with (go_at_call 178; refine (amtWork_any _ _).mono ?_; rintro e w' ⟨rfl, rfl⟩)
   go_ret
   exact ⟨ret_int (by simp [spareV, amt, hu, hf]), rfl⟩
  ·obtain ⟨u0, u1⟩ := inB_of hu
   obtain ⟨f0, f1⟩ := inB_of hf
   go_enter Tryz.func116, Tryz.ntmps116
   go_wp2_with (go_at_call 178; refine (amtWork_any _ _).mono ?_; rintro e w' ⟨rfl, rfl⟩)
   go_ret
   exact ⟨ret_int (by simp [spareV, amt, hu, hf]), rfl⟩
open Go.ChangeShapes Go.WideShapes Go.ChangeAt Go.RowKit Go.Sort
def wantS (gs : List GuildV) (s : SmithV) : Int := min (max s.2.2.2.2.2.2.2.2.2.1 (narV (bnd gs s.2.2.2.2.1) s.2.2.2.2.2.1 s.2.2.2.2.2.2.1).1) (narV (bnd gs s.2.2.2.2.1) s.2.2.2.2.2.1 s.2.2.2.2.2.2.1).2
def wantV (m : SmyV) (who : Int) : Int := wantS m.guilds (recAt m.smiths who.toNat)
theorem wantS_bd (gs : List GuildV) (s : SmithV) : 0 ≤ wantS gs s ∧ wantS gs s ≤ 1024 := by
 obtain ⟨b0, b1, b2⟩ := bnd_bd gs s.2.2.2.2.1
 obtain ⟨n0, n1, n2⟩ := narV_bd (lo := s.2.2.2.2.2.1) (hi := s.2.2.2.2.2.2.1) b0 b1 b2
 unfold wantS
 omega
theorem wantV_bd (m : SmyV) (who : Int) : 0 ≤ wantV m who ∧ wantV m who ≤ 1024 := wantS_bd _ _
def usedL (m : SmyV) (but : Int) (q : List PaceV) : Int := q.foldl (fun n e => if e.2 = but then n else n + wantV m e.2) 0
theorem usedL_snoc (m : SmyV) (but : Int) (q : List PaceV) (e : PaceV) : usedL m but (q ++ [e]) = if e.2 = but then usedL m but q else usedL m but q + wantV m e.2 := by
 unfold usedL; rw [List.foldl_append]; rfl
theorem usedF_bd (m : SmyV) (but : Int) : ∀ (q : List PaceV) (n : Int), 0 ≤ n → 0 ≤ q.foldl (fun n e => if e.2 = but then n else n + wantV m e.2) n ∧ q.foldl (fun n e => if e.2 = but then n else n + wantV m e.2) n ≤ n + 1024 * q.length
 | [], n, h => ⟨h, by simp⟩
 | e :: q, n, h => by
  have hw := wantV_bd m e.2
  have ih := usedF_bd m but q (if e.2 = but then n else n + wantV m e.2) (by split <;> omega)
  refine ⟨ih.1, Int.le_trans ih.2 ?_⟩
  simp only [List.length_cons, Int.natCast_add, Int.natCast_one]
  split <;> omega
theorem usedL_bd (m : SmyV) (but : Int) (q : List PaceV) : 0 ≤ usedL m but q ∧ usedL m but q ≤ 1024 * q.length := by
 have := usedF_bd m but q 0 (by omega)
 unfold usedL; omega
def usedV (m : SmyV) (b but : Int) : Int := usedL m but (atV m.smiths b m.smiths.length)
theorem usedV_bd (m : SmyV) (b but : Int) : 0 ≤ usedV m b but ∧ usedV m b but ≤ 1024 * m.smiths.length := by
 have h := usedL_bd m but (atV m.smiths b m.smiths.length)
 have hl := atV_len m.smiths b m.smiths.length
 unfold usedV
 refine ⟨h.1, Int.le_trans h.2 ?_⟩
 omega
def usedIn (m : SmyV) (room : Int) : Nat → Int × Int
 | 0 => (0, 0)
 | k + 1 => if (roomN m.rooms k : Int) = room then ((if (recAt m.desks k).1 then max (usedIn m room k).1 (usedV m k (-1)) else (usedIn m room k).1), (usedIn m room k).2 + usedV m k (-1)) else usedIn m room k
theorem usedIn_bd (m : SmyV) (room : Int) (hl : m.smiths.length ≤ 12) : ∀ k : Nat, (0 ≤ (usedIn m room k).1 ∧ (usedIn m room k).1 ≤ 12288) ∧ 0 ≤ (usedIn m room k).2 ∧ (usedIn m room k).2 ≤ 12288 * k
 | 0 => by simp [usedIn]
 | k + 1 => by
  have ih := usedIn_bd m room hl k
  have hu := usedV_bd m k (-1)
  unfold usedIn
  split
  ·simp only
   constructor
   ·split <;> omega
   ·push_cast; omega
  ·push_cast; omega
def coalIn (m : SmyV) (room : Nat) : Int := leastV (roomAt m.rooms room) (usedIn m room m.desks.length).1 (usedIn m room m.desks.length).2
def coalTo (m : SmyV) : Nat → Int
 | 0 => 0
 | k + 1 => coalTo m k + coalIn m k
def coalAll (m : SmyV) : Int := coalTo m m.rooms.length
theorem coalTo_bd (m : SmyV) : ∀ k : Nat, -(k : Int) ≤ coalTo m k ∧ coalTo m k ≤ 1024000000 * k
 | 0 => by simp [coalTo]
 | k + 1 => by
  have ih := coalTo_bd m k
  have hc := coalForV_bd (roomAt m.rooms k) (paceForV (roomAt m.rooms k) (usedIn m k m.desks.length).1) (usedIn m k m.desks.length).2
  unfold coalTo coalIn leastV
  push_cast
  omega
def atBench (s : SmithV) (b : Int) : SmithV := (2, b, s.2.2)
def withM (m : SmyV) (who b : Int) : SmyV := { m with smiths := m.smiths.set who.toNat (atBench (recAt m.smiths who.toNat) b) }
def coalWithV (m : SmyV) (who b : Int) : Int := coalAll (withM m who b)
def mayAt (m : SmyV) (who : Int) (b : Nat) : Bool := (recAt m.desks b).1 && bitB (recAt m.smiths who.toNat).2.2.2.1 b
def fitAt (m : SmyV) (who : Int) (b : Nat) : Bool := mayAt m who b && fitsB (wantV m who) (usedV m b who) (forceV m.rooms b)
def fitTo (m : SmyV) (who : Int) : Nat → List Int
 | 0 => []
 | k + 1 => if fitAt m who k then fitTo m who k ++ [(k : Int)] else fitTo m who k
def fittingL (m : SmyV) (who : Int) : List Int := fitTo m who m.desks.length
theorem fitTo_len (m : SmyV) (who : Int) : ∀ k, (fitTo m who k).length ≤ k
 | 0 => Nat.le_refl _
 | k + 1 => by
  have := fitTo_len m who k
  unfold fitTo
  split
  ·simp; omega
  ·omega
theorem fitTo_mem (m : SmyV) (who : Int) (x : Int) : ∀ k, x ∈ fitTo m who k ↔ ∃ b : Nat, b < k ∧ x = (b : Int) ∧ fitAt m who b = true
 | 0 => by simp [fitTo]
 | k + 1 => by
  have ih := fitTo_mem m who x k
  unfold fitTo
  split
  ·rename_i hf
   rw [List.mem_append, ih]
   constructor
   ·rintro (⟨b, hb, e, h⟩ | h)
    ·exact ⟨b, by omega, e, h⟩
    ·exact ⟨k, by omega, by simpa using h, hf⟩
   ·rintro ⟨b, hb, e, h⟩
    by_cases hbk : b = k
    ·subst hbk; right; simp [e]
    ·left; exact ⟨b, by omega, e, h⟩
  ·rename_i hf
   rw [ih]
   constructor
   ·rintro ⟨b, hb, e, h⟩
    exact ⟨b, by omega, e, h⟩
   ·rintro ⟨b, hb, e, h⟩
    by_cases hbk : b = k
    ·subst hbk; exact absurd h hf
    ·exact ⟨b, by omega, e, h⟩
def crowdAt (m : SmyV) (b : Nat) : Bool := (recAt m.desks b).1 && muchB (usedV m b (-1)) (forceV m.rooms b)
def crowdB (m : SmyV) : Bool := (List.range m.desks.length).any (crowdAt m)
def stepBest (m : SmyV) (who : Int) (a : Int × Int) (b : Int) : Int × Int := if coalWithV m who b < a.2 ∨ (coalWithV m who b = a.2 ∧ b = (recAt m.smiths who.toNat).2.1) then (b, coalWithV m who b) else a
def bestTo (m : SmyV) (who : Int) (f : List Int) (k : Nat) : Int × Int := ((f.take k).drop 1).foldl (stepBest m who) (recAt f 0, coalWithV m who (recAt f 0))
def mostTo (m : SmyV) (who : Int) : Nat → Int × Int
 | 0 => (-1, 0)
 | k + 1 => if mayAt m who k && (decide ((mostTo m who k).1 < 0) || decide ((mostTo m who k).2 < spareV (usedV m k who) (forceV m.rooms k))) then ((k : Int), spareV (usedV m k who) (forceV m.rooms k)) else mostTo m who k
def chosenV (m : SmyV) (who : Int) : Int := if !crowdB m && decide (0 < (fittingL m who).length) then (bestTo m who (fittingL m who) (fittingL m who).length).1 else (mostTo m who m.desks.length).1
theorem best_mem (m : SmyV) (who : Int) (P : Int → Prop) : ∀ (f : List Int) (a : Int × Int), P a.1 → (∀ x ∈ f, P x) → P (f.foldl (stepBest m who) a).1
 | [], a, h, _ => h
 | b :: f, a, h, hf => by
  refine best_mem m who P f (stepBest m who a b) ?_ (fun x hx => hf x (List.mem_cons_of_mem _ hx))
  unfold stepBest
  split
  ·exact hf b (by simp)
  ·exact h
theorem most_or (m : SmyV) (who : Int) : ∀ k : Nat, ((mostTo m who k).1 = -1 ∧ ∀ b, b < k → mayAt m who b = false) ∨ ∃ b : Nat, b < k ∧ (mostTo m who k).1 = (b : Int) ∧ mayAt m who b = true
 | 0 => .inl ⟨rfl, fun b hb => by omega⟩
 | k + 1 => by
  have ih := most_or m who k
  unfold mostTo
  split
  ·rename_i h
   simp only [Bool.and_eq_true] at h
   exact .inr ⟨k, by omega, rfl, h.1⟩
  ·rename_i h
   rcases ih with ⟨e, hn⟩ | ⟨b, hb, e, hm⟩
   ·refine .inl ⟨e, fun b hb => ?_⟩
    by_cases hbk : b = k
    ·subst hbk
     cases hm : mayAt m who b
     ·rfl
     ·exfalso
      apply h
      rw [hm, e]
      rfl
    ·exact hn b (by omega)
   ·exact .inr ⟨b, by omega, e, hm⟩
theorem chosen_or (m : SmyV) (who : Int) : (chosenV m who = -1 ∧ ∀ b, b < m.desks.length → mayAt m who b = false) ∨ ∃ b : Nat, b < m.desks.length ∧ chosenV m who = (b : Int) ∧ mayAt m who b = true := by
 unfold chosenV
 split
 ·rename_i h
  simp only [Bool.and_eq_true, decide_eq_true_eq] at h
  right
  have hin : ∀ x ∈ fittingL m who, ∃ b : Nat, b < m.desks.length ∧ x = (b : Int) ∧ mayAt m who b = true := by
   intro x hx
   obtain ⟨b, hb, e, hf⟩ := (fitTo_mem m who x m.desks.length).1 hx
   unfold fitAt at hf
   simp only [Bool.and_eq_true] at hf
   exact ⟨b, hb, e, hf.1⟩
  unfold bestTo
  exact best_mem m who (fun x => ∃ b : Nat, b < m.desks.length ∧ x = (b : Int) ∧ mayAt m who b = true) _ _ (hin _ (recAt_mem h.2)) (fun x hx => hin x (List.mem_of_mem_take (List.mem_of_mem_drop hx)))
 ·exact most_or m who m.desks.length
theorem presB_mk {st be rk my gu lo hi hd ca ut wk : Int} (h0 : 1 ≤ st ∧ st ≤ 3) (h1 : 0 ≤ be ∧ be ≤ 7) (h2 : inB rk (-5) 5 = true) (h3 : 1 ≤ my ∧ my ≤ 255) (h4 : -1 ≤ gu ∧ gu ≤ 5) (h5 : pairB lo hi = true) (h6 : -1000000000000 ≤ hd ∧ hd ≤ 1000000000000) (h7 : 0 ≤ ca ∧ ca ≤ weightV rk - 1) (h8 : 0 ≤ ut ∧ ut ≤ 1024) (h9 : 0 ≤ wk ∧ wk ≤ 100000000000) :
  presB (st, be, rk, my, gu, lo, hi, hd, ca, ut, wk) = true := by
 unfold presB
 simp only [Bool.and_eq_true]
 exact ⟨inB_t h0.1 h0.2, inB_t h1.1 h1.2, h2, inB_t h3.1 h3.2, inB_t h4.1 h4.2, h5, inB_t h6.1 h6.2, inB_t h7.1 h7.2, inB_t h8.1 h8.2, inB_t h9.1 h9.2⟩
theorem here_iff {m : SmyV} {s : SmithV} : hereB m s = true ↔ s = zeroS ∨ (presB s = true ∧ s.2.2.2.2.1 < m.guilds.length ∧ s.2.1 < m.desks.length) := by
 unfold hereB smithB
 simp only [Bool.and_eq_true, Bool.or_eq_true, decide_eq_true_eq]
 constructor
 ·rintro ⟨hg | hp, hr⟩
  ·exact .inl (goneB_of hg)
  ·right
   refine ⟨hp, ?_⟩
   rcases hr with e | e
   ·have : s.1 = 0 := by simpa using e
    rw [presB_st this] at hp
    cases hp
   ·exact e
 ·rintro (rfl | ⟨hp, hr⟩)
  ·exact ⟨.inl goneB_zero, .inl rfl⟩
  ·exact ⟨.inr hp, .inr hr⟩
theorem seat_away {m : SmyV} {s : SmithV} (h : presS s = false) : seatB m s = true := by unfold seatB; rw [h]; rfl
theorem seat_mk {m : SmyV} {s : SmithV} (h1 : (recAt m.desks s.2.1.toNat).1 = true) (h2 : bitB s.2.2.2.1 s.2.1 = true) (h3 : bandB (hadS s) (recAt m.desks s.2.1.toNat).2.2 = true) : seatB m s = true := by
 unfold seatB
 rw [h1, h2, show s.2.2.2.2.2.2.2.1 = hadS s from rfl, h3]
 simp
theorem smy_loose {m : SmyV} (h : smyB m = true) : Loose m := by
 unfold smyB at h
 simp only [Bool.and_eq_true] at h
 exact loose_of h.1
def setS (m : SmyV) (k : Nat) (s : SmithV) : SmyV := { m with smiths := m.smiths.set k s }
theorem Loose.setS {m : SmyV} (h : Loose m) {k : Nat} (hk : k < m.smiths.length) {s : SmithV} (h1 : hereB m s = true) (h2 : seatB m s = true) : Loose (setS m k s) := by
 refine ⟨?_, h.desk, h.pace, ?_, ?_, h.openD⟩
 ·have := h.head
  unfold headB at this ⊢
  unfold Go.Proofs.YthbbahagpmdooaaGreatDoor.setS
  simpa using this
 ·intro i hi
  have hi' : i < m.smiths.length := by unfold Go.Proofs.YthbbahagpmdooaaGreatDoor.setS at hi; simpa using hi
  show hereB (Go.Proofs.YthbbahagpmdooaaGreatDoor.setS m k s) (recAt (m.smiths.set k s) i) = true
  rw [hereB_same (m := m) (m' := Go.Proofs.YthbbahagpmdooaaGreatDoor.setS m k s) rfl rfl, recAt_set hk]
  split
  ·exact h1
  ·exact h.here i hi'
 ·intro i hi
  have hi' : i < m.smiths.length := by unfold Go.Proofs.YthbbahagpmdooaaGreatDoor.setS at hi; simpa using hi
  show seatB m (recAt (m.smiths.set k s) i) = true
  rw [recAt_set hk]
  split
  ·exact h2
  ·exact h.seat i hi'
theorem recAt_push {α : Type} [Inhabited α] (xs : List α) (x : α) (i : Nat) : recAt (xs ++ [x]) i = if i = xs.length then x else recAt xs i := by
 unfold recAt
 split
 ·rename_i h; subst h; simp [List.getD]
 ·rename_i h
  rcases Nat.lt_or_ge i xs.length with hi | hi
  ·simp [List.getD, List.getElem?_append_left hi]
  ·simp [List.getD, List.getElem?_append_right hi, List.getElem?_eq_none hi]
   rw [List.getElem?_eq_none (by simp; omega)]
   rfl
def pushS (m : SmyV) (s : SmithV) : SmyV := { m with smiths := m.smiths ++ [s] }
theorem Loose.pushS {m : SmyV} (h : Loose m) (hl : m.smiths.length < 12) {s : SmithV} (h1 : hereB m s = true) (h2 : seatB m s = true) : Loose (pushS m s) := by
 refine ⟨?_, h.desk, h.pace, ?_, ?_, h.openD⟩
 ·have := h.head
  unfold headB at this ⊢
  unfold Go.Proofs.YthbbahagpmdooaaGreatDoor.pushS
  simp only [Bool.and_eq_true, decide_eq_true_eq] at this ⊢
  refine ⟨this.1, this.2.1, ?_, this.2.2.2⟩
  simp
  omega
 ·intro i hi
  have hi' : i < m.smiths.length + 1 := by unfold Go.Proofs.YthbbahagpmdooaaGreatDoor.pushS at hi; simpa using hi
  show hereB (Go.Proofs.YthbbahagpmdooaaGreatDoor.pushS m s) (recAt (m.smiths ++ [s]) i) = true
  rw [hereB_same (m := m) (m' := Go.Proofs.YthbbahagpmdooaaGreatDoor.pushS m s) rfl rfl, recAt_push]
  split
  ·exact h1
  ·exact h.here i (by omega)
 ·intro i hi
  have hi' : i < m.smiths.length + 1 := by unfold Go.Proofs.YthbbahagpmdooaaGreatDoor.pushS at hi; simpa using hi
  show seatB m (recAt (m.smiths ++ [s]) i) = true
  rw [recAt_push]
  split
  ·exact h2
  ·exact h.seat i (by omega)
def mark (m : SmyV) (b : Int) : Int := (recAt m.desks b.toNat).2.2
def sitS (s : SmithV) (b had : Int) : SmithV := (2, b, s.2.2.1, s.2.2.2.1, s.2.2.2.2.1, s.2.2.2.2.2.1, s.2.2.2.2.2.2.1, had, s.2.2.2.2.2.2.2.2)
def newS (rank may guild : Int) : SmithV := (1, 0, rank, may, guild, 0, 1024, 0, 0, 0, 0)
theorem bench_few {m : SmyV} (h : Loose m) : m.desks.length ≤ 8 := by
 have := h.head
 unfold headB at this
 simp only [Bool.and_eq_true, decide_eq_true_eq] at this
 have h8 := (hallB_of this.1).2.2.2
 omega
theorem Loose.limits {m : SmyV} (h : Loose m) {k : Nat} (hk : k < m.smiths.length) (hs : (recAt m.smiths k).1 ≠ 0) : presB (recAt m.smiths k) = true ∧ (recAt m.smiths k).2.2.2.2.1 < m.guilds.length ∧ (recAt m.smiths k).2.1 < m.desks.length := by
 rcases here_iff.1 (h.here k hk) with e | e
 ·rw [e] at hs; exact absurd rfl hs
 ·exact e
theorem keep_sit {m : SmyV} {s : SmithV} {b : Nat} {had : Int} (h : Loose m) (hp : presB s = true) (hg : s.2.2.2.2.1 < m.guilds.length) (hb : b < m.desks.length) (ho : (recAt m.desks b).1 = true) (hm : bitB s.2.2.2.1 b = true) (hd : bandB had (recAt m.desks b).2.2 = true) :
  hereB m (sitS s b had) = true ∧ seatB m (sitS s b had) = true := by
 have h8 := bench_few h
 obtain ⟨st, be, rk, my, gu, lo', hi', hd', ca, ut, wk⟩ := s
 obtain ⟨x0, x1, x2, x3, x4, x5, x6, x7, x8, x9⟩ := presB_of hp
 obtain ⟨d0, d1, _⟩ := bandB_of hd
 refine ⟨here_iff.2 (.inr ⟨presB_mk (by omega) ⟨by omega, by omega⟩ x2 x3 x4 x5 ⟨d0, d1⟩ x7 x8 x9, hg, ?_⟩), ?_⟩
 ·show (b : Int) < _; omega
 ·exact seat_mk (m := m) (s := sitS (st, be, rk, my, gu, lo', hi', hd', ca, ut, wk) b had) (by show (recAt m.desks ((b : Int)).toNat).1 = true; simpa using ho) hm (by show bandB had (recAt m.desks ((b : Int)).toNat).2.2 = true; simpa using hd)
theorem addr_to (g o i : Nat) : (⟨g, o, none⟩ : Addr).add i = ⟨g, o + i, none⟩ := by unfold Addr.add; split <;> simp_all
theorem parts_of {e k bytes : Nat} {z : Value} (h : (Tryz.prog.info? e).map (fun i => (i.zero, i.size, i.bytes)) = some (some z, k, bytes)) : ∃ i, Tryz.prog.info? e = some i ∧ i.zero = some z ∧ i.size = k ∧ i.bytes = bytes := by
 cases hi : Tryz.prog.info? e with
 | none => rw [hi] at h; cases h
 | some i =>
  rw [hi] at h
  simp only [Option.map_some, Option.some.injEq, Prod.mk.injEq] at h
  exact ⟨i, rfl, h.1, h.2.1, h.2.2⟩
theorem run_append_none {w : World} {base t ty e size n : Nat} {i : TypeInfo} (ht : Tryz.prog.underlying t = some (.slice e)) (hi : Tryz.prog.info? e = some i) {v : Value} {xs : List Value} (hown : w.ownsRow base e size v n xs) (a : Option Addr) (c : Nat) :
  (Builtin.append_ #[t, t] ty #[v, .slice a 0 c]).run Tryz.prog w = .ok v w := by
 rcases hown.2 with ⟨rfl, rfl⟩ | ⟨g, cap, cur, rfl, _, _, hnc, _⟩
 ·cases a <;> simp [Builtin.append_, run_underlying ht, sizeOf, typeInfo, hi, Builtin.lenOf, Builtin.firstCells, loadCells, loadCellsFrom]
 ·cases a <;> simp [Builtin.append_, run_underlying ht, sizeOf, typeInfo, hi, Builtin.lenOf, Builtin.firstCells, hnc, storeCells, loadCells, loadCellsFrom]
structure RecTy {α : Type} (e k : Nat) (z : Value) (enc : α → List Value) : Prop where
 info : (Tryz.prog.info? e).map (fun i => (i.zero, i.size, i.bytes)) = some (some z, k, 8 * k)
 zero : z.cells.size = k
 len : ∀ x, (enc x).length = k
 pos : 0 < k
 few : k ≤ 100
 one : ∀ x, ∀ u ∈ enc x, u.oneCell' = true
section
variable {α : Type} {e k : Nat} {enc : α → List Value}
theorem flat_one (hone : ∀ x : α, ∀ u ∈ enc x, u.oneCell' = true) (qs : List α) : ∀ u ∈ flat enc qs, u.oneCell' = true := fun u hu => by
 unfold flat at hu
 obtain ⟨p, _, hp⟩ := List.mem_flatMap.1 hu
 exact hone p u hp
theorem recs_empty {B g : Nat} {w : World} (hg : g = w.heap.size) (hB : B ≤ g) : RecAt e k enc B (w.alloc (.cells #[] e)) (.slice (some ⟨g, 0, none⟩) 0 0) [] := by
 subst hg
 exact ⟨by simp [flat], .inr ⟨_, 0, #[], rfl, hB, heap_alloc_new w _, Nat.le_refl _, Nat.zero_le _, by simp, by simp [flat]⟩⟩
end
section
variable {α : Type} [Inhabited α] {e k : Nat} {enc : α → List Value} {z : Value}
theorem rec_cells (hk : ∀ x, (enc x).length = k) (h0 : 0 < k) {w : World} {b off : Nat} {qs : List α} (h : ∀ j, j < qs.length → ∀ i u, (enc (recAt qs j))[i]? = some u → w.cell? ⟨b, off + j * k + i, none⟩ = some u) :
  ∀ (j : Nat) (u : Value), (flat enc qs)[j]? = some u → w.cell? ((⟨b, off, none⟩ : Addr).add j) = some u := fun j u hj => by
 have hlt : j < qs.length * k := by
  rcases Nat.lt_or_ge j (qs.length * k) with h | h
  ·exact h
  ·rw [List.getElem?_eq_none (by rw [flat_len hk]; exact h)] at hj; cases hj
 have hd : j / k < qs.length := (Nat.div_lt_iff_lt_mul h0).2 hlt
 have hr : j % k < k := Nat.mod_lt _ h0
 have he : j = j / k * k + j % k := by rw [Nat.mul_comm]; exact (Nat.div_add_mod j k).symm
 rw [addr_to]
 rw [he, flat_get hk qs (j / k) hd (j % k) hr] at hj
 have := h (j / k) hd (j % k) u hj
 rw [Nat.add_assoc, ← he] at this
 exact this
theorem run_append_recs (T : RecTy e k z enc) {w : World} {base t ty : Nat} (ht : Tryz.prog.underlying t = some (.slice e)) {v x : Value} {ps qs : List α} (hown : RecAt e k enc base w v ps) (hx : IsRec k enc w x qs) (hb : ps.length + qs.length ≤ 4000) (hbase : base ≤ w.heap.size) :
  ∃ v' w', (Builtin.append_ #[t, t] ty #[v, x]).run Tryz.prog w = .ok v' w' ∧ RecAt e k enc base w' v' (ps ++ qs) ∧ w.grownBy w' v.ownBlock ∧ (v'.ownBlock = v.ownBlock ∨ v'.ownBlock = some w.heap.size) := by
 obtain ⟨i0, hi, hz0, hz1, hz2⟩ := parts_of T.info
 obtain ⟨a, c, rfl, hc, hm, hr⟩ := hx
 by_cases h0 : qs = []
 ·subst h0
  refine ⟨v, w, run_append_none ht hi hown a c, by simpa using hown, grown_refl _ _, .inl rfl⟩
 ·rcases hr with hr | ⟨b, off, rfl, hlt, hcl⟩
  ·exact absurd hr h0
  ·have hk := T.few
   have hmul : (ps.length + qs.length) * (8 * k) ≤ 4000 * 800 := Nat.mul_le_mul hb (by omega)
   obtain ⟨v', w', hr, h2, h3, _, h5⟩ := run_append_own_at (P := Tryz.prog) w base t ty e i0 z k (8 * k) ht hi hz0 hz1 hz2 T.zero T.pos v ps.length _ hown ⟨b, off, none⟩ qs.length c (flat enc qs) (flat_len T.len qs)
    (rec_cells T.len T.pos hcl) (flat_one T.one qs) (by simp only [maxLen]; omega) (by omega) hbase
   refine ⟨v', w', hr, ?_, h3, h5⟩
   unfold RecAt
   rw [flat_append, List.length_append]
   exact h2
theorem wpList_append_recs (T : RecTy e k z enc) {w : World} {ops : Array Oper} {rest : List Oper} {o : Oper} {a : Act} {Q : Exit → Act → World → Prop} (hgd : o.guard = none) (s x : Operand) (t : TypeId) (ht : Tryz.prog.underlying t = some (.slice e))
  (ho : o.op = .call { callee := .builtin .append, args := #[s, x], argTypes := #[t, t] }) (base : Nat) (v u : Value) (ps qs : List α) (hs : a.eval s = v) (hx : a.eval x = u) (hown : RecAt e k enc base w v ps) (hr : IsRec k enc w u qs)
  (hb : ps.length + qs.length ≤ 4000) (hbase : base ≤ w.heap.size)
  (h : ∀ v' w', RecAt e k enc base w' v' (ps ++ qs) → w.grownBy w' v.ownBlock → (v'.ownBlock = v.ownBlock ∨ v'.ownBlock = some w.heap.size) → wpList Tryz.prog ops Q rest (a.put o.dst v') w') :
  wpList Tryz.prog ops Q (o :: rest) a w := by
 refine wpList_plain hgd fun K hK => ?_
 obtain ⟨v', w', hrun, h2, h3, h5⟩ := run_append_recs T (ty := o.type) ht hown hr hb hbase
 unfold Oper.wp execOp
 simp only [ho, resolve, invoke, builtin, Sem.run_bind, Sem.run_pure, Result.andThen_ok, List.map_toArray, List.map_cons, List.map_nil, hs, hx, hrun]
 exact hK _ _ (h v' w' h2 h3 h5)
theorem recs_one {w : World} (x : α) {g c : Nat} (hg : g = w.heap.size) (hc : 1 ≤ c) (hc2 : c ≤ 4000) : IsRec k enc (w.alloc (.cells (enc x).toArray e)) (.slice (some ⟨g, 0, none⟩) 1 c) [x] := by
 subst hg
 refine ⟨_, c, rfl, hc, by omega, .inr ⟨_, 0, rfl, by simp, fun j hj i u hu => ?_⟩⟩
 obtain rfl : j = 0 := by simpa using hj
 rw [Nat.zero_mul, Nat.zero_add, World.cell?_alloc_at _ _ _ _ rfl]
 have hr : recAt [x] 0 = x := rfl
 rw [hr] at hu
 simpa using hu
theorem flat_set1 (hk : ∀ x, (enc x).length = k) (h0 : 0 < k) (xs : List α) {j i : Nat} (hj : j < xs.length) (hi : i < k) (u : Value) (x : α) (hx : enc x = (enc (recAt xs j)).set i u) : (flat enc xs).set (j * k + i) u = flat enc (xs.set j x) := by
 have hl := flat_len hk xs
 have hjk : j * k + k ≤ xs.length * k := by rw [← Nat.succ_mul]; exact Nat.mul_le_mul_right k hj
 apply List.ext_getElem?
 intro m
 by_cases hm : m < xs.length * k
 ·have hd : m / k < xs.length := (Nat.div_lt_iff_lt_mul h0).2 hm
  have hr : m % k < k := Nat.mod_lt _ h0
  have he : m = m / k * k + m % k := by rw [Nat.mul_comm]; exact (Nat.div_add_mod m k).symm
  have hg := flat_get hk (xs.set j x) (m / k) (by simpa using hd) (m % k) hr
  have hg0 := flat_get hk xs (m / k) hd (m % k) hr
  rw [← he] at hg hg0
  rw [hg, recAt_set hj]
  by_cases e : m / k = j
  ·rw [if_pos e, hx]
   by_cases ei : m % k = i
   ·have hmi : m = j * k + i := by rw [← e, ← ei]; exact he
    rw [ei, hmi, List.getElem?_set_self (by rw [hl]; omega), List.getElem?_set_self (by rw [hk]; exact hi)]
   ·have hmi : j * k + i ≠ m := by rw [← e]; omega
    rw [List.getElem?_set_ne hmi, List.getElem?_set_ne (Ne.symm ei), hg0, e]
  ·rw [if_neg e, List.getElem?_set_ne, hg0]
   intro h
   apply e
   rw [← h]
   exact Nat.div_eq_of_lt_le (Nat.le_add_right _ _) (by rw [Nat.succ_mul]; omega)
 ·rw [List.getElem?_eq_none (by simp; omega), List.getElem?_eq_none (by rw [flat_len hk]; simp; omega)]
theorem RecAt.put1 (hk : ∀ x, (enc x).length = k) (h0 : 0 < k) {t n₀ n cap g : Nat} {w : World} {xs : List α} (h : RecAt t k enc n₀ w (.slice (some ⟨g, 0, none⟩) n cap) xs) (hn : n = xs.length) {j i : Nat} (hj : j < xs.length) (hi : i < k) (u : Value) (x : α) (hx : enc x = (enc (recAt xs j)).set i u) :
  RecAt t k enc n₀ (w.setCell ⟨g, j * k + i, none⟩ u) (.slice (some ⟨g, 0, none⟩) n cap) (xs.set j x) ∧ w.grownBy (w.setCell ⟨g, j * k + i, none⟩ u) (some g) := by
 subst hn
 obtain ⟨h1, h2⟩ := World.ownsRow.stored h (j * k + i) u
 rw [flat_set1 hk h0 xs hj hi u x hx] at h1
 refine ⟨?_, h2⟩
 unfold RecAt
 rw [List.length_set]
 exact h1
end
end Go.Proofs.YthbbahagpmdooaaGreatDoor
