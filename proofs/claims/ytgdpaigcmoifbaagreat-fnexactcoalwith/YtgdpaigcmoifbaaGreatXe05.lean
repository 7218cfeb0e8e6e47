/- Part 5 of what the proof rests on. No condition but those that a theorem names. -/
import Derived.Test.YtgdpaigcmoifbaaGreatXe01
import Derived.Deep.QuietTactic
import Derived.BigQuiet
import Derived.Laws.OwnMore
import Derived.WalkMore
import Derived.Below
set_option maxHeartbeats 8000000
set_option maxRecDepth 100000
namespace Go.Proofs.YtgdpaigcmoifbaaGreat
open Go.ChangeShapes Go.WideShapes Go.ChangeAt Go.RowKit Go.Proofs.Tryz
set_option linter.unusedVariables false
def IntsAt (n₀ : Nat) (w : World) (v : Value) (zs : List Int) : Prop := w.ownsRow n₀ 2 1 v zs.length (zs.map (Value.int .i64))
theorem IntsAt.view {n₀ : Nat} {w : World} {v : Value} {zs : List Int} (h : IntsAt n₀ w v zs) :
  ∃ (a : Option Addr) (cap : Nat), v = .slice a zs.length cap ∧ zs.length ≤ 9223372036854775807 ∧ (zs = [] ∨ ∃ g, a = some ⟨g, 0, none⟩ ∧ n₀ ≤ g ∧ g < w.heap.size ∧
   (∀ k, k < zs.length → w.cell? ⟨g, k, none⟩ = some (.int .i64 (zs.getD k 0))) ∧ (∀ k, w.frozen? ⟨g, k, none⟩ = false)) := by
 have h' := h
 rcases h.2 with ⟨rfl, hz⟩ | ⟨g, cap, cur, rfl, hb, hg, hnc, hcm, r⟩
 ·exact ⟨none, 0, by rw [hz], by omega, .inl (List.eq_nil_of_length_eq_zero hz)⟩
 ·refine ⟨_, cap, rfl, by unfold maxLen at hcm; omega, .inr ⟨g, rfl, hb, (Array.getElem?_eq_some_iff.1 hg).1, fun k hk => ?_, fun k => World.ownsRow.frozenAt h' k⟩⟩
  rw [World.ownsRow.cellAt h' k (by omega)]
  simp [List.getElem?_eq_getElem hk]
theorem grownBy_trans {a b c : World} {row : Option Nat} (h : a.grownBy b row) (k : b.grownBy c row) : a.grownBy c row :=
 ⟨k.os.trans h.os, k.tape.trans h.tape, k.output.trans h.output, alNlt h.size k.size, fun i hi hn => (k.block i (alNll hi h.size) hn).trans (h.block i hi hn)⟩
theorem grownBy_refl (a : World) (row : Option Nat) : a.grownBy a row := ⟨rfl, rfl, rfl, alNlr _, fun _ _ _ => rfl⟩
theorem IntsAt.stored {n₀ : Nat} {w : World} {g n cap : Nat} {zs : List Int} (h : IntsAt n₀ w (.slice (some ⟨g, 0, none⟩) n cap) zs) (hn : zs.length = n) (j : Nat) (u : Int) :
  IntsAt n₀ (w.setCell ⟨g, j, none⟩ (.int .i64 u)) (.slice (some ⟨g, 0, none⟩) n cap) (zs.set j u) ∧ w.grownBy (w.setCell ⟨g, j, none⟩ (.int .i64 u)) (some g) := by
 subst hn
 have := World.ownsRow.stored h j (.int .i64 u)
 refine ⟨?_, this.2⟩
 unfold IntsAt
 rw [alLls, List.map_set]
 exact this.1
def marks (k : Int) (n : Nat) : List Int := (List.range n).map fun i : Nat => k + (i : Int)
theorem marks_len (k : Int) (n : Nat) : (marks k n).length = n := by simp [marks]
theorem marks_get (k : Int) (n i : Nat) (h : i < n) : (marks k n).getD i 0 = k + i := by simp [marks, h]
def marked (zs : List Int) (k : Int) (j : Nat) : List Int := marks k j ++ zs.drop j
theorem marked_len {zs : List Int} {k : Int} {j : Nat} (h : j ≤ zs.length) : (marked zs k j).length = zs.length := by simp [marked, marks_len]; omega
theorem marked_succ {zs : List Int} {k : Int} {j : Nat} (h : j < zs.length) : (marked zs k j).set j (k + j) = marked zs k (j + 1) := by
 unfold marked
 rw [List.set_append_right _ _ (by simp [marks_len]), marks_len, Nat.sub_self, List.drop_eq_getElem_cons h, List.set_cons_zero]
 simp [marks, List.range_succ]
theorem marked_all (zs : List Int) (k : Int) : marked zs k zs.length = marks k zs.length := by simp [marked]
theorem markInts_any {n₀ : Nat} {w : World} {v : Value} {zs : List Int} (k : Int) (hv : IntsAt n₀ w v zs) (hk0 : 0 ≤ k) (hk1 : k ≤ 1000000000000000) (hl : zs.length ≤ 1000000000) :
  Calls prog 46 #[v, .int .i64 k] w fun e w' => e = .returned (.int .i64 (k + zs.length)) ∧ IntsAt n₀ w' v (marks k zs.length) ∧ w.grownBy w' v.ownBlock := by
 have hv0 := hide hv
 obtain ⟨a, cap, rfl, hlen, hca⟩ := hv.view
 clear hv
 go_enter func46, ntmps46
 go_wp2_with fail
 go_loopw [5, 1] (fun i q wr => ∃ j : Nat, j ≤ zs.length ∧ i = .int .i64 j ∧ q = .int .i64 (k + j) ∧ IntsAt n₀ wr (.slice a zs.length cap) (marked zs k j) ∧ w.grownBy wr (Value.ownBlock (.slice a zs.length cap))) (fun i _ _ => zs.length - (intOf i).toNat)
 case atStart => exact ⟨0, alNzl _, rfl, by simp, uh hv0, grownBy_refl _ _⟩
 case round =>
  obtain ⟨j, hj, rfl, rfl, hin, hgr⟩ := hrel
  by_cases hlt : j < zs.length
  ·rcases hca with rfl | ⟨g, rfl, _, _, _, _⟩
   ·simp at hlt
   obtain ⟨hs1, hs2⟩ := hin.stored (marked_len hj) j (k + j)
   rw [marked_succ hlt] at hs1
   have H1 := hide hs1
   have H2 := hide (grownBy_trans hgr hs2)
   have hfz := World.ownsRow.frozenAt (show wr.ownsRow n₀ 2 1 (.slice (some ⟨g, 0, none⟩) (marked zs k j).length cap) (marked zs k j).length _ by rw [marked_len hj]; have h9 := hin; unfold IntsAt at h9; rwa [marked_len hj] at h9) j
   have hcl : ∃ c, wr.cell? ⟨g, j, none⟩ = some c := by
    have h9 := hin
    unfold IntsAt at h9
    rw [marked_len hj] at h9
    have := World.ownsRow.cellAt h9 j (by omega)
    rw [List.getElem?_eq_getElem (by simp [marked_len hj]; omega)] at this
    exact ⟨_, this⟩
   obtain ⟨c, hcl⟩ := hcl
   clear hin hgr hs1 hs2
   go_wp2_with fail
   go_roundw
   case rel => exact ⟨j + 1, by omega, by go_num, by go_num, uh H1, uh H2⟩
   case measure => exact ms
  ·obtain rfl : j = zs.length := by omega
   rw [marked_all] at hin
   go_wp2_with fail
   go_ret
   exact ⟨rfl, hin, hgr⟩
theorem heldInts_yes {n₀ : Nat} {w : World} {v : Value} (k : Int) (n : Nat) (hv : IntsAt n₀ w v (marks k n)) (hk0 : 0 ≤ k) (hk1 : k ≤ 1000000000000000) (hl : n ≤ 1000000000) :
  cE 47 #[v, .int .i64 k] w (.int .i64 (k + n)) := by
 obtain ⟨a, cap, rfl, hlen, hca⟩ := hv.view
 clear hv
 rw [marks_len] at *
 go_enter func47, ntmps47
 go_wp2_with fail
 go_loop [5, 1] (fun i q => ∃ j : Nat, j ≤ n ∧ i = .int .i64 j ∧ q = .int .i64 (k + j)) (fun i _ => n - (intOf i).toNat)
 case atStart => exact ⟨0, alNzl _, rfl, by simp⟩
 case round =>
  obtain ⟨j, hj, rfl, rfl⟩ := hrel
  by_cases hlt : j < n
  ·rcases hca with hz | ⟨g, rfl, _, _, hc, _⟩
   ·have := congrArg List.length hz; rw [marks_len] at this; simp at this; omega
   have h1 := hc j hlt
   rw [marks_get k n j hlt] at h1
   clear hc
   go_wp2_with fail
   go_round
   case rel => exact ⟨j + 1, by omega, by go_num, by go_num⟩
   case measure => exact ms
  ·obtain rfl : j = n := by omega
   go_wp2_with fail
   go_ret
   exact ⟨rfl, rfl⟩
def jumps (J : Nat → Act → World → Prop) (Q : Exit → Act → World → Prop) : Exit → Act → World → Prop
 | .goto l, a, w => J l a w
 | e, a, w => Q e a w
theorem jumps_ret {J : Nat → Act → World → Prop} {Q : Exit → Act → World → Prop} {a : Act} {w : World} : jumps J Q .ret a w = Q .ret a w := rfl
theorem wp_scope_all {P : Program} {a : Act} {w : World} {Q : Exit → Act → World → Prop} {c : Code} (J : Nat → Act → World → Prop) (μ : Nat → Act → World → Nat)
  (first : c.wp P (jumps J Q) a w)
  (pass : ∀ l a w, J l a w → ∃ rest, findLabel c l = some rest ∧ rest.wp P (jumps (fun l' a' w' => J l' a' w' ∧ μ l' a' w' < μ l a w) Q) a w) : (Code.scope c).wp P Q a w := by
 intro b k cs
 have key : ∀ n l a w, μ l a w = n → J l a w → ∃ rest, findLabel c l = some rest ∧ ∃ e a' w', Q e a' w' ∧ Arrives P (lone (b.at a (.code rest :: .inScope c :: k)) cs w) b k cs e a' w' := by
  intro n
  induction n using Nat.strongRecOn with
  | _ n ih =>
   intro l a w hn hJ
   obtain ⟨rest, hf, hp⟩ := pass l a w hJ
   refine ⟨rest, hf, ?_⟩
   obtain ⟨e, a₁, w₁, hq, harr⟩ := hp b (.inScope c :: k) cs
   cases e with
   | normal => exact ⟨.normal, a₁, w₁, hq, Steps.trans harr (.one step_inScope)⟩
   | exit id => exact ⟨.exit id, a₁, w₁, hq, fun k' hk => harr k' (by simp [exitTo, hk])⟩
   | goto l' =>
    obtain ⟨hJ', hlt⟩ := hq
    obtain ⟨rest', hf', e₂, a₂, w₂, hq₂, harr₂⟩ := ih _ (by omega) l' a₁ w₁ rfl hJ'
    exact ⟨e₂, a₂, w₂, hq₂, .of_steps (harr _ (by simp [gotoIn, hf'])) harr₂⟩
   | ret => exact ⟨_, a₁, w₁, hq, harr⟩
   | panic ch => exact ⟨_, a₁, w₁, hq, harr⟩
   | outgrown => exact ⟨_, a₁, w₁, hq, harr⟩
 obtain ⟨e, a₁, w₁, hq, harr⟩ := first b (.inScope c :: k) cs
 cases e with
 | normal => exact ⟨.normal, a₁, w₁, hq, .head step_scope (Steps.trans harr (.one step_inScope))⟩
 | exit id => exact ⟨.exit id, a₁, w₁, hq, fun k' hk => .head step_scope (harr k' (by simp [exitTo, hk]))⟩
 | goto l' =>
  obtain ⟨rest', hf', e₂, a₂, w₂, hq₂, harr₂⟩ := key _ l' a₁ w₁ rfl hq
  exact ⟨e₂, a₂, w₂, hq₂, .of_steps (.head step_scope (harr _ (by simp [gotoIn, hf']))) harr₂⟩
 | ret => exact ⟨_, a₁, w₁, hq, .of_steps (.one step_scope) harr⟩
 | panic ch => exact ⟨_, a₁, w₁, hq, .of_steps (.one step_scope) harr⟩
 | outgrown => exact ⟨_, a₁, w₁, hq, .of_steps (.one step_scope) harr⟩
theorem amtIn_any (lo n hi : Int) (w : World) : cE 219 #[.int .i64 lo, .int .i64 n, .int .i64 hi] w (.bool (inB n lo hi)) := by
 by_cases h1 : lo ≤ n
 ·by_cases h2 : n ≤ hi
  all_goals
   go_enter func219, ntmps219
   go_wp2
   go_ret
   exact ⟨ret_bool (by unfold inB; simp [h1, h2]), rfl⟩
 ·go_enter func219, ntmps219
  go_wp2
  go_ret
  exact ⟨ret_bool (inB_f (by omega)).symm, rfl⟩
theorem isEnough_any (f need : Int) (w : World) (f0 : 0 ≤ f) (f1 : f ≤ 1000000) (n0 : 0 ≤ need) (n1 : need ≤ 2000000) :
  cE 320 #[.int .i64 f, .int .i64 need] w (.bool (decide (5 * need ≤ 4 * f))) := by
 go_enter func320, ntmps320
 go_wp2_with fail
 go_ret
 exact ⟨ret_bool rfl, rfl⟩
theorem amtWork_any (x : Int) (w : World) : cE 78 #[.int .i64 x] w (.bool (inB x 0 1000000)) := by
 go_enter func78, ntmps78
 go_wp2_with (go_at_call 129; refine (l1In_any _ _ _ _).mono ?_; rintro e w' ⟨rfl, rfl⟩)
 go_ret
 exact ⟨rfl, rfl⟩
theorem areAmounts_any (b cap : Nat) (zs : List Int) (w : World) (hl : zs.length ≤ 1000) (hc : ∀ k, k < zs.length → w.cell? ⟨b, k, none⟩ = some (.int .i64 (zs.getD k 0))) :
  cE 365 #[.slice (some ⟨b, 0, none⟩) zs.length cap] w (.bool (zs.all fun z => inB z 0 1000000)) := by
 have Hc := hide hc
 clear hc
 go_enter func365, ntmps365
 go_wp2_with fail
 refine wp_scope_all (fun l a' w' => w' = w ∧ ∃ (r : Bool) (k : Nat) (u4 u5 u6 u7 u8 u9 u10 u11 u12 u13 u14 u15 : Value), k ≤ zs.length ∧ a' = { tmps := #[.slice (some ⟨b, 0, none⟩) zs.length cap, undef, .bool r, .int .i64 k, u4, u5, u6, u7, u8, u9, u10, u11, u12, u13, u14, u15], defers := [] } ∧
   ((l = 0 ∧ (zs.all fun z => inB z 0 1000000) = true) ∨ (l = 1 ∧ ((zs.take k).all fun z => inB z 0 1000000) = true) ∨ (l = 2 ∧ (zs.all fun z => inB z 0 1000000) = false))) (fun l a' _ => if l = 1 then zs.length + 1 - (intOf (a'.tmps.getD 3 undef)).toNat else 0) ?_ ?_
 ·by_cases hlt : 0 < zs.length
  ·have hcell := uh Hc 0 hlt
   generalize hz : zs.getD 0 0 = z at hcell
   have Hz := hide hz
   clear hz
   cases hp : inB z 0 1000000
   ·go_wp2_with fail
    go_step3
    go_wp2_with (go_at_call 219; refine (amtIn_any _ _ _ _).mono ?_; rintro e w' ⟨rfl, rfl⟩)
    go_step3
    exact ⟨rfl, false, 0, _, _, _, _, _, _, _, _, _, _, _, _, alNzl _, rfl, .inr (.inr ⟨rfl, all_snoc_f hlt (uh Hz) hp⟩)⟩
   ·go_wp2_with fail
    go_step3
    go_wp2_with (go_at_call 219; refine (amtIn_any _ _ _ _).mono ?_; rintro e w' ⟨rfl, rfl⟩)
    go_step3
    exact ⟨rfl, false, 1, _, _, _, _, _, _, _, _, _, _, _, _, hlt, rfl, .inr (.inl ⟨rfl, all_snoc (k := 0) hlt (uh Hz) (by simp) hp⟩)⟩
  ·obtain rfl : zs = [] := List.eq_nil_of_length_eq_zero (by omega)
   go_wp2_with fail
   go_step3
   go_wp2_with fail
   go_step3
   exact ⟨rfl, false, 0, _, _, _, _, _, _, _, _, _, _, _, _, alNzl _, rfl, .inl ⟨rfl, rfl⟩⟩
 ·rintro l a' w' ⟨rfl, r, k, u4, u5, u6, u7, u8, u9, u10, u11, u12, u13, u14, u15, hk, rfl, ⟨rfl, ha⟩ | ⟨rfl, ha⟩ | ⟨rfl, ha⟩⟩
  ·refine ⟨_, rfl, ?_⟩
   go_wp2_with fail
   rw [jumps_ret]
   go_ret
   exact ⟨ret_bool ha.symm, rfl⟩
  ·refine ⟨_, rfl, ?_⟩
   have Ha := hide ha
   clear ha
   by_cases hlt : k < zs.length
   ·have hcell := uh Hc k hlt
    have hne : ((k : Int) == (zs.length : Int)) = false := by simp; omega
    generalize hz : zs.getD k 0 = z at hcell
    have Hz := hide hz
    clear hz
    cases hp : inB z 0 1000000
    ·go_wp2_with (go_at_call 219; refine (amtIn_any _ _ _ _).mono ?_; rintro e w' ⟨rfl, rfl⟩)
     go_step3
     refine ⟨⟨rfl, r, k, _, _, _, _, _, _, _, _, _, _, _, _, hk, rfl, .inr (.inr ⟨rfl, all_snoc_f hlt (uh Hz) hp⟩)⟩, ?_⟩
     simp [intOf]; omega
    ·go_wp2_with (go_at_call 219; refine (amtIn_any _ _ _ _).mono ?_; rintro e w' ⟨rfl, rfl⟩)
     go_step3
     refine ⟨⟨rfl, r, k + 1, _, _, _, _, _, _, _, _, _, _, _, _, hlt, by go_num, .inr (.inl ⟨rfl, all_snoc hlt (uh Hz) (uh Ha) hp⟩)⟩, ?_⟩
     simp [intOf]; omega
   ·obtain rfl : k = zs.length := by omega
    go_wp2_with fail
    go_step3
    refine ⟨⟨rfl, r, zs.length, _, _, _, _, _, _, _, _, _, _, _, _, hk, rfl, .inl ⟨rfl, ?_⟩⟩, ?_⟩
    ·rw [← uh Ha, List.take_of_length_le (by omega)]
    ·simp [intOf]
  ·refine ⟨_, rfl, ?_⟩
   go_wp2_with fail
   rw [jumps_ret]
   go_ret
   exact ⟨ret_bool ha.symm, rfl⟩
def amt (x : Int) : Bool := inB x 0 1000000
def fitsB (w u f : Int) : Bool := (amt w && (amt u && amt f)) && decide (5 * (w + u) ≤ 4 * f)
def muchB (u f : Int) : Bool := (amt u && amt f) && !decide (5 * u ≤ 4 * f)
def spareV (u f : Int) : Int := if amt u && amt f then f - u else -1000001
theorem much_dec (u f : Int) : decide (4 * f < 5 * u) = !decide (5 * u ≤ 4 * f) := by
 by_cases h : 5 * u ≤ 4 * f
 ·rw [decide_eq_true h, decide_eq_false (by omega)]; rfl
 ·rw [decide_eq_false h, decide_eq_true (by omega)]; rfl
theorem amt_of {x : Int} (h : amt x = true) : 0 ≤ x ∧ x ≤ 1000000 := inB_of h
theorem amts2 (x y : Int) : ([x, y].all fun z => inB z 0 1000000) = (amt x && amt y) := by simp [amt]
theorem amts3 (x y z : Int) : ([x, y, z].all fun z => inB z 0 1000000) = (amt x && (amt y && amt z)) := by simp [amt]
theorem implSpareOf_any (u f : Int) (w : World) : cB 363 #[.int .i64 u, .int .i64 f] w (.int .i64 (spareV u f)) := by
 cases h : amt u && amt f
 ·have hs : spareV u f = -1000001 := by unfold spareV; rw [h]; rfl
  have Hs := hide hs
  go_enter func363, ntmps363
  go_wp2_with fail
  refine (areAmounts_any _ _ [u, f] _ (by simp) ?_).mono ?_
  ·intro k hk
   simp at hk
   match k, hk with
   | 0, _ => simp
   | 1, _ => simp
  rintro e w' ⟨rfl, rfl⟩
  rw [amts2, h]
  go_wp2_with fail
  go_ret
  exact ⟨ret_int (uh Hs).symm, (ba _ _)⟩
 ·have hs : spareV u f = f - u := by unfold spareV; rw [h]; rfl
  have Hs := hide hs
  have h' := h
  simp only [alBae] at h'
  obtain ⟨u0, u1⟩ := amt_of h'.1
  obtain ⟨f0, f1⟩ := amt_of h'.2
  go_enter func363, ntmps363
  go_wp2_with fail
  refine (areAmounts_any _ _ [u, f] _ (by simp) ?_).mono ?_
  ·intro k hk
   simp at hk
   match k, hk with
   | 0, _ => simp
   | 1, _ => simp
  rintro e w' ⟨rfl, rfl⟩
  rw [amts2, h]
  go_wp2_with fail
  go_ret
  exact ⟨ret_int (uh Hs).symm, (ba _ _)⟩
theorem implTooMuch_any (u f : Int) (w : World) : cB 362 #[.int .i64 u, .int .i64 f] w (.bool (muchB u f)) := by
 cases h : amt u && amt f
 ·have hs : muchB u f = false := by unfold muchB; rw [h]; rfl
  have Hs := hide hs
  go_enter func362, ntmps362
  go_wp2_with fail
  refine (areAmounts_any _ _ [u, f] _ (by simp) ?_).mono ?_
  ·intro k hk
   simp at hk
   match k, hk with
   | 0, _ => simp
   | 1, _ => simp
  rintro e w' ⟨rfl, rfl⟩
  rw [amts2, h]
  go_wp2_with fail
  go_ret
  exact ⟨ret_bool (uh Hs).symm, (ba _ _)⟩
 ·have hs : muchB u f = !decide (5 * u ≤ 4 * f) := by unfold muchB; rw [h]; rfl
  have Hs := hide hs
  have h' := h
  simp only [alBae] at h'
  obtain ⟨u0, u1⟩ := amt_of h'.1
  obtain ⟨f0, f1⟩ := amt_of h'.2
  go_enter func362, ntmps362
  go_wp2_with fail
  refine (areAmounts_any _ _ [u, f] _ (by simp) ?_).mono ?_
  ·intro k hk
   simp at hk
   match k, hk with
   | 0, _ => simp
   | 1, _ => simp
  rintro e w' ⟨rfl, rfl⟩
  rw [amts2, h]
  go_wp2_with (go_at_call 320; refine (isEnough_any f u _ f0 f1 u0 (by omega)).mono ?_; rintro e w' ⟨rfl, rfl⟩)
  go_ret
  exact ⟨ret_bool (uh Hs).symm, (ba _ _)⟩
theorem implFitsIn_any (x u f : Int) (w : World) : cB 364 #[.int .i64 x, .int .i64 u, .int .i64 f] w (.bool (fitsB x u f)) := by
 cases h : amt x && (amt u && amt f)
 ·have hs : fitsB x u f = false := by unfold fitsB; rw [h]; rfl
  have Hs := hide hs
  go_enter func364, ntmps364
  go_wp2_with fail
  refine (areAmounts_any _ _ [x, u, f] _ (by simp) ?_).mono ?_
  ·intro k hk
   simp at hk
   match k, hk with
   | 0, _ => simp
   | 1, _ => simp
   | 2, _ => simp
  rintro e w' ⟨rfl, rfl⟩
  rw [amts3, h]
  go_wp2_with fail
  go_ret
  exact ⟨ret_bool (uh Hs).symm, (ba _ _)⟩
 ·have hs : fitsB x u f = decide (5 * (x + u) ≤ 4 * f) := by unfold fitsB; rw [h]; rfl
  have Hs := hide hs
  have h' := h
  simp only [alBae] at h'
  obtain ⟨x0, x1⟩ := amt_of h'.1
  obtain ⟨u0, u1⟩ := amt_of h'.2.1
  obtain ⟨f0, f1⟩ := amt_of h'.2.2
  go_enter func364, ntmps364
  go_wp2_with fail
  refine (areAmounts_any _ _ [x, u, f] _ (by simp) ?_).mono ?_
  ·intro k hk
   simp at hk
   match k, hk with
   | 0, _ => simp
   | 1, _ => simp
   | 2, _ => simp
  rintro e w' ⟨rfl, rfl⟩
  rw [amts3, h]
  go_wp2_with (go_at_call 320; refine (isEnough_any f (x + u) _ f0 f1 (by omega) (by omega)).mono ?_; rintro e w' ⟨rfl, rfl⟩)
  go_ret
  exact ⟨ret_bool (uh Hs).symm, (ba _ _)⟩
theorem specFitsIn_any (x u f : Int) (w : World) : cE 30 #[.int .i64 x, .int .i64 u, .int .i64 f] w (.bool (fitsB x u f)) := by
 cases hx : inB x 0 1000000
 ·go_enter func30, ntmps30
  go_wp2_with (go_at_call 78; refine (amtWork_any _ _).mono ?_; rintro e w' ⟨rfl, rfl⟩)
  go_ret
  exact ⟨ret_bool (by simp [fitsB, amt, hx]), rfl⟩
 ·cases hu : inB u 0 1000000
  ·go_enter func30, ntmps30
   go_wp2_with (go_at_call 78; refine (amtWork_any _ _).mono ?_; rintro e w' ⟨rfl, rfl⟩)
   go_ret
   exact ⟨ret_bool (by simp [fitsB, amt, hx, hu]), rfl⟩
  ·cases hf : inB f 0 1000000
   ·go_enter func30, ntmps30
    go_wp2_with (go_at_call 78; refine (amtWork_any _ _).mono ?_; rintro e w' ⟨rfl, rfl⟩)
    go_ret
    exact ⟨ret_bool (by simp [fitsB, amt, hx, hu, hf]), rfl⟩
   ·obtain ⟨x0, x1⟩ := inB_of hx
    obtain ⟨u0, u1⟩ := inB_of hu
    obtain ⟨f0, f1⟩ := inB_of hf
    go_enter func30, ntmps30
    go_wp2_with (go_at_call 78; refine (amtWork_any _ _).mono ?_; rintro e w' ⟨rfl, rfl⟩)
    go_ret
    exact ⟨ret_bool (by simp [fitsB, amt, hx, hu, hf]), rfl⟩
theorem specTooMuch_any (u f : Int) (w : World) : cE 39 #[.int .i64 u, .int .i64 f] w (.bool (muchB u f)) := by
 cases hu : inB u 0 1000000
 ·go_enter func39, ntmps39
  go_wp2_with (go_at_call 78; refine (amtWork_any _ _).mono ?_; rintro e w' ⟨rfl, rfl⟩)
  go_ret
  exact ⟨ret_bool (by simp [muchB, amt, hu]), rfl⟩
 ·cases hf : inB f 0 1000000
  ·go_enter func39, ntmps39
   go_wp2_with (go_at_call 78; refine (amtWork_any _ _).mono ?_; rintro e w' ⟨rfl, rfl⟩)
   go_ret
   exact ⟨ret_bool (by simp [muchB, amt, hu, hf]), rfl⟩
  ·obtain ⟨u0, u1⟩ := inB_of hu
   obtain ⟨f0, f1⟩ := inB_of hf
   go_enter func39, ntmps39
   go_wp2_with (go_at_call 78; refine (amtWork_any _ _).mono ?_; rintro e w' ⟨rfl, rfl⟩)
   go_ret
   exact ⟨ret_bool (by simp [muchB, amt, hu, hf, much_dec]), rfl⟩
theorem specSpareOf_any (u f : Int) (w : World) : cE 88 #[.int .i64 u, .int .i64 f] w (.int .i64 (spareV u f)) := by
 cases hu : inB u 0 1000000
 ·go_enter func88, ntmps88
  go_wp2_with (go_at_call 78; refine (amtWork_any _ _).mono ?_; rintro e w' ⟨rfl, rfl⟩)
  go_ret
  exact ⟨ret_int (by simp [spareV, amt, hu]), rfl⟩
 ·cases hf : inB f 0 1000000
  ·go_enter func88, ntmps88
   go_wp2_with (go_at_call 78; refine (amtWork_any _ _).mono ?_; rintro e w' ⟨rfl, rfl⟩)
   go_ret
   exact ⟨ret_int (by simp [spareV, amt, hu, hf]), rfl⟩
  ·obtain ⟨u0, u1⟩ := inB_of hu
   obtain ⟨f0, f1⟩ := inB_of hf
   go_enter func88, ntmps88
   go_wp2_with (go_at_call 78; refine (amtWork_any _ _).mono ?_; rintro e w' ⟨rfl, rfl⟩)
   go_ret
   exact ⟨ret_int (by simp [spareV, amt, hu, hf]), rfl⟩
end Go.Proofs.YtgdpaigcmoifbaaGreat
