/- Contracts of FirstIn, the program's and the model's: each returns what the lists say and writes into no memory that was there. Condition: the slices can be read. -/
import Derived.Test.YtekobedbjemdiaaEntQ
namespace Go.Proofs.Ytekobedbjemdiaa
open Go.ChangeShapes Go.WideShapes Go.ChangeAt Go.RowKit Go.Sort
set_option linter.unusedVariables false

theorem firstV_no {ps : List PaceV} (h : (queueB ps && decide (0 < ps.length)) = false) : firstV ps = ((0, 0), false) := by unfold firstV; rw [h]; rfl
theorem firstV_yes {ps : List PaceV} (h : queueB ps = true) (hl : 0 < ps.length) : firstV ps = (paceAt ps 0, true) := by unfold firstV; rw [h, decide_eq_true hl]; rfl

set_option maxHeartbeats 1000000 in
theorem specFirstIn_any {w : World} {v : Value} {ps : List PaceV} (h : IsPaces w v ps) :
    Calls Try.prog 24 #[v] w fun e w' => e = .returned (.tuple #[.agg #[.int .i64 (firstV ps).1.1, .int .i64 (firstV ps).1.2], .bool (firstV ps).2]) ∧ Below w.heap.size w w' := by
  have Hv := hide h
  obtain ⟨a, cap, rfl, hc, hm, hr⟩ := h
  cases hq : queueB ps
  · rw [firstV_no (by rw [hq]; rfl)]
    clear hr
    go_enter Try.func24, Try.ntmps24
    go_wp2_with fail
    refine (specQueueOk_any ((unhide Hv).below ((Below.refl _ _).alloc (Nat.le_refl _) _))).mono ?_
    rw [hq]
    rintro e w1 ⟨rfl, hb⟩
    have Hb := hide hb
    have hsz := hb.size
    simp at hsz
    obtain ⟨k1, k2⟩ := bcell hb
    clear hb
    go_wp2_with fail
    exact bodyPost_ret (v := .tuple #[.agg #[.int .i64 0, .int .i64 0], .bool false]) (by simp [results, Try.results24, go_sem, k1]) rfl ⟨rfl, ((((Below.refl _ _).alloc (Nat.le_refl _) _).trans ((unhide Hb).mono (by simp))).setCell (by simp) _).setCell (by simp) _⟩
  · rcases hr with hr | ⟨b, off, rfl, hbw, hcl⟩
    · subst hr
      rw [firstV_no (by simp)]
      go_enter Try.func24, Try.ntmps24
      go_wp2_with fail
      refine (specQueueOk_any ((unhide Hv).below ((Below.refl _ _).alloc (Nat.le_refl _) _))).mono ?_
      rw [hq]
      rintro e w1 ⟨rfl, hb⟩
      have Hb := hide hb
      have hsz := hb.size
      simp at hsz
      obtain ⟨k1, k2⟩ := bcell hb
      clear hb
      go_wp2_with fail
      exact bodyPost_ret (v := .tuple #[.agg #[.int .i64 0, .int .i64 0], .bool false]) (by simp [results, Try.results24, go_sem, k1]) rfl ⟨rfl, ((((Below.refl _ _).alloc (Nat.le_refl _) _).trans ((unhide Hb).mono (by simp))).setCell (by simp) _).setCell (by simp) _⟩
    · by_cases hl : 0 < ps.length
      · rw [firstV_yes hq hl]
        obtain ⟨c0, c1⟩ := hcl 0 hl
        simp only [Nat.zero_mul, Nat.add_zero] at c0 c1
        generalize paceAt ps 0 = p at *
        obtain ⟨f, z⟩ := p
        simp only at c0 c1
        have hl2 : (ps.length == 0) = false := beq_eq_false_iff_ne.2 (by omega)
        have hl3 : ((ps.length : Int) == 0) = false := beq_eq_false_iff_ne.2 (by omega)
        have hne : b ≠ w.heap.size := Nat.ne_of_lt hbw
        clear hcl
        go_enter Try.func24, Try.ntmps24
        go_wp2_with fail
        refine (specQueueOk_any ((unhide Hv).below ((Below.refl _ _).alloc (Nat.le_refl _) _))).mono ?_
        rw [hq]
        rintro e w1 ⟨rfl, hb⟩
        have Hb := hide hb
        have hsz := hb.size
        simp at hsz
        have c0' := (hb.cell (p := ⟨b, off, none⟩) (by simp; omega)).trans ((World.cell?_alloc_old _ _ _ hne).trans c0)
        have c1' := (hb.cell (p := ⟨b, off + 1, none⟩) (by simp; omega)).trans ((World.cell?_alloc_old _ _ _ hne).trans c1)
        obtain ⟨k1, k2⟩ := bcell hb
        clear hb c0 c1
        go_wp2_with fail
        exact bodyPost_ret (v := .tuple #[.agg #[.int .i64 f, .int .i64 z], .bool true]) (by simp [results, Try.results24, go_sem, k1]) rfl ⟨rfl, ((((Below.refl _ _).alloc (Nat.le_refl _) _).trans ((unhide Hb).mono (by simp))).setCell (by simp) _).setCell (by simp) _⟩
      · obtain rfl : ps = [] := List.eq_nil_of_length_eq_zero (by omega)
        rw [firstV_no (by simp)]
        clear hcl
        go_enter Try.func24, Try.ntmps24
        go_wp2_with fail
        refine (specQueueOk_any ((unhide Hv).below ((Below.refl _ _).alloc (Nat.le_refl _) _))).mono ?_
        rw [hq]
        rintro e w1 ⟨rfl, hb⟩
        have Hb := hide hb
        have hsz := hb.size
        simp at hsz
        obtain ⟨k1, k2⟩ := bcell hb
        clear hb
        go_wp2_with fail
        exact bodyPost_ret (v := .tuple #[.agg #[.int .i64 0, .int .i64 0], .bool false]) (by simp [results, Try.results24, go_sem, k1]) rfl ⟨rfl, ((((Below.refl _ _).alloc (Nat.le_refl _) _).trans ((unhide Hb).mono (by simp))).setCell (by simp) _).setCell (by simp) _⟩

set_option maxHeartbeats 1000000 in
theorem implFirstIn_any {w : World} {v : Value} {ps : List PaceV} (h : IsPaces w v ps) :
    Calls Try.prog 23 #[v] w fun e w' => e = .returned (.tuple #[.agg #[.int .i64 (firstV ps).1.1, .int .i64 (firstV ps).1.2], .bool (firstV ps).2]) ∧ Below w.heap.size w w' := by
  have Hv := hide h
  obtain ⟨a, cap, rfl, hc, hm, hr⟩ := h
  cases hq : queueB ps
  · rw [firstV_no (by rw [hq]; rfl)]
    clear hr
    go_enter Try.func23, Try.ntmps23
    go_wp2_with fail
    refine (implQueueOk_any ((unhide Hv).below ((Below.refl _ _).alloc (Nat.le_refl _) _))).mono ?_
    rw [hq]
    rintro e w1 ⟨rfl, hb⟩
    have Hb := hide hb
    have hsz := hb.size
    simp at hsz
    obtain ⟨k1, k2⟩ := bcell hb
    clear hb
    go_wp2_with fail
    exact bodyPost_ret (v := .tuple #[.agg #[.int .i64 0, .int .i64 0], .bool false]) (by simp [results, Try.results23, go_sem, k1]) rfl ⟨rfl, ((((Below.refl _ _).alloc (Nat.le_refl _) _).trans ((unhide Hb).mono (by simp))).setCell (by simp) _).setCell (by simp) _⟩
  · rcases hr with hr | ⟨b, off, rfl, hbw, hcl⟩
    · subst hr
      rw [firstV_no (by simp)]
      go_enter Try.func23, Try.ntmps23
      go_wp2_with fail
      refine (implQueueOk_any ((unhide Hv).below ((Below.refl _ _).alloc (Nat.le_refl _) _))).mono ?_
      rw [hq]
      rintro e w1 ⟨rfl, hb⟩
      have Hb := hide hb
      have hsz := hb.size
      simp at hsz
      obtain ⟨k1, k2⟩ := bcell hb
      clear hb
      go_wp2_with fail
      exact bodyPost_ret (v := .tuple #[.agg #[.int .i64 0, .int .i64 0], .bool false]) (by simp [results, Try.results23, go_sem, k1]) rfl ⟨rfl, ((((Below.refl _ _).alloc (Nat.le_refl _) _).trans ((unhide Hb).mono (by simp))).setCell (by simp) _).setCell (by simp) _⟩
    · by_cases hl : 0 < ps.length
      · rw [firstV_yes hq hl]
        obtain ⟨c0, c1⟩ := hcl 0 hl
        simp only [Nat.zero_mul, Nat.add_zero] at c0 c1
        generalize paceAt ps 0 = p at *
        obtain ⟨f, z⟩ := p
        simp only at c0 c1
        have hl2 : (ps.length == 0) = false := beq_eq_false_iff_ne.2 (by omega)
        have hl3 : ((ps.length : Int) == 0) = false := beq_eq_false_iff_ne.2 (by omega)
        have hne : b ≠ w.heap.size := Nat.ne_of_lt hbw
        clear hcl
        go_enter Try.func23, Try.ntmps23
        go_wp2_with fail
        refine (implQueueOk_any ((unhide Hv).below ((Below.refl _ _).alloc (Nat.le_refl _) _))).mono ?_
        rw [hq]
        rintro e w1 ⟨rfl, hb⟩
        have Hb := hide hb
        have hsz := hb.size
        simp at hsz
        have c0' := (hb.cell (p := ⟨b, off, none⟩) (by simp; omega)).trans ((World.cell?_alloc_old _ _ _ hne).trans c0)
        have c1' := (hb.cell (p := ⟨b, off + 1, none⟩) (by simp; omega)).trans ((World.cell?_alloc_old _ _ _ hne).trans c1)
        obtain ⟨k1, k2⟩ := bcell hb
        clear hb c0 c1
        go_wp2_with fail
        exact bodyPost_ret (v := .tuple #[.agg #[.int .i64 f, .int .i64 z], .bool true]) (by simp [results, Try.results23, go_sem, k1]) rfl ⟨rfl, ((((Below.refl _ _).alloc (Nat.le_refl _) _).trans ((unhide Hb).mono (by simp))).setCell (by simp) _).setCell (by simp) _⟩
      · obtain rfl : ps = [] := List.eq_nil_of_length_eq_zero (by omega)
        rw [firstV_no (by simp)]
        clear hcl
        go_enter Try.func23, Try.ntmps23
        go_wp2_with fail
        refine (implQueueOk_any ((unhide Hv).below ((Below.refl _ _).alloc (Nat.le_refl _) _))).mono ?_
        rw [hq]
        rintro e w1 ⟨rfl, hb⟩
        have Hb := hide hb
        have hsz := hb.size
        simp at hsz
        obtain ⟨k1, k2⟩ := bcell hb
        clear hb
        go_wp2_with fail
        exact bodyPost_ret (v := .tuple #[.agg #[.int .i64 0, .int .i64 0], .bool false]) (by simp [results, Try.results23, go_sem, k1]) rfl ⟨rfl, ((((Below.refl _ _).alloc (Nat.le_refl _) _).trans ((unhide Hb).mono (by simp))).setCell (by simp) _).setCell (by simp) _⟩

end Go.Proofs.Ytekobedbjemdiaa
