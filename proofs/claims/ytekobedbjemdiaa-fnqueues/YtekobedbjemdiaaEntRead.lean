/- Contracts of EntryLess, QueueOk, FirstIn, the program's and the model's, and of what they call: each returns what the lists say and writes into no memory that was there. Condition: the slices can be read. -/
import Derived.Test.YtekobedbjemdiaaEntMem
namespace Go.Proofs.Ytekobedbjemdiaa
open Go.ChangeShapes Go.WideShapes Go.ChangeAt Go.RowKit Go.Sort
set_option linter.unusedVariables false

theorem ltB_had {a b c d : Int} (h : a ≠ c) : ltB (a, b) (c, d) = decide (a < c) := by unfold ltB; simp; omega
theorem ltB_who {a b d : Int} : ltB (a, b) (a, d) = decide (b < d) := by unfold ltB; simp

theorem specLess_any (a b c d : Int) (w : World) : Calls Try.prog 21 #[.agg #[.int .i64 a, .int .i64 b], .agg #[.int .i64 c, .int .i64 d]] w fun e w' => e = .returned (.bool (ltB (a, b) (c, d))) ∧ Below w.heap.size w w' := by
  by_cases h : a = c
  · subst h
    rw [ltB_who]
    go_enter Try.func21, Try.ntmps21
    go_wp2_with fail
    go_ret
    exact ⟨rfl, ((Below.refl _ _).alloc (Nat.le_refl _) _).alloc (by simp) _⟩
  · rw [ltB_had h]
    have h' : (a == c) = false := by simpa using h
    have h2 : (a != c) = true := by simpa using h
    clear h
    go_enter Try.func21, Try.ntmps21
    go_wp2_with fail
    go_ret
    exact ⟨rfl, ((Below.refl _ _).alloc (Nat.le_refl _) _).alloc (by simp) _⟩

theorem implLess_any (a b c d : Int) (w : World) : Calls Try.prog 20 #[.agg #[.int .i64 a, .int .i64 b], .agg #[.int .i64 c, .int .i64 d]] w fun e w' => e = .returned (.bool (ltB (a, b) (c, d))) ∧ Below w.heap.size w w' := by
  by_cases h : a = c
  · subst h
    rw [ltB_who]
    go_enter Try.func20, Try.ntmps20
    go_wp2_with fail
    go_ret
    exact ⟨rfl, ((Below.refl _ _).alloc (Nat.le_refl _) _).alloc (by simp) _⟩
  · rw [ltB_had h]
    have h' : (a == c) = false := by simpa using h
    have h2 : (a != c) = true := by simpa using h
    clear h
    go_enter Try.func20, Try.ntmps20
    go_wp2_with fail
    go_ret
    exact ⟨rfl, ((Below.refl _ _).alloc (Nat.le_refl _) _).alloc (by simp) _⟩

theorem isHad_any (n : Int) (w : World) : Calls Try.prog 56 #[.int .i64 n] w fun e w' => e = .returned (.bool (inB n (-1000000000000) 1000000000000)) ∧ w' = w := by
  go_enter Try.func56, Try.ntmps56
  go_wp2_with (go_at_call 57; refine (liesFrom_any _ _ _ _).mono ?_; rintro e w' ⟨rfl, rfl⟩)
  go_ret
  exact ⟨rfl, rfl⟩

theorem isEntry_any (f c : Int) (w : World) : Calls Try.prog 43 #[.agg #[.int .i64 f, .int .i64 c]] w fun e w' => e = .returned (.bool (entB (f, c))) ∧ Below w.heap.size w w' := by
  cases h1 : inB f (-1000000000000) 1000000000000
  · go_enter Try.func43, Try.ntmps43
    go_wp2_with fail
    refine (isHad_any _ _).mono ?_
    rintro e w' ⟨rfl, rfl⟩
    go_wp2_with fail
    go_ret
    exact ⟨ret_bool (by unfold entB; simp [h1]), (Below.refl _ _).alloc (Nat.le_refl _) _⟩
  · go_enter Try.func43, Try.ntmps43
    go_wp2_with fail
    refine (isHad_any _ _).mono ?_
    rintro e w' ⟨rfl, rfl⟩
    go_wp2_with fail
    refine (liesFrom_any _ _ _ _).mono ?_
    rintro e w' ⟨rfl, rfl⟩
    go_wp2_with fail
    go_ret
    exact ⟨ret_bool (by unfold entB; simp [h1]), (Below.refl _ _).alloc (Nat.le_refl _) _⟩

theorem l6Had_any (n : Int) (w : World) : Calls Try.prog 58 #[.int .i64 n] w fun e w' => e = .returned (.bool (inB n (-1000000000000) 1000000000000)) ∧ w' = w := by
  go_enter Try.func58, Try.ntmps58
  go_wp2_with fail
  refine (l1In_any _ _ _ _).mono ?_
  rintro e w' ⟨rfl, rfl⟩
  go_wp2_with fail
  go_ret
  exact ⟨rfl, rfl⟩
theorem l6Entry_any (f c : Int) (w : World) : Calls Try.prog 44 #[.agg #[.int .i64 f, .int .i64 c]] w fun e w' => e = .returned (.bool (entB (f, c))) ∧ Below w.heap.size w w' := by
  cases h1 : inB f (-1000000000000) 1000000000000
  · go_enter Try.func44, Try.ntmps44
    go_wp2_with fail
    refine (l6Had_any _ _).mono ?_
    rintro e w' ⟨rfl, rfl⟩
    go_wp2_with fail
    go_ret
    exact ⟨ret_bool (by unfold entB; simp [h1]), (Below.refl _ _).alloc (Nat.le_refl _) _⟩
  · go_enter Try.func44, Try.ntmps44
    go_wp2_with fail
    refine (l6Had_any _ _).mono ?_
    rintro e w' ⟨rfl, rfl⟩
    go_wp2_with fail
    refine (l1In_any _ _ _ _).mono ?_
    rintro e w' ⟨rfl, rfl⟩
    go_wp2_with fail
    go_ret
    exact ⟨ret_bool (by unfold entB; simp [h1]), (Below.refl _ _).alloc (Nat.le_refl _) _⟩

set_option maxHeartbeats 1000000 in
theorem l6Find_any {w : World} {v : Value} {ps : List PaceV} (who : Int) (h : IsPaces w v ps) :
    Calls Try.prog 45 #[v, .int .i64 who] w fun e w' => e = .returned (.int .i64 (findV ps who)) ∧ w' = w := by
  obtain ⟨a, cap, rfl, hc, hm, hr⟩ := h
  have Hr := hide hr
  clear hr
  go_enter Try.func45, Try.ntmps45
  go_wp2_with fail
  go_loop [5] (fun i => ∃ k : Nat, k ≤ ps.length ∧ i = .int .i64 k ∧ Hid (∀ j, j < k → (paceAt ps j).2 ≠ who)) (fun i => ps.length - (intOf i).toNat)
  case atStart => exact ⟨0, Nat.zero_le _, rfl, hide (fun j hj => by omega)⟩
  case round =>
    obtain ⟨k, hk, rfl, hno⟩ := hrel
    by_cases hlt : k < ps.length
    · rcases unhide Hr with h0 | ⟨b, off, rfl, hbw, hcl⟩
      · rw [h0] at hlt; simp at hlt
      obtain ⟨c0, c1⟩ := hcl k hlt
      generalize hz : (paceAt ps k).2 = z at *
      have Hz := hide hz
      clear hz hcl c0
      by_cases hx : z = who
      · subst hx
        go_wp2_with fail
        go_ret
        exact ⟨ret_int (findV_some hlt (unhide Hz) (unhide hno)).symm, rfl⟩
      · have hx' : (z == who) = false := by simpa using hx
        have Hx := hide hx
        clear hx
        go_wp2_with fail
        go_round
        case rel => exact ⟨k + 1, by omega, by go_num, hide (next_all (unhide hno) (by rw [unhide Hz]; exact unhide Hx))⟩
        case measure => simp [intOf]; omega
    · obtain rfl : k = ps.length := by omega
      go_wp2_with fail
      go_ret
      exact ⟨ret_int (findV_none (unhide hno)).symm, rfl⟩

theorem isWho_any (f c who : Int) (B : Nat) (w : World) (hc : w.cell? ⟨B, 0, none⟩ = some (.int .i64 who)) (hB : B < w.heap.size) :
    Calls Try.prog 54 #[.agg #[.int .i64 f, .int .i64 c], .pointer (some ⟨B, 0, none⟩)] w fun e w' => e = .returned (.bool (c == who)) ∧ Below w.heap.size w w' := by
  have hne : B ≠ w.heap.size := Nat.ne_of_lt hB
  go_enter Try.func54, Try.ntmps54
  go_wp2_with fail
  go_ret
  exact ⟨rfl, (Below.refl _ _).alloc (Nat.le_refl _) _⟩

set_option maxHeartbeats 1000000 in
theorem idxFunc_any {w : World} {v : Value} {ps : List PaceV} (who : Int) (B : Nat) (h : IsPaces w v ps) (hc : w.cell? ⟨B, 0, none⟩ = some (.int .i64 who)) (hB : B < w.heap.size) :
    Calls Try.prog 53 #[v, .func (Fn.func 54) #[] #[.pointer (some ⟨B, 0, none⟩)]] w fun e w' => e = .returned (.int .i64 (findV ps who)) ∧ Below w.heap.size w w' := by
  obtain ⟨a, cap, rfl, hcc, hm, hr⟩ := h
  have Hr := hide hr
  have Hc := hide hc
  clear hr hc
  go_enter Try.func53, Try.ntmps53
  go_wp2_with fail
  go_loopw [5, 8] (fun _ i wr => ∃ k : Nat, k ≤ ps.length ∧ i = .int .i64 k ∧ Hid (∀ j, j < k → (paceAt ps j).2 ≠ who) ∧ Below w.heap.size w wr) (fun _ i _ => ps.length - (intOf i).toNat)
  case atStart => exact ⟨0, Nat.zero_le _, rfl, hide (fun j hj => by omega), Below.refl _ _⟩
  case round =>
    obtain ⟨k, hk, rfl, hno, hb⟩ := hrel
    have Hb := hide hb
    by_cases hlt : k < ps.length
    · rcases unhide Hr with h0 | ⟨b, off, rfl, hbw, hcl⟩
      · rw [h0] at hlt; simp at hlt
      obtain ⟨c0, c1⟩ := hcl k hlt
      rw [← hb.cell (p := ⟨b, off + k * 2, none⟩) hbw] at c0
      rw [← hb.cell (p := ⟨b, off + k * 2 + 1, none⟩) hbw] at c1
      generalize hz : paceAt ps k = p at *
      obtain ⟨f, z⟩ := p
      simp only at c0 c1
      have hcb := (hb.cell (p := ⟨B, 0, none⟩) hB).trans (unhide Hc)
      have hBr : B < wr.heap.size := Nat.lt_of_lt_of_le hB hb.size
      have Hz := hide hz
      have Hcb := hide hcb
      clear hz hcl hb hcb
      by_cases hx : z = who
      · subst hx
        go_wp2_with fail
        refine (isWho_any _ _ _ _ _ (unhide Hcb) hBr).mono ?_
        rintro e w1 ⟨rfl, hb1⟩
        have Hb1 := hide hb1
        clear hb1
        go_wp2_with fail
        go_ret
        exact ⟨ret_int (findV_some hlt (by rw [unhide Hz]) (unhide hno)).symm, (unhide Hb).trans ((unhide Hb1).mono (unhide Hb).size)⟩
      · have hx' : (z == who) = false := by simpa using hx
        have Hx := hide hx
        clear hx
        go_wp2_with fail
        refine (isWho_any _ _ _ _ _ (unhide Hcb) hBr).mono ?_
        rw [hx']
        rintro e w1 ⟨rfl, hb1⟩
        have Hb1 := hide hb1
        clear hb1
        go_wp2_with fail
        go_roundw
        case rel => exact ⟨k + 1, by omega, by go_num, hide (next_all (unhide hno) (by rw [unhide Hz]; exact unhide Hx)), (unhide Hb).trans ((unhide Hb1).mono (unhide Hb).size)⟩
        case measure => simp [intOf]; omega
    · obtain rfl : k = ps.length := by omega
      go_wp2_with fail
      go_ret
      exact ⟨ret_int (findV_none (unhide hno)).symm, hb⟩

theorem placeOf_any {w : World} {v : Value} {ps : List PaceV} (who : Int) (h : IsPaces w v ps) :
    Calls Try.prog 39 #[v, .int .i64 who] w fun e w' => e = .returned (.int .i64 (findV ps who)) ∧ Below w.heap.size w w' := by
  have Hv := hide h
  obtain ⟨a, cap, rfl, hcc, hm, hr⟩ := h
  clear hr
  go_enter Try.func39, Try.ntmps39
  go_wp2_with fail
  refine (idxFunc_any who w.heap.size ((unhide Hv).below ((Below.refl _ _).alloc (Nat.le_refl _) _)) (by simp) (by simp)).mono ?_
  rintro e w1 ⟨rfl, hb⟩
  have Hb := hide hb
  clear hb
  go_wp2_with fail
  go_ret
  exact ⟨rfl, ((Below.refl _ _).alloc (Nat.le_refl _) _).trans ((unhide Hb).mono (by simp))⟩

end Go.Proofs.Ytekobedbjemdiaa
