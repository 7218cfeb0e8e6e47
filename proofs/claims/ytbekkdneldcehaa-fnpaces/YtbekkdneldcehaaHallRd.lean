/- Contracts of the model's reading of a pace (l4Pace) and of a hall (ReadHall). Condition: the text is no longer than 2^20. -/
import Derived.Test.YtbekkdneldcehaaTxtRead
import Derived.Test.YtbekkdneldcehaaHallOwn
import Derived.Test.YtbekkdneldcehaaHallSpec
namespace Go.Proofs.Ytbekkdneldcehaa
open Go.ChangeShapes Go.WideShapes Go.ChangeAt Go.RowKit Go.Sort
open Go.Lib (digitVal decFrom)
set_option linter.unusedVariables false

theorem size_of_mem {c : UInt8} {l p : Txt} (h : p ∈ splitL c l) (hl : l.length ≤ 1048576) : p.length ≤ 1048576 := by
  have := splitFrom_size c l [] p h; simp at this; omega
theorem bs_le {l : Txt} {n : Nat} (h : l.length ≤ n) : (bs l).size ≤ n := by rw [bs_size]; exact h
theorem readN_bd {l : Txt} : -999999999 ≤ (readN l).getD 0 ∧ (readN l).getD 0 ≤ 999999999 := by
  cases h : readN l with
  | none => simp
  | some v => have := readN_back h; simp; omega

set_option maxRecDepth 100000 in
set_option maxHeartbeats 2000000 in
theorem l4Pace_any (l : Txt) (w : World) (hl : l.length ≤ 1048576) :
    Calls Try.prog 65 #[.string (bs l)] w fun e w' => ∃ (f k : Int) (b : Bool), e = .returned (.tuple #[.agg #[.int .i64 f, .int .i64 k], .bool b]) ∧ (b = true → readPace l = some (f, k)) ∧ (b = false → readPace l = none) ∧ Below w.heap.size w w' := by
  have Hb0 : Hid (∀ o, Below w.heap.size w (w.alloc o)) := hide (fun o => (Below.refl _ _).alloc (Nat.le_refl _) _)
  go_enter Try.func65, Try.ntmps65
  go_wp2_with fail
  refine (l1Split_any (bs l) 58 _ (bs_le hl)).mono ?_
  rw [bs_data]
  rintro e w1 ⟨v, rfl, hst, hb⟩
  have hsz : w.heap.size + 1 ≤ w1.heap.size := by have := hb.size; simpa using this
  obtain ⟨cc, ff⟩ := bcell hb
  have x0 := cc w.heap.size 0 (by simp)
  have x1 := cc w.heap.size 1 (by simp)
  have f0 := ff w.heap.size 0 (by simp)
  have f1 := ff w.heap.size 1 (by simp)
  have B1 : Hid (Below w.heap.size w w1) := hide ((unhide Hb0 _).trans (hb.mono (by simp)))
  obtain ⟨a, cap, rfl, hc, hm, hr⟩ := hst.view
  have Hr := hide hr
  clear hst hr hb cc ff
  by_cases h2 : (splitL 58 l).length = 2
  · obtain ⟨p, q, hpq⟩ : ∃ p q, splitL 58 l = [p, q] := by
      match hx : splitL 58 l, h2 with
      | [p, q], _ => exact ⟨p, q, rfl⟩
    have Hpq := hide hpq
    rcases unhide Hr with h0 | ⟨g, rfl, hg1, hg2, hcl⟩
    · rw [h0] at h2; simp at h2
    have c0 := hcl 0 (by omega)
    have c1 := hcl 1 (by omega)
    have hp1 := size_of_mem (c := 58) (l := l) (p := p) (by rw [hpq]; simp) hl
    have hq1 := size_of_mem (c := 58) (l := l) (p := q) (by rw [hpq]; simp) hl
    rw [hpq] at c0 c1
    simp only [List.getD_cons_zero, List.getD_cons_succ] at c0 c1
    have Hread : Hid (readPace l = (readN p).bind fun f => (readN q).bind fun k => some (f, k)) := hide (by unfold readPace; rw [hpq])
    have hne : g ≠ w.heap.size := by simp at hg1; omega
    clear hcl Hr hpq
    generalize (splitL 58 l).length = n2 at *
    subst h2
    go_wp2_with fail
    refine (l1Read_any (bs p) _ (by have := bs_le hp1; omega)).mono ?_
    rw [bs_data]
    rintro e w' ⟨rfl, hw'⟩
    subst w'
    unfold readV
    have hbp := readN_bd (l := p)
    generalize hrp : readN p = rp at *
    have Hrp := hide hrp
    clear hrp
    go_wp2_with fail
    refine (l1Read_any (bs q) _ (by have := bs_le hq1; omega)).mono ?_
    rw [bs_data]
    rintro e w' ⟨rfl, hw'⟩
    subst w'
    unfold readV
    generalize hrq : readN q = rq at *
    have Hrq := hide hrq
    clear hrq
    cases rp with
    | none =>
      have Hz : Hid (readPace l = none) := hide (by rw [unhide Hread]; rfl)
      simp only [Option.getD_none, Option.isSome_none]
      go_wp2_with fail
      exact bodyPost_ret (v := .tuple #[.agg #[.int .i64 0, .int .i64 (rq.getD 0)], .bool false]) (by simp [results, Try.results65, go_sem, *]) rfl ⟨_, _, _, rfl, fun h => (by cases h), fun _ => unhide Hz, ((unhide B1).setCell (by show _ ≤ w.heap.size; omega) _).setCell (by show _ ≤ w.heap.size; omega) _⟩
    | some f =>
      cases rq with
      | none =>
        have Hz : Hid (readPace l = none) := hide (by rw [unhide Hread]; rfl)
        simp only [Option.getD_none, Option.isSome_none, Option.getD_some, Option.isSome_some]
        go_wp2_with fail
        exact bodyPost_ret (v := .tuple #[.agg #[.int .i64 f, .int .i64 0], .bool false]) (by simp [results, Try.results65, go_sem, *]) rfl ⟨_, _, _, rfl, fun h => (by cases h), fun _ => unhide Hz, ((unhide B1).setCell (by show _ ≤ w.heap.size; omega) _).setCell (by show _ ≤ w.heap.size; omega) _⟩
      | some k =>
        have Hz : Hid (readPace l = some (f, k)) := hide (by rw [unhide Hread]; rfl)
        simp only [Option.getD_some, Option.isSome_some]
        go_wp2_with fail
        exact bodyPost_ret (v := .tuple #[.agg #[.int .i64 f, .int .i64 k], .bool true]) (by simp [results, Try.results65, go_sem, *]) rfl ⟨_, _, _, rfl, fun _ => unhide Hz, fun h => (by cases h), ((unhide B1).setCell (by show _ ≤ w.heap.size; omega) _).setCell (by show _ ≤ w.heap.size; omega) _⟩
  · have Hz : Hid (readPace l = none) := hide (by
      unfold readPace
      split
      · rename_i a b hx; rw [hx] at h2; simp at h2
      · rfl)
    have hne : (((splitL 58 l).length : Int) != 2) = true := by rw [bne_iff_ne]; omega
    have hcc : ((splitL 58 l).length : Int) ≤ 9223372036854775807 := by omega
    generalize (splitL 58 l).length = n2 at *
    go_wp2_with fail
    exact bodyPost_ret (v := .tuple #[.agg #[.int .i64 0, .int .i64 0], .bool false]) (by simp [results, Try.results65, go_sem, *]) rfl ⟨_, _, _, rfl, fun h => (by cases h), fun _ => unhide Hz, ((unhide B1).setCell (by show _ ≤ w.heap.size; omega) _).setCell (by show _ ≤ w.heap.size; omega) _⟩

end Go.Proofs.Ytbekkdneldcehaa
