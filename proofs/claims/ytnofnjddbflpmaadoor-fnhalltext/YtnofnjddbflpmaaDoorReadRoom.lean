/- Contracts of the library's Split at one byte and of the program's readRoom: each answers what the text says, in memory of its own. Conditions: the text is no longer than 2^20; the library's variables hold what the calls ask. -/
import Derived.Test.YtnofnjddbflpmaaDoorReadNum
namespace Go.Proofs.YtnofnjddbflpmaaDoor
open Go.ChangeShapes Go.WideShapes Go.ChangeAt Go.RowKit Go.Sort
open Go.Lib (decDigits itoa join joinTail splitB countB)
set_option linter.unusedVariables false

theorem splitB_bs (l : Txt) (c : UInt8) : splitB (bs [c]) 0 (countB (bs l) (bs [c])) (bs l) = (splitL c l).map bs := by
  have h := Go.Lib.splitB_data (bs [c]) 0 (countB (bs l) (bs [c])) (bs l)
  rw [bs_data, bs_data, splitK_all c _ l (by show _ = Go.Lib.count _ _; rw [bs_data, bs_data])] at h
  rw [← h, List.map_map]
  conv => lhs; rw [← List.map_id (splitB _ _ _ _)]
  exact List.map_congr_left (fun x _ => (bs_back x).symm)
theorem splitB_len (l : Txt) (c : UInt8) : countB (bs l) (bs [c]) + 1 = (splitL c l).length := by
  rw [← Go.Lib.splitB_all (bs [c]) (by rw [bs_size]; simp) 0 _ (bs l) rfl, splitB_bs, List.length_map]

theorem split_any (l : Txt) (c : UInt8) (w : World) (he : Env w) (hl : l.length ≤ 1048576) :
    Calls Tryd.prog 28 #[.string (bs l), .string (bs [c])] w fun e w' => ∃ v, e = .returned v ∧ StrsAt w.heap.size w' v (splitL c l) ∧ Below w.heap.size w w' := by
  obtain ⟨m, hm⟩ := he.big
  refine (Tryd.strings_Split (bs l) (bs [c]) m w (by rw [bs_size]; omega) hm (by rw [bs_size]; simp)).mono ?_
  rintro e w1 ⟨rfl, rfl⟩
  refine ⟨_, rfl, ?_, (Below.refl _ _).alloc (Nat.le_refl _) _⟩
  rw [splitB_bs, splitB_len]
  have hlen := (splitFrom_len c l []).2
  have := World.ownsRow_lit (base := w.heap.size) (e := 9) (size := 1) w (((splitL c l).map bs).map Value.string).toArray (splitL c l).length (Nat.le_refl _) (by unfold splitL maxLen; omega) (by simp)
  unfold StrsAt
  rw [List.map_map] at this ⊢
  simpa [Function.comp_def] using this

/-- What readRoom hands back. -/
def GotRoom (l : Txt) (n₀ : Nat) (e : Ending) (w' : World) : Prop :=
  (∃ n pv ps, e = .returned (.tuple #[.agg #[.int .i64 n, pv], .bool true]) ∧ readRoom l = some (n, ps) ∧ PacesAt n₀ w' pv ps) ∨ (e = .returned (.tuple #[.agg #[.int .i64 0, .slice none 0 0], .bool false]) ∧ readRoom l = none)

set_option maxRecDepth 100000 in
set_option maxHeartbeats 4000000 in
theorem readRoom_any (l : Txt) (w : World) (he : Env w) (hl : l.length ≤ 1048576) :
    Calls Tryd.prog 29 #[.string (bs l)] w fun e w' => GotRoom l (w.heap.size + 1) e w' ∧ Below w.heap.size w w' := by
  obtain ⟨i1, hi1, hp0, hp1, hp2⟩ := info_parts infoPace2
  have Ha : Hid (Env (w.alloc (.cells #[.int .i64 0, .slice none 0 0] 45))) := hide (he.below ((Below.refl _ _).alloc (Nat.le_refl _) _))
  clear he
  go_enter Tryd.func29, Tryd.ntmps29
  go_wp2_with fail
  refine (split_any l 32 _ (unhide Ha) hl).mono ?_
  rintro e w1 ⟨sv, rfl, hst, hb1⟩
  have hz1 : w.heap.size + 1 ≤ w1.heap.size := by have := hb1.size; simpa using this
  have HB1 : Hid (Below (w.heap.size + 1) (w.alloc (.cells #[.int .i64 0, .slice none 0 0] 45)) w1) := hide (hb1.mono (by simp))
  have He1 := hide ((unhide Ha).below hb1)
  obtain ⟨wd, ws, hww⟩ : ∃ wd ws, splitL 32 l = wd :: ws := by
    cases hx : splitL 32 l with
    | nil => exact absurd hx (splitL_ne _ _)
    | cons a b => exact ⟨a, b, rfl⟩
  have Hsm : Hid (∀ p ∈ wd :: ws, p.length ≤ 1048576) := hide (fun p hp => size_of_mem (c := 32) (by rw [hww]; exact hp) hl)
  have hwl := (splitFrom_len 32 l []).2
  have hwl' : ws.length ≤ 1048576 := by unfold splitL at hww; rw [hww] at hwl; simp at hwl; omega
  have HRR := hide (readRoom_eq hww)
  rw [hww] at hst
  obtain ⟨sa, scap, rfl, hsc, hsm, hsr⟩ := hst.view
  rcases hsr with h0 | ⟨g, rfl, hg1, hg2, hcl⟩
  · cases h0
  simp only [World.size_alloc] at hg1
  have Hcl := hide hcl
  have hc0 := hcl 0 (by simp)
  simp only [List.getD_cons_zero] at hc0
  have hlen : (wd :: ws).length = ws.length + 1 := rfl
  have hwdl := unhide Hsm wd (by simp)
  clear hst hcl hb1 hwl hww
  rw [hlen] at *
  go_wp2_with fail
  refine (readNumber_any wd _ (unhide He1) hwdl).mono ?_
  rintro e w2 ⟨rfl, hb2⟩
  have hz2 := hb2.size
  have HB2 : Hid (Below (w.heap.size + 1) (w.alloc (.cells #[.int .i64 0, .slice none 0 0] 45)) w2) := hide ((unhide HB1).trans (hb2.mono (by omega)))
  have He2 := hide ((unhide He1).below hb2)
  have Hb2 := hide hb2
  have x0 : w2.cell? ⟨w.heap.size, 0, none⟩ = some (.int .i64 0) := ((unhide HB2).cell (p := ⟨w.heap.size, 0, none⟩) (Nat.lt_succ_self _)).trans (by simp)
  have x1 : w2.cell? ⟨w.heap.size, 1, none⟩ = some (.slice none 0 0) := ((unhide HB2).cell (p := ⟨w.heap.size, 1, none⟩) (Nat.lt_succ_self _)).trans (by simp)
  have x2 : w2.frozen? ⟨w.heap.size, 0, none⟩ = false := ((unhide HB2).frozen (p := ⟨w.heap.size, 0, none⟩) (Nat.lt_succ_self _)).trans (by rw [frozen?_alloc_cells]; exact frozen_far (Nat.le_refl _))
  have x3 : w2.frozen? ⟨w.heap.size, 1, none⟩ = false := ((unhide HB2).frozen (p := ⟨w.heap.size, 1, none⟩) (Nat.lt_succ_self _)).trans (by rw [frozen?_alloc_cells]; exact frozen_far (Nat.le_refl _))
  have HX := hide (And.intro x0 (And.intro x1 (And.intro x2 x3)))
  have HBw : Hid (Below w.heap.size w w2) := hide (((Below.refl _ _).alloc (Nat.le_refl _) _).trans ((unhide HB2).mono (by omega)))
  unfold readV
  have HisT : Hid ((readN wd).isSome = true → readN wd = some ((readN wd).getD 0)) := hide (fun h => by cases hx : readN wd with | none => rw [hx] at h; cases h | some y => rfl)
  have HisF : Hid ((readN wd).isSome = false → readRoom l = none) := hide (fun h => by rw [unhide HRR]; cases hx : readN wd with | none => rfl | some y => rw [hx] at h; cases h)
  clear hb2 hc0
  generalize (readN wd).getD 0 = n at *
  generalize (readN wd).isSome = ib at *
  cases ib
  · go_wp2_with fail
    exact bodyPost_ret (v := .tuple #[.agg #[.int .i64 0, .slice none 0 0], .bool false]) (by simp [results, Tryd.results29, go_sem, x0, x1]) rfl ⟨.inr ⟨rfl, unhide HisF (by simp)⟩, ((unhide HBw).setCell (Nat.le_refl w.heap.size) _).setCell (Nat.le_refl w.heap.size) _⟩
  have hlt0 : w.heap.size < w2.heap.size := by omega
  have HisT' : Hid (readN wd = some n) := hide (unhide HisT (by simp))
  clear HisT HisF
  have hRB : (w2.alloc (.cells #[.int .i64 n, .slice none 0 0] 45)).frozen? ⟨w2.heap.size, 1, none⟩ = false := by rw [frozen?_alloc_cells]; exact frozen_far (Nat.le_refl _)
  by_cases hws : ws.length = 0
  · obtain rfl : ws = [] := List.eq_nil_of_length_eq_zero hws
    have HRm : Hid (readRoom l = some (n, [])) := hide (by rw [unhide HRR, unhide HisT']; rfl)
    simp only [List.length_nil, Nat.zero_add] at *
    by_cases hcap : scap = 1
    all_goals
      go_wp2_with fail
      go_loopw [29] (fun i wi => i = .int .i64 0 ∧ wi = w2.alloc (.cells #[.int .i64 n, .slice none 0 0] 45)) (fun _ _ => 0)
      case atStart => exact ⟨rfl, rfl⟩
      case round =>
        obtain ⟨rfl, rfl⟩ := hrel
        go_wp2_with fail
        exact bodyPost_ret (v := .tuple #[.agg #[.int .i64 n, .slice none 0 0], .bool true]) (by simp [results, Tryd.results29, go_sem, x0, x1, hlt0]) rfl ⟨.inl ⟨n, _, [], rfl, unhide HRm, World.ownsRow_nil _ _ _ _⟩, by first | exact (((unhide HBw).setCell (Nat.le_refl w.heap.size) _).setCell (Nat.le_refl w.heap.size) _).alloc (by simp; omega) _ | exact (((unhide HBw).alloc (unhide HBw).size _).setCell (Nat.le_refl w.heap.size) _).setCell (Nat.le_refl w.heap.size) _⟩
  · have hcap : ¬ scap = 1 := by have h9 := hsc; simp at h9; omega
    go_wp2_with fail
    go_loopw [29] (fun i wi => ∃ (m : Nat) (pv : Value) (ps : List PaceV), m ≤ ws.length ∧ i = .int .i64 m ∧ wi.cell? ⟨w2.heap.size, 0, none⟩ = some (.int .i64 n) ∧ wi.cell? ⟨w2.heap.size, 1, none⟩ = some pv ∧ wi.frozen? ⟨w2.heap.size, 1, none⟩ = false ∧ PacesAt (w2.heap.size + 1) wi pv ps ∧ ps.length = m ∧ Below w2.heap.size w2 wi ∧ w2.heap.size + 1 ≤ wi.heap.size ∧ (ws.take m).mapM readPace = some ps) (fun i _ => ws.length - (intOf i).toNat)
    case atStart => exact ⟨0, _, [], Nat.zero_le _, rfl, by simp, by simp, hRB, World.ownsRow_nil _ _ _ _, rfl, (Below.refl _ _).alloc (Nat.le_refl _) _, by simp, rfl⟩
    case round =>
      obtain ⟨wi, rfl⟩ : ∃ wi, wi = wr := ⟨wr, rfl⟩
      obtain ⟨m, pv, ps, hm1, rfl, z0, z1, z2, hpa, hpl1, hbi, hzi, hmap⟩ := hrel
      have Hpa := hide hpa
      have Hpl1 := hide hpl1
      have Hbi := hide hbi
      have Hmap := hide hmap
      have Hz1 := hide z1
      have Hz0 := hide z0
      have Hz2 := hide z2
      obtain ⟨pva, pvcap, rfl⟩ := hpa.shape
      clear x0 x1 x2 x3
      obtain ⟨x0, x1, x2, x3⟩ := unhide HX
      have r0 := (hbi.cell (p := ⟨w.heap.size, 0, none⟩) hlt0).trans x0
      have r1 := (hbi.cell (p := ⟨w.heap.size, 1, none⟩) hlt0).trans x1
      have r2 := (hbi.frozen (p := ⟨w.heap.size, 0, none⟩) hlt0).trans x2
      have r3 := (hbi.frozen (p := ⟨w.heap.size, 1, none⟩) hlt0).trans x3
      have HRi := hide (And.intro r0 (And.intro r1 (And.intro r2 r3)))
      have HBi : Hid (Below w.heap.size w wi) := hide ((unhide HBw).trans (hbi.mono (by omega)))
      clear x0 x1 x2 x3
      by_cases hlt2 : m < ws.length
      · have hck0 : w1.cell? ⟨g, 1 + m, none⟩ = some (.string (bs ((wd :: ws).getD (m + 1) []))) := by rw [Nat.add_comm 1 m]; exact unhide Hcl (m + 1) (by first | omega | (simp; omega))
        have hck2 := (hbi.cell (p := ⟨g, 1 + m, none⟩) (show g < w2.heap.size by omega)).trans (((unhide Hb2).cell (p := ⟨g, 1 + m, none⟩) hg2).trans hck0)
        clear hck0
        have hget2 : (wd :: ws).getD (m + 1) [] = ws[m] := by simp [List.getD, hlt2]
        rw [hget2] at hck2
        have hpm := unhide Hsm ws[m] (List.mem_cons_of_mem _ (List.getElem_mem hlt2))
        have HXm : Hid (readPace ws[m] = none → readRoom l = none) := hide (fun h => by rw [unhide HRR, mapM_none hlt2 h]; cases readN wd <;> rfl)
        have HYm : Hid (∀ y, readPace ws[m] = some y → (ws.take (m + 1)).mapM readPace = some (ps ++ [y])) := hide (fun y h => mapM_snoc hlt2 (unhide Hmap) h)
        generalize ws[m] = pm at *
        clear hpa hpl1 hbi hmap hget2 r0 r1 r2 r3
        go_wp2_with fail
        refine (readPace_any pm _ ((unhide He2).below (unhide Hbi)) hpm).mono ?_
        rintro e w5 ⟨f, kk, fb, rfl, hft, hff, hb5⟩
        have hz5 := hb5.size
        have Hft := hide hft
        have Hff := hide hff
        have Hb5 := hide hb5
        have c50 := (hb5.cell (p := ⟨w2.heap.size, 0, none⟩) (by show w2.heap.size < _; omega)).trans (unhide Hz0)
        have c51 := (hb5.cell (p := ⟨w2.heap.size, 1, none⟩) (by show w2.heap.size < _; omega)).trans (unhide Hz1)
        have c52 := (hb5.frozen (p := ⟨w2.heap.size, 1, none⟩) (by show w2.heap.size < _; omega)).trans (unhide Hz2)
        have r0 := (hb5.cell (p := ⟨w.heap.size, 0, none⟩) (by show w.heap.size < _; omega)).trans (unhide HRi).1
        have r1 := (hb5.cell (p := ⟨w.heap.size, 1, none⟩) (by show w.heap.size < _; omega)).trans (unhide HRi).2.1
        have r2 := (hb5.frozen (p := ⟨w.heap.size, 0, none⟩) (by show w.heap.size < _; omega)).trans (unhide HRi).2.2.1
        have r3 := (hb5.frozen (p := ⟨w.heap.size, 1, none⟩) (by show w.heap.size < _; omega)).trans (unhide HRi).2.2.2
        have hlt5 : w.heap.size < w5.heap.size := by omega
        have hltq : w2.heap.size < w5.heap.size := by omega
        have HB5w : Hid (Below w.heap.size w w5) := hide ((unhide HBi).trans ((unhide Hb5).mono (by omega)))
        clear hft hff hb5 z0 z1 z2
        cases fb
        · have HZ : Hid (readRoom l = none) := hide (unhide HXm (unhide Hff (by simp)))
          clear c50 c51 c52
          go_wp2_with fail
          exact bodyPost_ret (v := .tuple #[.agg #[.int .i64 0, .slice none 0 0], .bool false]) (by simp [results, Tryd.results29, go_sem, r0, r1, hlt5]) rfl ⟨.inr ⟨rfl, unhide HZ⟩, by first | exact (((unhide HB5w).setCell (Nat.le_refl w.heap.size) _).setCell (Nat.le_refl w.heap.size) _).alloc (by simp; omega) _ | exact (((unhide HB5w).alloc (unhide HB5w).size _).setCell (Nat.le_refl w.heap.size) _).setCell (Nat.le_refl w.heap.size) _⟩
        · have Hp5 : Hid (PacesAt (w2.heap.size + 1) w5 (.slice pva ps.length pvcap) ps) := hide (own_same (unhide Hpa) (fun q e => (unhide Hb5).block q ((unhide Hpa).lt e).2))
          have hne5 : w2.heap.size ≠ w5.heap.size := by omega
          have q51 : (w5.alloc (.cells #[.int .i64 f, .int .i64 kk] 61)).cell? ⟨w2.heap.size, 1, none⟩ = some (.slice pva ps.length pvcap) := by rw [World.cell?_alloc_old _ _ _ hne5]; exact c51
          have Hp6 : Hid (PacesAt (w2.heap.size + 1) (w5.alloc (.cells #[.int .i64 f, .int .i64 kk] 61)) (.slice pva ps.length pvcap) ps) := hide (own_same (unhide Hp5) (fun q e => Below.heap_alloc w5 _ q ((unhide Hp5).lt e).2))
          have q50 : (w5.alloc (.cells #[.int .i64 f, .int .i64 kk] 61)).cell? ⟨w2.heap.size, 0, none⟩ = some (.int .i64 n) := by rw [World.cell?_alloc_old _ _ _ hne5]; exact c50
          have q52 : (w5.alloc (.cells #[.int .i64 f, .int .i64 kk] 61)).frozen? ⟨w2.heap.size, 1, none⟩ = false := by rw [frozen?_alloc_cells]; exact c52
          have hpsm : ps.length ≤ 1048576 := by rw [unhide Hpl1]; omega
          have HB5 : Hid (Below w2.heap.size w2 (w5.alloc (.cells #[.int .i64 f, .int .i64 kk] 61))) := hide (((unhide Hbi).trans ((unhide Hb5).mono (by omega))).alloc (by omega) _)
          clear c50 c51 c52 r0 r1 r2 r3
          go_wp2_with (at_builtin; refine wpList_append_own_at _ rfl _ _ 43 rfl (w2.heap.size + 1) 61 i1 (.agg #[.int .i64 0, .int .i64 0]) 2 16 Tryd.underlying43 hi1 hp0 hp1 hp2 rfl (by decide) _ _ _ rfl (World.ownsRow.alloc (unhide Hp6) _) ⟨_, 0, none⟩ 1 1 [.int .i64 f, .int .i64 kk] rfl rfl (cell_two_at _ _ _ _ _ (by simp)) (by simp [Value.oneCell']) (by simp only [maxLen]; omega) (by omega) (by simp; omega) ?_; intro v' w6 hown' hgrow _ _; obtain ⟨a6, cap6, rfl, e1, e2, HE⟩ := rd_inner (unhide Hp6) (by simp; omega) hown' hgrow q50 q51 q52; clear hown' hgrow)
          go_roundw
          case rel => exact ⟨m + 1, _, ps ++ [(f, kk)], by omega, by go_num, (unhide HE).1, (unhide HE).2.1, (unhide HE).2.2.1, (unhide HE).2.2.2.1, by simp [unhide Hpl1], (unhide HB5).trans (unhide HE).2.2.2.2.1, (unhide HE).2.2.2.2.2, unhide HYm _ (unhide Hft (by simp))⟩
          case measure => simp [intOf]; omega
      · obtain rfl : m = ws.length := by omega
        rw [List.take_length] at Hmap
        have HRm : Hid (readRoom l = some (n, ps)) := hide (by rw [unhide HRR, unhide HisT', unhide Hmap]; rfl)
        have hlti : w.heap.size < wi.heap.size := by omega
        clear hpa hpl1 hbi hmap
        go_wp2_with fail
        exact bodyPost_ret (v := .tuple #[.agg #[.int .i64 n, .slice pva ps.length pvcap], .bool true]) (by simp [results, Tryd.results29, go_sem, r0, r1]) rfl ⟨.inl ⟨n, _, ps, rfl, unhide HRm, own_mono (own_same (unhide Hpa) (fun q e => by rw [Below.heap_setCell _ _ _ q (by have := ((unhide Hpa).lt e).1; show q ≠ w.heap.size; omega), Below.heap_setCell _ _ _ q (by have := ((unhide Hpa).lt e).1; show q ≠ w.heap.size; omega)])) (by omega)⟩, ((unhide HBi).setCell (Nat.le_refl w.heap.size) _).setCell (Nat.le_refl w.heap.size) _⟩

end Go.Proofs.YtnofnjddbflpmaaDoor
