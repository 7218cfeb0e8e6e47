/- Contract of the model's ReadAct: it answers what the lists say and writes into no memory that was there. Condition: the text is no longer than 2^20. -/
import Derived.Test.YtmdgokjeobnnaaaDoorActSpec
import Derived.Test.YtmdgokjeobnnaaaDoorActRead
import Derived.Test.YtmdgokjeobnnaaaDoorTxtRead
import Derived.Test.YtmdgokjeobnnaaaDoorOwnKit
import Derived.Deep.RegionWith
import Derived.Deep.DeepCutAuto
namespace Go.Proofs.YtmdgokjeobnnaaaDoor
open Go.ChangeShapes Go.WideShapes Go.ChangeAt Go.RowKit Go.Sort
open Go.Lib (decDigits itoa join joinTail)
set_option linter.unusedVariables false
set_option linter.unusedSimpArgs false
set_option maxRecDepth 100000

/-- Where a text is in a list; -1 where it is not. -/
def atI (zs : List Txt) (s : Txt) : Int := match wordFrom s zs 0 with
  | none => -1
  | some k => (k : Int)
theorem atI_some {zs : List Txt} {s : Txt} {k : Nat} (h : wordFrom s zs 0 = some k) : atI zs s = (k : Int) := by unfold atI; rw [h]
theorem atI_none {zs : List Txt} {s : Txt} (h : wordFrom s zs 0 = none) : atI zs s = -1 := by unfold atI; rw [h]
set_option maxHeartbeats 8000000 in
theorem l1At_any {n₀ : Nat} {w : World} {v : Value} {zs : List Txt} (h : StrsAt n₀ w v zs) (s : Txt) (hz : zs.length ≤ 1000) : Calls Tryd.prog 18 #[v, .string (bs s)] w fun e w' => e = .returned (.int .i64 (atI zs s)) ∧ w' = w := by
  obtain ⟨a, cap, rfl, hc, hcm, hrow⟩ := h.view
  obtain ⟨Z, hZ⟩ : ∃ z, atI zs s = z := ⟨_, rfl⟩
  rw [hZ]
  have HZ := hide hZ
  have Hcl : Hid (∀ j, j < zs.length → ∃ g, a = some ⟨g, 0, none⟩ ∧ w.cell? ⟨g, j, none⟩ = some (.string (bs (zs.getD j [])))) := hide (fun j hj => by
    rcases hrow with h0 | ⟨g, e, _, hg, hcl⟩
    · rw [h0] at hj; simp at hj
    · exact ⟨g, e, hcl j hj⟩)
  clear h hrow hZ
  go_enter Tryd.func18, Tryd.ntmps18
  go_wp2_with fail
  go_loopw [5] (fun i wr => ∃ j : Nat, j ≤ zs.length ∧ i = .int .i64 j ∧ (∀ q : Nat, q < j → zs.getD q [] ≠ s) ∧ wr = w) (fun i _ => zs.length - (intOf i).toNat)
  case atStart => exact ⟨0, by omega, rfl, fun q h => by omega, rfl⟩
  case round =>
    obtain ⟨j, hj, rfl, hno, rfl⟩ := hrel
    have Hno := hide hno
    clear hno
    by_cases hlt : j < zs.length
    · have hlt1 : (j : Int) < (zs.length : Int) := by omega
      obtain ⟨g, rfl, hcw⟩ := unhide Hcl j hlt
      have hf : Hid (zs.getD j [] = s → Z = (j : Int)) := hide (fun h => by
        rw [← unhide HZ]
        refine (atI_some (word_first zs 0 j (unhide Hno) hlt h)).trans ?_
        rw [Nat.zero_add])
      obtain ⟨z, hz9⟩ : ∃ z, zs.getD j [] = z := ⟨_, rfl⟩
      rw [hz9] at hcw hf
      have Hz9 := hide hz9
      clear hz9
      by_cases hk : z = s
      · have hst := bs_eq hk
        have hZj := hide (unhide hf hk)
        clear hk
        go_wp2_with fail
        go_ret
        exact ⟨by rw [unhide hZj]; rfl, rfl⟩
      · have hst := bs_ne hk
        have Hk : Hid (zs.getD j [] ≠ s) := hide (by rw [unhide Hz9]; exact hk)
        clear hk
        go_wp2_with fail
        go_roundw
        case rel => exact ⟨j + 1, by omega, by go_num, fun q hq => by
          by_cases e : q = j
          · rw [e]; exact unhide Hk
          · exact unhide Hno q (by omega), by first | rfl | trivial⟩
        case measure => simp [intOf]; omega
    · obtain rfl : j = zs.length := by omega
      have hZn : Z = -1 := by rw [← unhide HZ]; exact atI_none (word_none zs 0 (unhide Hno))
      have HZn := hide hZn
      clear hZn
      go_wp2_with fail
      go_ret
      exact ⟨by rw [unhide HZn]; rfl, rfl⟩
set_option maxHeartbeats 8000000 in
theorem specReadAct_any (l : Txt) (w : World) (hl : l.length ≤ 1048576) :
    Calls Tryd.prog 8 #[.string (bs l)] w fun e w' => e = .returned (actRes (readAct l)) ∧ Below w.heap.size w w' := by
  obtain ⟨Q, hQ⟩ : ∃ q, readAct l = q := ⟨_, rfl⟩
  rw [hQ]
  have HQ := hide hQ
  obtain ⟨w0, r, hsp⟩ : ∃ w0 r, splitL 32 l = w0 :: r := by
    cases h : splitL 32 l with
    | nil => exact absurd h (splitL_ne _ _)
    | cons a b => exact ⟨a, b, rfl⟩
  have Hsz : Hid (∀ p ∈ w0 :: r, p.length ≤ 1048576) := hide (fun p hp => by rw [← hsp] at hp; have := splitFrom_size 32 l [] p hp; simp only [List.length_nil, Nat.zero_add] at this; omega)
  have hpl := (splitFrom_len 32 l []).2
  have hrl : r.length ≤ 1048576 := by have : (splitL 32 l).length ≤ l.length + 1 := hpl; rw [hsp] at this; simp at this; omega
  have hQ2 : Q = (wordFrom w0 wordsL 0).bind (fun k => readNums r (tellsL.getD k []) ((k : Int) + 1, 0, 0, 0)) := by rw [← hQ]; unfold readAct; rw [hsp]; rfl
  have HQ2 := hide hQ2
  have Hsplit := hide (fun w => l1Split_any (bs l) 32 w (by rw [bs_size]; exact hl))
  rw [bs_data, hsp] at Hsplit
  clear hQ hpl hsp hQ2 HQ
  have W1 : Hid (Below w.heap.size w (w.alloc (.cells #[.int .i64 0, .int .i64 0, .int .i64 0, .int .i64 0] 25))) := hide ((Below.refl _ _).alloc (Nat.le_refl _) _)
  have k1 : Hid (Blk (w.alloc (.cells #[.int .i64 0, .int .i64 0, .int .i64 0, .int .i64 0] 25)) w.heap.size 25 #[.int .i64 0, .int .i64 0, .int .i64 0, .int .i64 0]) := hide (Blk.new w _ _)
  go_enter Tryd.func8, Tryd.ntmps8
  go_wp2_with fail
  generalize w.alloc (.cells #[.int .i64 0, .int .i64 0, .int .i64 0, .int .i64 0] 25) = W at *
  refine (unhide Hsplit W).mono ?_
  rintro e w1 ⟨v, rfl, hst, hb⟩
  obtain ⟨va, vcap, rfl, hc, hcm, hrow⟩ := hst.view
  rcases hrow with h0 | ⟨g, rfl, hg0, hg, hcl⟩
  · cases h0
  replace k1 := bl k1 hb
  replace W1 := hide ((unhide W1).trans (hb.mono (unhide W1).size))
  have Hcl := hide hcl
  simp only [List.length_cons] at hc
  clear hb hst hg0 Hsplit
  have hw0 := hcl 0 (by simp)
  have hwl : w.heap.size < w1.heap.size := (unhide k1).lt
  simp only [List.getD_cons_zero] at hw0
  clear hcl
  obtain ⟨A, hA⟩ : ∃ A, atI wordsL w0 = A := ⟨_, rfl⟩
  have hA1 : -1 ≤ A ∧ A ≤ 13 := by
    rw [← hA]
    unfold atI
    cases h : wordFrom w0 wordsL 0 with
    | none => simp
    | some k =>
      have := (wordFrom_le _ _ _ h).2.1
      rw [show wordsL.length = 14 from rfl] at this
      simp only
      omega
  have hwr : IntKind.i64.wrap (A + 1) = A + 1 := by rw [IntKind.wrap_i64]; omega
  have HA := hide hA
  clear hA
  go_upto_region 2 with fail
  go_cut [5] (fun s wc => ∃ ab : Nat, s = .pointer (some ⟨ab, 0, none⟩) ∧ w1.heap.size ≤ ab ∧ Hid (Blk wc ab 25 #[.int .i64 (A + 1), .int .i64 0, .int .i64 0, .int .i64 0]) ∧ Hid (Below w1.heap.size w1 wc))
  case first =>
    have hls : (0 : Int) < (r.length : Int) + 1 := by omega
    refine wp_region_last (S := fun w' => w'.cell? ⟨g, 0, none⟩ = some (.string (bs w0))) (by kernel_rfl) (List.cons_ne_nil _ _) (by kernel_rfl) hw0 (fun hHeld => ?_)
    simp only [List.dropLast_cons_cons, List.dropLast_singleton, List.length_cons, List.length_nil, Nat.zero_add, Nat.reduceAdd]
    have hbd : Below w1.heap.size w1 w1.drew := (Below.refl _ _).drew
    have hg1 := (hbd.cell (p := ⟨g, 0, none⟩) hg).trans hw0
    have BB := hide hbd
    clear hbd hw0
    generalize w1.drew = W4 at *
    (refine wpAnyH_take (i := 1) (v := ?_) rfl (by kernel_rfl) (by kernel_rfl) (by kernel_rfl) (fun _ _ _ h => h) (Or.inl ⟨by rfl, ?_⟩) (by assumption) ?_; rotate_left; (intro W9 hSw; (try dsimp only at hSw); go_simp; (try with_reducible rfl)); (try simp only [Act.put, List.setIfInBounds_toArray, List.set_cons_zero, List.set_cons_succ]))
    (refine wpAnyH_take (i := 2) (v := ?_) rfl (by kernel_rfl) (by kernel_rfl) (by kernel_rfl) (fun _ _ _ h => h) (Or.inl ⟨by rfl, ?_⟩) (by assumption) ?_; rotate_left; (intro W9 hSw; (try dsimp only at hSw); go_simp; (try with_reducible rfl)); (try simp only [Act.put, List.setIfInBounds_toArray, List.set_cons_zero, List.set_cons_succ]))
    (refine wpAnyH_take (i := 3) (v := ?_) rfl (by kernel_rfl) (by kernel_rfl) (by kernel_rfl) (fun _ _ _ h => h) (Or.inl ⟨by rfl, ?_⟩) (by assumption) ?_; rotate_left; (intro W9 hSw; (try dsimp only at hSw); go_simp; (try with_reducible rfl)); (try simp only [Act.put, List.setIfInBounds_toArray, List.set_cons_zero, List.set_cons_succ]))
    refine wpAnyH_ready (rs := [0, 7]) (by kernel_rfl) (by simp) ?_
    refine AllReadyH.cons rfl (fun K hK => ?_) (AllReadyH.cons rfl (fun K hK => ?_) AllReadyH.nil)
    · go_simp
      refine (l19Words_any W4).mono ?_
      rintro e9 w3 ⟨v3, rfl, hst3, hb3⟩
      obtain ⟨a3, c3, rfl, _, _, _⟩ := hst3.view
      replace hg1 := (hb3.cell (p := ⟨g, 0, none⟩) (World.block_lt_of_cell? _ _ hg1)).trans hg1
      replace BB := hide ((unhide BB).trans (hb3.mono (unhide BB).size))
      refine hK.out _ _ hg1 (fun hHeld => ?_)
      clear hK K hb3
      (try simp only [Act.put, List.setIfInBounds_toArray, List.set_cons_zero, List.set_cons_succ])
      refine wpAnyH_ready (rs := [4, 7]) (by kernel_rfl) (by simp) ?_
      refine AllReadyH.cons rfl (fun K hK => ?_) (AllReadyH.cons rfl (fun K hK => ?_) AllReadyH.nil)
      · go_simp
        refine (l1At_any hst3 w0 (by decide)).mono ?_
        rw [unhide HA]
        rintro e9 w9 ⟨rfl, h9⟩
        subst w9
        refine hK.out _ _ hg1 (fun hHeld => ?_)
        clear hK K
        (try simp only [Act.put, List.setIfInBounds_toArray, List.set_cons_zero, List.set_cons_succ])
        (refine wpAnyH_take (i := 5) (v := ?_) rfl (by kernel_rfl) (by kernel_rfl) (by kernel_rfl) (fun _ _ _ h => h) (Or.inl ⟨by rfl, ?_⟩) (by assumption) ?_; rotate_left; (intro W9 hSw; (try dsimp only at hSw); go_simp; (try with_reducible rfl)); (try simp only [Act.put, List.setIfInBounds_toArray, List.set_cons_zero, List.set_cons_succ]))
        (refine wpAnyH_take (i := 6) (v := ?_) rfl (by kernel_rfl) (by kernel_rfl) (by kernel_rfl) (fun _ _ _ h => h) (Or.inl ⟨by rfl, ?_⟩) (by assumption) ?_; rotate_left; (intro W9 hSw; (try dsimp only at hSw); go_simp; (try with_reducible rfl)); (try simp only [Act.put, List.setIfInBounds_toArray, List.set_cons_zero, List.set_cons_succ]))
        refine wpAnyH_ready (rs := [7]) (by kernel_rfl) (by simp) ?_
        refine AllReadyH.cons rfl (fun K hK => ?_) AllReadyH.nil
        go_simp
        have hba : Below w3.heap.size w3 (w3.alloc (.cells #[.int .i64 0, .int .i64 0, .int .i64 0, .int .i64 0] 25)) := (Below.refl _ _).alloc (Nat.le_refl _) _
        have kx : Hid (Blk (w3.alloc (.cells #[.int .i64 0, .int .i64 0, .int .i64 0, .int .i64 0] 25)) w3.heap.size 25 #[.int .i64 0, .int .i64 0, .int .i64 0, .int .i64 0]) := hide (Blk.new w3 _ _)
        have hab : w1.heap.size ≤ w3.heap.size := (unhide BB).size
        replace hg1 := (hba.cell (p := ⟨g, 0, none⟩) (World.block_lt_of_cell? _ _ hg1)).trans hg1
        replace BB := hide ((unhide BB).trans (hba.mono (unhide BB).size))
        (try have hst4 := hst3.later hba)
        refine hK.out _ _ hg1 (fun hHeld => ?_)
        clear hK K hba
        (try clear hst3)
        (try have hst3 := hst4)
        (try clear hst4)
        generalize w3.alloc (.cells #[.int .i64 0, .int .i64 0, .int .i64 0, .int .i64 0] 25) = W5 at *
        generalize w3.heap.size = ab at *
        (try simp only [Act.put, List.setIfInBounds_toArray, List.set_cons_zero, List.set_cons_succ])
        refine wpAnyH_done (by kernel_rfl) ?_ _
        refine tailQ_run rfl rfl ?_
        have q0 := (unhide kx).cell (i := 0) (v := .int .i64 0) rfl
        have q1 := (unhide kx).cell (i := 1) (v := .int .i64 0) rfl
        have q2 := (unhide kx).cell (i := 2) (v := .int .i64 0) rfl
        have q3 := (unhide kx).cell (i := 3) (v := .int .i64 0) rfl
        have p0 := (unhide kx).free 0
        have p1 := (unhide kx).free 1
        have p2 := (unhide kx).free 2
        have p3 := (unhide kx).free 3
        have hk4 : Blk ((((W5.setCell ⟨ab, 0, none⟩ (.int .i64 (A + 1))).setCell ⟨ab, 1, none⟩ (.int .i64 0)).setCell ⟨ab, 2, none⟩ (.int .i64 0)).setCell ⟨ab, 3, none⟩ (.int .i64 0)) ab 25 #[.int .i64 (A + 1), .int .i64 0, .int .i64 0, .int .i64 0] := ((((unhide kx).set 0 (.int .i64 (A + 1))).set 1 (.int .i64 0)).set 2 (.int .i64 0)).set 3 (.int .i64 0)
        have hwb : Below w1.heap.size w1 ((((W5.setCell ⟨ab, 0, none⟩ (.int .i64 (A + 1))).setCell ⟨ab, 1, none⟩ (.int .i64 0)).setCell ⟨ab, 2, none⟩ (.int .i64 0)).setCell ⟨ab, 3, none⟩ (.int .i64 0)) := by
          iterate 4 (refine Below.setCell ?_ (by show _ ≤ ab; omega) _)
          exact unhide BB
        have HK4 := hide hk4
        have HWb := hide hwb
        clear hk4 hwb kx BB hHeld
        go_simp
        go_wp2_with fail
        go_meet
        exact ⟨ab, rfl, hab, HK4, HWb⟩
      · go_simp
        have hba : Below w3.heap.size w3 (w3.alloc (.cells #[.int .i64 0, .int .i64 0, .int .i64 0, .int .i64 0] 25)) := (Below.refl _ _).alloc (Nat.le_refl _) _
        have kx : Hid (Blk (w3.alloc (.cells #[.int .i64 0, .int .i64 0, .int .i64 0, .int .i64 0] 25)) w3.heap.size 25 #[.int .i64 0, .int .i64 0, .int .i64 0, .int .i64 0]) := hide (Blk.new w3 _ _)
        have hab : w1.heap.size ≤ w3.heap.size := (unhide BB).size
        replace hg1 := (hba.cell (p := ⟨g, 0, none⟩) (World.block_lt_of_cell? _ _ hg1)).trans hg1
        replace BB := hide ((unhide BB).trans (hba.mono (unhide BB).size))
        (try have hst4 := hst3.later hba)
        refine hK.out _ _ hg1 (fun hHeld => ?_)
        clear hK K hba
        (try clear hst3)
        (try have hst3 := hst4)
        (try clear hst4)
        generalize w3.alloc (.cells #[.int .i64 0, .int .i64 0, .int .i64 0, .int .i64 0] 25) = W5 at *
        generalize w3.heap.size = ab at *
        (try simp only [Act.put, List.setIfInBounds_toArray, List.set_cons_zero, List.set_cons_succ])
        refine wpAnyH_ready (rs := [4]) (by kernel_rfl) (by simp) ?_
        refine AllReadyH.cons rfl (fun K hK => ?_) AllReadyH.nil
        go_simp
        refine (l1At_any hst3 w0 (by decide)).mono ?_
        rw [unhide HA]
        rintro e9 w9 ⟨rfl, h9⟩
        subst w9
        refine hK.out _ _ hg1 (fun hHeld => ?_)
        clear hK K
        (try simp only [Act.put, List.setIfInBounds_toArray, List.set_cons_zero, List.set_cons_succ])
        (refine wpAnyH_take (i := 5) (v := ?_) rfl (by kernel_rfl) (by kernel_rfl) (by kernel_rfl) (fun _ _ _ h => h) (Or.inl ⟨by rfl, ?_⟩) (by assumption) ?_; rotate_left; (intro W9 hSw; (try dsimp only at hSw); go_simp; (try with_reducible rfl)); (try simp only [Act.put, List.setIfInBounds_toArray, List.set_cons_zero, List.set_cons_succ]))
        (refine wpAnyH_take (i := 6) (v := ?_) rfl (by kernel_rfl) (by kernel_rfl) (by kernel_rfl) (fun _ _ _ h => h) (Or.inl ⟨by rfl, ?_⟩) (by assumption) ?_; rotate_left; (intro W9 hSw; (try dsimp only at hSw); go_simp; (try with_reducible rfl)); (try simp only [Act.put, List.setIfInBounds_toArray, List.set_cons_zero, List.set_cons_succ]))
        refine wpAnyH_done (by kernel_rfl) ?_ _
        refine tailQ_run rfl rfl ?_
        have q0 := (unhide kx).cell (i := 0) (v := .int .i64 0) rfl
        have q1 := (unhide kx).cell (i := 1) (v := .int .i64 0) rfl
        have q2 := (unhide kx).cell (i := 2) (v := .int .i64 0) rfl
        have q3 := (unhide kx).cell (i := 3) (v := .int .i64 0) rfl
        have p0 := (unhide kx).free 0
        have p1 := (unhide kx).free 1
        have p2 := (unhide kx).free 2
        have p3 := (unhide kx).free 3
        have hk4 : Blk ((((W5.setCell ⟨ab, 0, none⟩ (.int .i64 (A + 1))).setCell ⟨ab, 1, none⟩ (.int .i64 0)).setCell ⟨ab, 2, none⟩ (.int .i64 0)).setCell ⟨ab, 3, none⟩ (.int .i64 0)) ab 25 #[.int .i64 (A + 1), .int .i64 0, .int .i64 0, .int .i64 0] := ((((unhide kx).set 0 (.int .i64 (A + 1))).set 1 (.int .i64 0)).set 2 (.int .i64 0)).set 3 (.int .i64 0)
        have hwb : Below w1.heap.size w1 ((((W5.setCell ⟨ab, 0, none⟩ (.int .i64 (A + 1))).setCell ⟨ab, 1, none⟩ (.int .i64 0)).setCell ⟨ab, 2, none⟩ (.int .i64 0)).setCell ⟨ab, 3, none⟩ (.int .i64 0)) := by
          iterate 4 (refine Below.setCell ?_ (by show _ ≤ ab; omega) _)
          exact unhide BB
        have HK4 := hide hk4
        have HWb := hide hwb
        clear hk4 hwb kx BB hHeld
        go_simp
        go_wp2_with fail
        go_meet
        exact ⟨ab, rfl, hab, HK4, HWb⟩
    · go_simp
      have hba : Below W4.heap.size W4 (W4.alloc (.cells #[.int .i64 0, .int .i64 0, .int .i64 0, .int .i64 0] 25)) := (Below.refl _ _).alloc (Nat.le_refl _) _
      have kx : Hid (Blk (W4.alloc (.cells #[.int .i64 0, .int .i64 0, .int .i64 0, .int .i64 0] 25)) W4.heap.size 25 #[.int .i64 0, .int .i64 0, .int .i64 0, .int .i64 0]) := hide (Blk.new W4 _ _)
      have hab : w1.heap.size ≤ W4.heap.size := (unhide BB).size
      replace hg1 := (hba.cell (p := ⟨g, 0, none⟩) (World.block_lt_of_cell? _ _ hg1)).trans hg1
      replace BB := hide ((unhide BB).trans (hba.mono (unhide BB).size))
      (try have hst4 := hst3.later hba)
      refine hK.out _ _ hg1 (fun hHeld => ?_)
      clear hK K hba
      (try clear hst3)
      (try have hst3 := hst4)
      (try clear hst4)
      generalize W4.alloc (.cells #[.int .i64 0, .int .i64 0, .int .i64 0, .int .i64 0] 25) = W5 at *
      generalize W4.heap.size = ab at *
      (try simp only [Act.put, List.setIfInBounds_toArray, List.set_cons_zero, List.set_cons_succ])
      refine wpAnyH_ready (rs := [0]) (by kernel_rfl) (by simp) ?_
      refine AllReadyH.cons rfl (fun K hK => ?_) AllReadyH.nil
      go_simp
      refine (l19Words_any W5).mono ?_
      rintro e9 w3 ⟨v3, rfl, hst3, hb3⟩
      obtain ⟨a3, c3, rfl, _, _, _⟩ := hst3.view
      replace hg1 := (hb3.cell (p := ⟨g, 0, none⟩) (World.block_lt_of_cell? _ _ hg1)).trans hg1
      replace BB := hide ((unhide BB).trans (hb3.mono (unhide BB).size))
      replace kx := bl kx hb3
      refine hK.out _ _ hg1 (fun hHeld => ?_)
      clear hK K hb3
      (try simp only [Act.put, List.setIfInBounds_toArray, List.set_cons_zero, List.set_cons_succ])
      refine wpAnyH_ready (rs := [4]) (by kernel_rfl) (by simp) ?_
      refine AllReadyH.cons rfl (fun K hK => ?_) AllReadyH.nil
      go_simp
      refine (l1At_any hst3 w0 (by decide)).mono ?_
      rw [unhide HA]
      rintro e9 w9 ⟨rfl, h9⟩
      subst w9
      refine hK.out _ _ hg1 (fun hHeld => ?_)
      clear hK K
      (try simp only [Act.put, List.setIfInBounds_toArray, List.set_cons_zero, List.set_cons_succ])
      (refine wpAnyH_take (i := 5) (v := ?_) rfl (by kernel_rfl) (by kernel_rfl) (by kernel_rfl) (fun _ _ _ h => h) (Or.inl ⟨by rfl, ?_⟩) (by assumption) ?_; rotate_left; (intro W9 hSw; (try dsimp only at hSw); go_simp; (try with_reducible rfl)); (try simp only [Act.put, List.setIfInBounds_toArray, List.set_cons_zero, List.set_cons_succ]))
      (refine wpAnyH_take (i := 6) (v := ?_) rfl (by kernel_rfl) (by kernel_rfl) (by kernel_rfl) (fun _ _ _ h => h) (Or.inl ⟨by rfl, ?_⟩) (by assumption) ?_; rotate_left; (intro W9 hSw; (try dsimp only at hSw); go_simp; (try with_reducible rfl)); (try simp only [Act.put, List.setIfInBounds_toArray, List.set_cons_zero, List.set_cons_succ]))
      refine wpAnyH_done (by kernel_rfl) ?_ _
      refine tailQ_run rfl rfl ?_
      have q0 := (unhide kx).cell (i := 0) (v := .int .i64 0) rfl
      have q1 := (unhide kx).cell (i := 1) (v := .int .i64 0) rfl
      have q2 := (unhide kx).cell (i := 2) (v := .int .i64 0) rfl
      have q3 := (unhide kx).cell (i := 3) (v := .int .i64 0) rfl
      have p0 := (unhide kx).free 0
      have p1 := (unhide kx).free 1
      have p2 := (unhide kx).free 2
      have p3 := (unhide kx).free 3
      have hk4 : Blk ((((w3.setCell ⟨ab, 0, none⟩ (.int .i64 (A + 1))).setCell ⟨ab, 1, none⟩ (.int .i64 0)).setCell ⟨ab, 2, none⟩ (.int .i64 0)).setCell ⟨ab, 3, none⟩ (.int .i64 0)) ab 25 #[.int .i64 (A + 1), .int .i64 0, .int .i64 0, .int .i64 0] := ((((unhide kx).set 0 (.int .i64 (A + 1))).set 1 (.int .i64 0)).set 2 (.int .i64 0)).set 3 (.int .i64 0)
      have hwb : Below w1.heap.size w1 ((((w3.setCell ⟨ab, 0, none⟩ (.int .i64 (A + 1))).setCell ⟨ab, 1, none⟩ (.int .i64 0)).setCell ⟨ab, 2, none⟩ (.int .i64 0)).setCell ⟨ab, 3, none⟩ (.int .i64 0)) := by
        iterate 4 (refine Below.setCell ?_ (by show _ ≤ ab; omega) _)
        exact unhide BB
      have HK4 := hide hk4
      have HWb := hide hwb
      clear hk4 hwb kx BB hHeld
      go_simp
      go_wp2_with fail
      go_meet
      exact ⟨ab, rfl, hab, HK4, HWb⟩
  case rest =>
    obtain ⟨ab, rfl, hab, k3, HB⟩ := hcut
    replace k1 := bl k1 (unhide HB)
    replace W1 := hide ((unhide W1).trans ((unhide HB).mono (unhide W1).size))
    have hwab : w.heap.size < ab := by have h1 := (unhide k1).lt; have h2 : w.heap.size < w1.heap.size := hwl; omega
    have Hng : Hid (g ≠ ab) := hide (by omega)
    have habc : ab < wc.heap.size := (unhide k3).lt
    have HclC : Hid (∀ j, j < (w0 :: r).length → wc.cell? ⟨g, j, none⟩ = some (.string (bs ((w0 :: r).getD j [])))) := hide (fun j hj => ((unhide HB).cell (p := ⟨g, j, none⟩) hg).trans (unhide Hcl j hj))
    have hgc : g < wc.heap.size := Nat.lt_of_lt_of_le hg (unhide HB).size
    clear HB Hcl hg hwl hab hwr
    cases hwf : wordFrom w0 wordsL 0 with
    | none =>
      have hA0 : A = -1 := by rw [← unhide HA]; exact atI_none hwf
      have hQn : Q = none := by rw [unhide HQ2, hwf]; rfl
      have HQn := hide hQn
      subst hA0
      have k4 : Hid (Blk wc ab 25 #[.int .i64 0, .int .i64 0, .int .i64 0, .int .i64 0]) := k3
      clear hwf hQn HQ2 HA k3
      have c0 := (unhide k4).cell (i := 0) (v := .int .i64 0) rfl
      have z0 := (unhide k1).cell (i := 0) (v := .int .i64 0) rfl
      have z1 := (unhide k1).cell (i := 1) (v := .int .i64 0) rfl
      have z2 := (unhide k1).cell (i := 2) (v := .int .i64 0) rfl
      have z3 := (unhide k1).cell (i := 3) (v := .int .i64 0) rfl
      have f0 := (unhide k1).free 0
      have f1 := (unhide k1).free 1
      have f2 := (unhide k1).free 2
      have f3 := (unhide k1).free 3
      go_wp2_with fail
      refine bodyPost_ret (v := .tuple #[.agg #[.int .i64 0, .int .i64 0, .int .i64 0, .int .i64 0], .bool false]) (by simp [results, Tryd.results8, go_sem, *]) rfl ⟨by rw [unhide HQn]; rfl, ?_⟩
      iterate 4 (refine Below.setCell ?_ (by show _ ≤ w.heap.size; omega) _)
      exact unhide W1
    | some k =>
      have hA0 : A = (k : Int) := by rw [← unhide HA]; exact atI_some hwf
      have hk14 : k < 14 := by have := (wordFrom_le _ _ _ hwf).2.1; rw [show wordsL.length = 14 from rfl] at this; omega
      have hQs : Q = readNums r (tellsL.getD k []) ((k : Int) + 1, 0, 0, 0) := by rw [unhide HQ2, hwf]; rfl
      have HQs := hide hQs
      have HT := hide (tells_ok k hk14).1
      have HTl := hide (tells_len k hk14)
      have HTells := hide (fun w => l19Tells_any k hk14 w)
      subst hA0
      generalize tellsL.getD k [] = t at *
      clear hwf hQs HQ2 HA
      have c0 := (unhide k3).cell (i := 0) (v := .int .i64 ((k : Int) + 1)) rfl
      have n1 : ((k : Int) + 1 == 0) = false := by rw [beq_eq_false_iff_ne]; omega
      have n2 : decide ((k : Int) + 1 = 0) = false := decide_eq_false (by omega)
      go_wp2_with fail
      refine (unhide HTells wc).mono ?_
      rintro e w2 ⟨tv, rfl, hpt, hown, hb⟩
      obtain ⟨ta, tcap, rfl, hp⟩ := hpt
      have Hne : Hid (∀ q, ta = some ⟨q, 0, none⟩ → q ≠ ab) := hide (fun q e => by have := hown q (by rw [e]; rfl); omega)
      clear hown habc
      have Hp := hide hp
      replace k1 := bl k1 hb
      replace k3 := bl k3 hb
      replace W1 := hide ((unhide W1).trans (hb.mono (unhide W1).size))
      have HclD : Hid (∀ j, j < (w0 :: r).length → w2.cell? ⟨g, j, none⟩ = some (.string (bs ((w0 :: r).getD j [])))) := hide (fun j hj => (hb.cell (p := ⟨g, j, none⟩) hgc).trans (unhide HclC j hj))
      have hgd : g < w2.heap.size := Nat.lt_of_lt_of_le hgc hb.size
      clear hb hp c0 n1 n2 HclC hgc HTells
      by_cases hl : r.length = t.length
      rotate_left
      · have hQn : Q = none := by rw [unhide HQs]; exact nums_differ hl
        have HQn := hide hQn
        have n1 : ((r.length : Int) + 1 != (t.length : Int) + 1) = true := by rw [bne_iff_ne]; omega
        have n2 : decide ((r.length : Int) + 1 = (t.length : Int) + 1) = false := decide_eq_false (by omega)
        have n3 : ((r.length : Int) != (t.length : Int)) = true := by rw [bne_iff_ne]; omega
        have n4 : decide ((r.length : Int) = (t.length : Int)) = false := decide_eq_false (by omega)
        have htl := unhide HTl
        clear hQn hl
        have z0 := (unhide k1).cell (i := 0) (v := .int .i64 0) rfl
        have z1 := (unhide k1).cell (i := 1) (v := .int .i64 0) rfl
        have z2 := (unhide k1).cell (i := 2) (v := .int .i64 0) rfl
        have z3 := (unhide k1).cell (i := 3) (v := .int .i64 0) rfl
        have f0 := (unhide k1).free 0
        have f1 := (unhide k1).free 1
        have f2 := (unhide k1).free 2
        have f3 := (unhide k1).free 3
        go_wp2_with fail
        refine bodyPost_ret (v := .tuple #[.agg #[.int .i64 0, .int .i64 0, .int .i64 0, .int .i64 0], .bool false]) (by simp [results, Tryd.results8, go_sem, *]) rfl ⟨by rw [unhide HQn]; rfl, ?_⟩
        iterate 4 (refine Below.setCell ?_ (by show _ ≤ w.heap.size; omega) _)
        exact unhide W1
      have n1 : ((r.length : Int) + 1 != (t.length : Int) + 1) = false := by simp [hl]
      have n3 : ((r.length : Int) != (t.length : Int)) = false := by simp [hl]
      have htl := unhide HTl
      have Hl := hide hl
      clear hl
      go_wp2_with fail
      clear n1 n3
      go_loopw [7] (fun i wr => ∃ (j : Nat) (a : ActV), j ≤ t.length ∧ i = .int .i64 j ∧ readNums (r.drop j) (t.drop j) a = Q ∧ Hid (Blk wr ab 25 #[.int .i64 a.1, .int .i64 a.2.1, .int .i64 a.2.2.1, .int .i64 a.2.2.2]) ∧ Hid (Blk wr w.heap.size 25 #[.int .i64 0, .int .i64 0, .int .i64 0, .int .i64 0]) ∧ Hid (Below w.heap.size w wr) ∧ Hid (But ab w2 wr)) (fun i _ => t.length - (intOf i).toNat)
      case atStart => exact ⟨0, ((k : Int) + 1, 0, 0, 0), Nat.zero_le _, rfl, (unhide HQs).symm, k3, k1, W1, hide (But.refl _ _)⟩
      case round =>
        obtain ⟨j, a, hj, rfl, hr, k3, k1, W1, HBt⟩ := hrel
        have HR := hide hr
        clear hr HQs
        by_cases hlt : j < t.length
        · have hltr : j < r.length := by rw [unhide Hl]; exact hlt
          have hlt1 : (j : Int) < (t.length : Int) := by omega
          have hlt2 : (j : Int) + 1 < (r.length : Int) + 1 := by omega
          obtain ⟨gp, hgt, hgp, hc⟩ := unhide Hp j hlt
          have hgn := unhide Hne gp hgt
          subst hgt
          have y1 := ((unhide HBt).cell (p := ⟨gp, j, none⟩) hgp hgn).trans hc
          have y2 := ((unhide HBt).cell (p := ⟨g, j + 1, none⟩) hgd (unhide Hng)).trans (unhide HclD (j + 1) (by simp; omega))
          simp only [List.getD_cons_succ] at y2
          have hti := unhide HT _ (show t.getD j 0 ∈ t by simp [List.getD, hlt])
          have hsl := unhide Hsz (r.getD j []) (by simp [List.getD, hltr])
          have hstep := nums_step (a := a) hltr hlt
          rw [unhide HR] at hstep
          have HN := hide hstep
          have hj3 : j < 3 := by omega
          clear hc hstep HR
          generalize t.getD j 0 = ti at *
          generalize r.getD j [] = lj at *
          have hcall := l1Read_any (bs lj) wr (by rw [bs_size]; omega)
          rw [bs_data] at hcall
          cases hx : readN lj with
          | none =>
            rw [readV_none hx] at hcall
            have hQn : Q = none := by rw [unhide HN, hx]; rfl
            have HQn := hide hQn
            have HC := hide hcall
            clear hcall hQn hx
            go_wp2_with fail
            refine (unhide HC).mono ?_
            rintro e w3 ⟨rfl, h9⟩
            subst w3
            clear y1 y2 HC
            have z0 := (unhide k1).cell (i := 0) (v := .int .i64 0) rfl
            have z1 := (unhide k1).cell (i := 1) (v := .int .i64 0) rfl
            have z2 := (unhide k1).cell (i := 2) (v := .int .i64 0) rfl
            have z3 := (unhide k1).cell (i := 3) (v := .int .i64 0) rfl
            have f0 := (unhide k1).free 0
            have f1 := (unhide k1).free 1
            have f2 := (unhide k1).free 2
            have f3 := (unhide k1).free 3
            go_wp2_with fail
            refine bodyPost_ret (v := .tuple #[.agg #[.int .i64 0, .int .i64 0, .int .i64 0, .int .i64 0], .bool false]) (by simp [results, Tryd.results8, go_sem, *]) rfl ⟨by rw [unhide HQn]; rfl, ?_⟩
            iterate 4 (refine Below.setCell ?_ (by show _ ≤ w.heap.size; omega) _)
            exact unhide W1
          | some n =>
            rw [readV_some hx] at hcall
            have hQs : readNums (r.drop (j + 1)) (t.drop (j + 1)) (putA a ti n) = Q := by rw [unhide HN, hx]; rfl
            have HC := hide hcall
            clear hcall hx HN
            obtain ⟨a0, a1, a2, a3⟩ := a
            rcases (show ti = 0 ∨ ti = 1 ∨ ti = 2 by omega) with rfl | rfl | rfl
            · have HQt : Hid (readNums (r.drop (j + 1)) (t.drop (j + 1)) (a0, n, a2, a3) = Q) := hide hQs
              clear hQs
              go_wp2_with fail
              refine (unhide HC).mono ?_
              rintro e w3 ⟨rfl, h9⟩
              subst w3
              have z0 := (unhide k3).cell (i := 1) (v := .int .i64 a1) rfl
              have f0 := (unhide k3).free 1
              have HK4 : Hid (Blk (wr.setCell ⟨ab, 1, none⟩ (.int .i64 n)) ab 25 #[.int .i64 a0, .int .i64 n, .int .i64 a2, .int .i64 a3]) := hide ((unhide k3).set 1 (.int .i64 n))
              have HK2 := hide ((unhide k1).other (a := ⟨ab, 1, none⟩) (show w.heap.size ≠ ab by omega) (.int .i64 n))
              have HWb := hide ((unhide W1).setCell (p := ⟨ab, 1, none⟩) (show w.heap.size ≤ ab by omega) (.int .i64 n))
              have HBu := hide ((unhide HBt).setCell 1 (.int .i64 n))
              clear HC k1 k3 W1 HBt
              go_wp2_with fail
              go_roundw
              case rel => exact ⟨j + 1, (a0, n, a2, a3), by omega, by go_num, unhide HQt, HK4, HK2, HWb, HBu⟩
              case measure => simp [intOf]; omega
            · have HQt : Hid (readNums (r.drop (j + 1)) (t.drop (j + 1)) (a0, a1, n, a3) = Q) := hide hQs
              clear hQs
              go_wp2_with fail
              refine (unhide HC).mono ?_
              rintro e w3 ⟨rfl, h9⟩
              subst w3
              have z0 := (unhide k3).cell (i := 2) (v := .int .i64 a2) rfl
              have f0 := (unhide k3).free 2
              have HK4 : Hid (Blk (wr.setCell ⟨ab, 2, none⟩ (.int .i64 n)) ab 25 #[.int .i64 a0, .int .i64 a1, .int .i64 n, .int .i64 a3]) := hide ((unhide k3).set 2 (.int .i64 n))
              have HK2 := hide ((unhide k1).other (a := ⟨ab, 2, none⟩) (show w.heap.size ≠ ab by omega) (.int .i64 n))
              have HWb := hide ((unhide W1).setCell (p := ⟨ab, 2, none⟩) (show w.heap.size ≤ ab by omega) (.int .i64 n))
              have HBu := hide ((unhide HBt).setCell 2 (.int .i64 n))
              clear HC k1 k3 W1 HBt
              go_wp2_with fail
              go_roundw
              case rel => exact ⟨j + 1, (a0, a1, n, a3), by omega, by go_num, unhide HQt, HK4, HK2, HWb, HBu⟩
              case measure => simp [intOf]; omega
            · have HQt : Hid (readNums (r.drop (j + 1)) (t.drop (j + 1)) (a0, a1, a2, n) = Q) := hide hQs
              clear hQs
              go_wp2_with fail
              refine (unhide HC).mono ?_
              rintro e w3 ⟨rfl, h9⟩
              subst w3
              have z0 := (unhide k3).cell (i := 3) (v := .int .i64 a3) rfl
              have f0 := (unhide k3).free 3
              have HK4 : Hid (Blk (wr.setCell ⟨ab, 3, none⟩ (.int .i64 n)) ab 25 #[.int .i64 a0, .int .i64 a1, .int .i64 a2, .int .i64 n]) := hide ((unhide k3).set 3 (.int .i64 n))
              have HK2 := hide ((unhide k1).other (a := ⟨ab, 3, none⟩) (show w.heap.size ≠ ab by omega) (.int .i64 n))
              have HWb := hide ((unhide W1).setCell (p := ⟨ab, 3, none⟩) (show w.heap.size ≤ ab by omega) (.int .i64 n))
              have HBu := hide ((unhide HBt).setCell 3 (.int .i64 n))
              clear HC k1 k3 W1 HBt
              go_wp2_with fail
              go_roundw
              case rel => exact ⟨j + 1, (a0, a1, a2, n), by omega, by go_num, unhide HQt, HK4, HK2, HWb, HBu⟩
              case measure => simp [intOf]; omega
        · obtain rfl : j = t.length := by omega
          have hQs : Q = some a := by
            rw [← unhide HR, List.drop_length, ← unhide Hl, List.drop_length]; rfl
          have HQs := hide hQs
          clear hQs HR
          obtain ⟨a0, a1, a2, a3⟩ := a
          have z0 := (unhide k3).cell (i := 0) (v := .int .i64 a0) rfl
          have z1 := (unhide k3).cell (i := 1) (v := .int .i64 a1) rfl
          have z2 := (unhide k3).cell (i := 2) (v := .int .i64 a2) rfl
          have z3 := (unhide k3).cell (i := 3) (v := .int .i64 a3) rfl
          have y0 := (unhide k1).cell (i := 0) (v := .int .i64 0) rfl
          have y1 := (unhide k1).cell (i := 1) (v := .int .i64 0) rfl
          have y2 := (unhide k1).cell (i := 2) (v := .int .i64 0) rfl
          have y3 := (unhide k1).cell (i := 3) (v := .int .i64 0) rfl
          have f0 := (unhide k1).free 0
          have f1 := (unhide k1).free 1
          have f2 := (unhide k1).free 2
          have f3 := (unhide k1).free 3
          go_wp2_with fail
          refine bodyPost_ret (v := .tuple #[.agg #[.int .i64 a0, .int .i64 a1, .int .i64 a2, .int .i64 a3], .bool true]) (by simp [results, Tryd.results8, go_sem, *]) rfl ⟨by rw [unhide HQs]; rfl, ?_⟩
          iterate 4 (refine Below.setCell ?_ (by show _ ≤ w.heap.size; omega) _)
          exact unhide W1

end Go.Proofs.YtmdgokjeobnnaaaDoor
