/- What the proof rests on, part 18: lists and numbers, how they lie in memory, and contracts of the calls. No condition but those that a theorem names. -/
import Derived.Test.YtmhagllddhjgmaaGreatXw01
import Derived.Test.YtmhagllddhjgmaaGreatXw02
import Derived.Test.YtmhagllddhjgmaaGreatXw03
import Derived.Test.YtmhagllddhjgmaaGreatXw12
import Derived.Test.YtmhagllddhjgmaaGreatXw13
import Derived.Test.YtmhagllddhjgmaaGreatXw14
import Derived.Test.YtmhagllddhjgmaaGreatXw15
import Derived.Test.YtmhagllddhjgmaaGreatXw16
import Derived.Test.YtmhagllddhjgmaaGreatXw17
import Derived.Deep.DeepMust
import Derived.Deep.DeepCutAuto
import Derived.WalkKit
import Derived.ProofKit
import Derived.OpenShut
import Derived.Outline
import Derived.Deep.QuietTactic
import Derived.BigQuiet
import Derived.Deep.RegionWith
import Derived.Laws.OwnMore
import Derived.OwnWalk
import Derived.Maps.AppendAt
import Derived.Lib.QuietBelow
import Derived.Lib.ItoaNum
import Derived.Lib.ItoaLen
import Derived.Lib.AtoiTie
import Derived.Lib.ParseIntBTie
import Derived.Lib.SplitLaws
import Derived.Lib.Join
/- Contract of the draw of any hall (l4DrawAny): a hall that can be read and has a room. Condition: the bytes of the draw can be read and are at most 4096. -/
namespace Go.Proofs.YtmhagllddhjgmaaGreat
open Go.ChangeShapes Go.WideShapes Go.ChangeAt Go.RowKit Go.Sort
open Draw (St Off Row Cur)
set_option linter.unusedVariables false

theorem own_shape3 {w : World} {B t size n : Nat} {v : Value} {xs : List Value} (h : w.ownsRow B t size v n xs) : ∃ a c, v = .slice a n c := by
  rcases h.2 with ⟨rfl, hz⟩ | ⟨g, cap, cur, rfl, _⟩
  · exact ⟨none, 0, by rw [hz]⟩
  · exact ⟨_, cap, rfl⟩
theorem grown_cell {w w' : World} {r : Option Nat} {b o : Nat} (hg : w.grownBy w' r) (hb : b < w.heap.size) (hn : some b = r → False) : w'.cell? ⟨b, o, none⟩ = w.cell? ⟨b, o, none⟩ ∧ w'.frozen? ⟨b, o, none⟩ = w.frozen? ⟨b, o, none⟩ :=
  ⟨World.cell?_of_block (w := w) (hg.block b hb hn), World.frozen?_of_block (w := w) (hg.block b hb hn)⟩
/-- Behind a draw the two boxes are as they were. -/
theorem draw_step {a : Option Addr} {len cap bc N M : Nat} {w2 w3 : World} {u u' : Value} (hs2 : St a len cap bc w2) (h : w2.cell? ⟨M, 0, none⟩ = some u ∧ w2.cell? ⟨N, 0, none⟩ = some u' ∧ w2.frozen? ⟨N, 0, none⟩ = false ∧ w2.frozen? ⟨M, 0, none⟩ = false) (hbc : bc < N) (hN : N < w2.heap.size) (hM : M < w2.heap.size) (hbm : bc < M) (hs3 : St a len cap bc w3) (ho3 : Off bc w2 w3) :
    w3.cell? ⟨M, 0, none⟩ = some u ∧ w3.cell? ⟨N, 0, none⟩ = some u' ∧ w3.frozen? ⟨N, 0, none⟩ = false ∧ w3.frozen? ⟨M, 0, none⟩ = false ∧ Hid (St a len cap bc w3 ∧ Off bc w2 w3) :=
  ⟨(ho3.cell (p := ⟨M, 0, none⟩) hM (by show M ≠ bc; omega)).trans h.1, (ho3.cell (p := ⟨N, 0, none⟩) hN (by show N ≠ bc; omega)).trans h.2.1, (World.frozen?_of_block (w := w2) (w' := w3) (ho3.block N hN (by omega))).trans h.2.2.1, (World.frozen?_of_block (w := w2) (w' := w3) (ho3.block M hM (by omega))).trans h.2.2.2, hide ⟨hs3, ho3⟩⟩

set_option maxRecDepth 100000 in
set_option maxHeartbeats 8000000 in
theorem l4DrawAny_any (a : Option Addr) (len cap bc : Nat) (w : World) (hs : St a len cap bc w) :
    Calls Tryz.prog 118 #[.pointer (some ⟨bc, 0, none⟩)] w fun e w' => ∃ v rs, e = .returned (.agg #[v]) ∧ FewR rs ∧ RoomsFrom (w.heap.size + 1) w' v rs ∧ St a len cap bc w' ∧ Off bc w w' := by
  have Hs := hide hs
  have hbc := st_lt hs
  clear hs
  obtain ⟨i2, hi2, hr0, hr1, hr2⟩ := info_parts infoRoom2
  have Ba : Hid (∀ o, Below w.heap.size w (w.alloc o)) := hide (fun o => (Below.refl _ _).alloc (Nat.le_refl _) _)
  go_enter Tryz.func118, Tryz.ntmps118
  go_wp2_with fail
  refine (l4Draw_any a len cap bc _ (st_below (unhide Hs) ((unhide Ba _).mono (by omega)))).mono ?_
  rintro e w1 ⟨v, qs, rfl, hhb, hown, hs1, ho1⟩
  have hz1 : w.heap.size + 1 ≤ w1.heap.size := by have := ho1.size; simpa using this
  have x0 : w1.cell? ⟨w.heap.size, 0, none⟩ = some (.slice none 0 0) := (ho1.cell (p := ⟨w.heap.size, 0, none⟩) (by simp) (by show w.heap.size ≠ bc; omega)).trans (by simp)
  have x1 : w1.frozen? ⟨w.heap.size, 0, none⟩ = false := (World.frozen?_of_block (w := w.alloc _) (w' := w1) (ho1.block w.heap.size (by simp) (by omega))).trans (by rw [frozen?_alloc_cells]; exact frozen_far (Nat.le_refl _))
  have hqb := hallB_of hhb
  have hql : 1 ≤ qs.length ∧ qs.length ≤ 3 := by simpa using And.intro hqb.1 hqb.2.1
  rcases hown.row.2 with ⟨rfl, hz⟩ | ⟨g, vcap, cur, rfl, hgb, _, hnc, hcm, _⟩
  · omega
  simp only [World.size_alloc] at hgb
  have hown1 : OwnHall (w.heap.size + 1) w1 (.slice (some ⟨g, 0, none⟩) qs.length vcap) qs := by simpa using hown
  have hg1 := (hown1.lt (.inl rfl)).2
  have O1 : Hid (Off bc w w1) := hide ((but_off (But.alloc (But.refl bc w) _)).trans ho1)
  have Hown := hide hown1
  have Hs1 := hide hs1
  have hvc : vcap ≤ 9223372036854775807 := by unfold maxLen at hcm; omega
  have HR := hide (hown1.rooms)
  clear hown hown1 hs1 ho1 hcm
  have Hh : Hid (∀ j, j < qs.length → ∃ pg pcap, (qs.getD j ((0, []), .slice none 0 0)).2 = .slice (some ⟨pg, 0, none⟩) (qs.getD j ((0, []), .slice none 0 0)).1.2.length pcap ∧ 1 ≤ (qs.getD j ((0, []), .slice none 0 0)).1.2.length) := hide (fun j hj => by
    have hq : qs.getD j ((0, []), .slice none 0 0) = qs[j] := by simp [List.getD, hj]
    rw [hq]
    have hp := (unhide Hown).paces qs[j] (List.getElem_mem hj)
    have hb := room_bd (allRooms_of hqb.2.2.1 (j := j) (by simpa using hj))
    have hat : roomAt (qs.map (·.1)) j = qs[j].1 := by unfold roomAt; simp [List.getD, hj]
    rw [hat] at hb
    rcases hp.2 with ⟨_, hz⟩ | ⟨pg, pcap, _, he, _⟩
    · omega
    · exact ⟨pg, pcap, he, hb.2.2.1⟩)
  go_wp2_with fail
  refine (Draw.once_any a len cap bc 6 (by omega) (by omega) _ (st_below (unhide Hs1) (((Below.refl _ _).alloc (Nat.le_refl _) _).mono (by omega)))).mono ?_
  rintro e w2 ⟨ob, rfl, hs2, ho2⟩
  have hz2 : w1.heap.size + 1 ≤ w2.heap.size := by have := ho2.size; simpa using this
  have y0 := (ho2.cell (p := ⟨w.heap.size, 0, none⟩) (by simp; omega) (by show w.heap.size ≠ bc; omega)).trans ((World.cell?_alloc_lt _ _ _ (by show w.heap.size < _; omega)).trans x0)
  have y1 : w2.frozen? ⟨w.heap.size, 0, none⟩ = false := (World.frozen?_of_block (w := w1.alloc _) (w' := w2) (ho2.block w.heap.size (by simp; omega) (by omega))).trans (by rw [frozen?_alloc_cells]; exact x1)
  have y2 : w2.cell? ⟨w1.heap.size, 0, none⟩ = some (.slice (some ⟨g, 0, none⟩) qs.length vcap) := (ho2.cell (p := ⟨w1.heap.size, 0, none⟩) (by simp) (by show w1.heap.size ≠ bc; omega)).trans (by simp)
  have y3 : w2.frozen? ⟨w1.heap.size, 0, none⟩ = false := (World.frozen?_of_block (w := w1.alloc _) (w' := w2) (ho2.block w1.heap.size (by simp) (by omega))).trans (by rw [frozen?_alloc_cells]; exact frozen_far (Nat.le_refl _))
  have O2 : Hid (Off bc w1 w2) := hide ((but_off (But.alloc (But.refl bc w1) _)).trans ho2)
  have Hown2 : Hid (OwnHall (w.heap.size + 1) w2 (.slice (some ⟨g, 0, none⟩) qs.length vcap) qs) := hide ((unhide Hown).but (off_but (unhide O2)) (.inl (by omega)))
  have Hs2 := hide hs2
  clear hs2 ho2 x0 x1
  have hg2 : g ≠ w.heap.size := by omega
  have hN2 : w.heap.size < w2.heap.size := by omega
  have hB2 : w1.heap.size < w2.heap.size := by omega
  have OO : Hid (Off bc w w2) := hide ((unhide O1).trans (unhide O2))
  have H2 : Hid (w2.cell? ⟨w1.heap.size, 0, none⟩ = some (.slice (some ⟨g, 0, none⟩) qs.length vcap) ∧ w2.cell? ⟨w.heap.size, 0, none⟩ = some (.slice none 0 0) ∧ w2.frozen? ⟨w.heap.size, 0, none⟩ = false ∧ w2.frozen? ⟨w1.heap.size, 0, none⟩ = false) := hide ⟨y2, y0, y1, y3⟩
  cases ob
  · go_wp2_with fail
    refine bodyPost_ret (v := .agg #[.slice (some ⟨g, 0, none⟩) qs.length vcap]) (by simp [results, Tryz.results118, go_sem, *]) rfl ⟨_, qs.map (·.1), rfl, by unfold FewR; rw [List.length_map]; omega, ?_, st_below (unhide Hs2) ((Below.refl (bc + 1) w2).setCell (by show bc + 1 ≤ w.heap.size; omega) _), off_below (unhide OO) ((Below.refl w.heap.size w2).setCell (Nat.le_refl w.heap.size) _)⟩
    exact ((unhide Hown2).but ((But.refl w.heap.size w2).setCell 0 _) (.inl (by omega))).from
  · go_upto_region 3 with fail
    go_cut [4] (fun s wc => ∃ j : Nat, j < qs.length ∧ s = .pointer (some ⟨g, j * 2, none⟩) ∧ St a len cap bc wc ∧ Off bc w2 wc)
    case first =>
      go_region_with (go_at_call 95; refine (Draw.below_any a len cap bc (qs.length : Int) ?_ ?_ _ ?_).mono ?_; omega; omega; exact st_drew (unhide Hs2); rintro e w3 ⟨x, rfl, hx0, hx1, hs3, ho3⟩; obtain ⟨j, rfl⟩ := Int.eq_ofNat_of_zero_le hx0; obtain ⟨q2, q0, q1, q3, Hj⟩ := draw_step (unhide Hs2) (unhide H2) hbc hN2 hB2 (by omega) hs3 (off_drew ho3); clear hs3 ho3)
      all_goals
        go_wp2_with fail
        go_meet
        exact ⟨j, by omega, by simp, (unhide Hj).1, (unhide Hj).2⟩
    case rest =>
      obtain ⟨j, hj, rfl, hs3, ho3⟩ := hcut
      obtain ⟨w3, rfl⟩ : ∃ w3, w3 = wc := ⟨wc, rfl⟩
      have hz3 := ho3.size
      obtain ⟨q2, q0, q1, q3, Hj⟩ := draw_step (unhide Hs2) (unhide H2) hbc hN2 hB2 (by omega) hs3 ho3
      have H3 : Hid (w3.cell? ⟨w1.heap.size, 0, none⟩ = some (.slice (some ⟨g, 0, none⟩) qs.length vcap) ∧ w3.cell? ⟨w.heap.size, 0, none⟩ = some (.slice none 0 0) ∧ w3.frozen? ⟨w.heap.size, 0, none⟩ = false ∧ w3.frozen? ⟨w1.heap.size, 0, none⟩ = false) := hide ⟨q2, q0, q1, q3⟩
      clear hs3 ho3 y0 y1 y2 y3 q2 q0 q1 q3
      go_wp2_with fail
      refine (Draw.below_any a len cap bc 4 (by omega) (by omega) _ (unhide Hj).1).mono ?_
      rintro e w4 ⟨x, rfl, hx0, hx1, hs4, ho4⟩
      have hz4 := ho4.size
      have O4 : Hid (Off bc w2 w4) := hide ((unhide Hj).2.trans ho4)
      obtain ⟨q2, q0, q1, q3, Hk⟩ := draw_step (unhide Hj).1 (unhide H3) hbc (by omega) (by omega) (by omega) hs4 ho4
      have H4 : Hid (w4.cell? ⟨w1.heap.size, 0, none⟩ = some (.slice (some ⟨g, 0, none⟩) qs.length vcap) ∧ w4.cell? ⟨w.heap.size, 0, none⟩ = some (.slice none 0 0) ∧ w4.frozen? ⟨w.heap.size, 0, none⟩ = false ∧ w4.frozen? ⟨w1.heap.size, 0, none⟩ = false) := hide ⟨q2, q0, q1, q3⟩
      clear hs4 ho4
      have hx : x = 0 ∨ x = 1 ∨ x = 2 ∨ x = 3 := by omega
      clear hx0 hx1
      rcases hx with rfl | rfl | rfl | rfl
      · go_wp2_with fail
        refine (Draw.from_any a len cap bc 0 5 (by omega) (by omega) (by omega) _ (unhide Hk).1).mono ?_
        rintro e w5 ⟨y, rfl, hy0, hy1, hs5, ho5⟩
        have hz5 := ho5.size
        have O5 : Hid (Off bc w2 w5) := hide ((unhide O4).trans ho5)
        have Hs5 := hide hs5
        clear q2 q0 q1 q3
        obtain ⟨q2, q0, q1, q3, _⟩ := draw_step (unhide Hk).1 (unhide H4) hbc (by omega) (by omega) (by omega) hs5 ho5
        have Hown5 := (unhide Hown2).but (off_but (unhide O5)) (.inl (by omega))
        obtain ⟨⟨c1, hc1⟩, hf1⟩ := own_cell Hown5.row (j := j * 2) (by omega)
        obtain ⟨rs, hrs, hir⟩ := own_bench Hown5 hj hql.2 y
        have Hrs := hide hrs
        have Hir := hide hir
        have hgN : w.heap.size < w5.heap.size := by omega
        have hgM : w1.heap.size < w5.heap.size := by omega
        have hgne : w.heap.size ≠ g := by omega
        have hgne2 : w1.heap.size ≠ g := by omega
        clear Hown5 hs5 ho5 hrs hir
        go_wp2_with fail
        refine bodyPost_ret (v := .agg #[.slice (some ⟨g, 0, none⟩) qs.length vcap]) (by simp [results, Tryz.results118, go_sem, *]) rfl ⟨_, rs, rfl, unhide Hrs, (unhide Hir).set _ _ _ (by omega), st_below (unhide Hs5) (((Below.refl (bc + 1) w5).setCell (by show bc + 1 ≤ g; omega) _).setCell (by show bc + 1 ≤ w.heap.size; omega) _), off_below ((unhide OO).trans (unhide O5)) (((Below.refl w.heap.size w5).setCell (by show w.heap.size ≤ g; omega) _).setCell (Nat.le_refl w.heap.size) _)⟩
      · have Hown4 := (unhide Hown2).but (off_but (unhide O4)) (.inl (by omega))
        obtain ⟨pg, pcap, hpe, hp1⟩ := unhide Hh j hj
        have hqd : qs.getD j ((0, []), .slice none 0 0) = qs[j] := by simp [List.getD, hj]
        rw [hqd] at hpe hp1
        have hpa := Hown4.paces qs[j] (List.getElem_mem hj)
        have hpb : w.heap.size + 1 ≤ pg ∧ pg < w4.heap.size := hpa.lt (by rw [hpe]; rfl)
        have hpb1 : pg < w1.heap.size := ((unhide Hown).lt (.inr ⟨qs[j], List.getElem_mem hj, by rw [hpe]; rfl⟩)).2
        have hc1 : w4.cell? ⟨g, j * 2 + 1, none⟩ = some (.slice (some ⟨pg, 0, none⟩) qs[j].1.2.length pcap) := by
          rw [← hpe]; exact (World.ownsRow.cellAt Hown4.row (j * 2 + 1) (by omega)).trans (pairs_get (f := fun q : RoomV × Value => Value.int .i64 q.1.1) (g := fun q : RoomV × Value => q.2) qs j hj).2
        have hc2 : (∃ c, w4.cell? ⟨pg, 0, none⟩ = some c) ∧ w4.frozen? ⟨pg, 0, none⟩ = false := by
          unfold PacesAt at hpa; rw [hpe] at hpa; exact own_cell hpa (by omega)
        obtain ⟨⟨c2, hc2⟩, hf2⟩ := hc2
        have hl4 : qs[j].1.2.length ≤ 9223372036854775807 := by obtain ⟨_, _, _, hcp, hmp, _⟩ := hpa.paces; omega
        have HP : Hid (∀ (w5 : World) (x : Int), Off bc w4 w5 → ∃ rs, FewR rs ∧ RoomsFrom (w.heap.size + 1) (w5.setCell ⟨pg, 0, none⟩ (.int .i64 x)) (.slice (some ⟨g, 0, none⟩) qs.length vcap) rs) := hide (fun w5 x ho => own_pace (Hown4.but (off_but ho) (.inl (by omega))) hj hp1 hpe (by omega) hql.2 x)
        generalize qs[j].1.2.length = pl at *
        clear Hown4 hpe hqd hpa
        have hgw4 : g < w4.heap.size := by omega
        have hpw4 : pg < w4.heap.size := by omega
        have HLIT : Hid (∀ k : Nat, k < 3 → ∃ c : Int, (#[Value.int .i64 0, .int .i64 1024, .int .i64 1025] : Array Value)[k]? = some (.int .i64 c)) := hide (fun k hk => Draw.pick_any _ k hk (by decide))
        go_wp2_with fail
        go_region_with (go_at_call 95; refine (Draw.below_any a len cap bc 3 ?_ ?_ _ ?_).mono ?_; omega; omega; (first | exact st_drew (unhide Hk).1 | exact st_drew (st_below (unhide Hk).1 (((Below.refl _ _).alloc (Nat.le_refl _) _).mono (by omega)))); rintro e w5 ⟨x, rfl, hx0, hx1, hs5, ho5⟩; obtain ⟨j5, rfl⟩ := Int.eq_ofNat_of_zero_le hx0; obtain ⟨c5, hc5⟩ := unhide HLIT j5 (by omega); have hoW : Off bc w4 w5 := (by first | exact off_drew ho5 | exact (but_off (But.alloc (But.refl bc w4) _)).trans (off_drew ho5)); have d1 := (hoW.cell (p := ⟨g, j * 2 + 1, none⟩) (show g < w4.heap.size by omega) (show g ≠ bc by omega)).trans hc1; have d2 := (hoW.cell (p := ⟨pg, 0, none⟩) (show pg < w4.heap.size by omega) (show pg ≠ bc by omega)).trans hc2; have d3 := (World.frozen?_of_block (w := w4) (w' := w5) (a := ⟨pg, 0, none⟩) (hoW.block pg (by omega) (by omega))).trans hf2; obtain ⟨e1, e2, e3, e4, HD⟩ := draw_step (unhide Hk).1 (unhide H4) hbc (by omega) (by omega) (by omega) hs5 hoW; obtain ⟨rs, hrs, hir⟩ := unhide HP w5 c5 hoW; have Hrs := hide hrs; have Hir := hide hir; have hz5 := hoW.size; have hgw5 : g < w5.heap.size := (by omega); have hpw5 : pg < w5.heap.size := (by omega); have hNw5 : w.heap.size < w5.heap.size := (by omega); have hMw5 : w1.heap.size < w5.heap.size := (by omega); have HO5 : Hid (Off bc w w5) := hide ((unhide OO).trans ((unhide O4).trans hoW)); have HS5 := hide hs5; (first | have hl5 : w5.cell? ⟨w4.heap.size, j5, none⟩ = some (.int .i64 c5) := ((off_drew ho5).cell (p := ⟨w4.heap.size, j5, none⟩) (by simp) (show w4.heap.size ≠ bc by omega)).trans ((World.cell?_alloc_new _ _ _ _).trans hc5) | skip); clear hs5 ho5 hoW hrs hir)
        all_goals
          go_wp2_with fail
          refine bodyPost_ret (v := .agg #[.slice (some ⟨g, 0, none⟩) qs.length vcap]) (by simp [results, Tryz.results118, go_sem, *]) rfl ⟨_, rs, rfl, unhide Hrs, ?_, ?_, ?_⟩
          · first
              | exact (unhide Hir).set _ _ _ (by omega)
              | exact ((unhide Hir).set _ _ _ (by omega)).later ((Below.refl _ _).alloc (Nat.le_refl _) _)
          · first
              | exact st_below (unhide HS5) (((Below.refl (bc + 1) w5).setCell (show bc + 1 ≤ pg by omega) _).setCell (show bc + 1 ≤ w.heap.size by omega) _)
              | exact st_below (unhide HS5) ((((Below.refl (bc + 1) w5).setCell (show bc + 1 ≤ pg by omega) _).setCell (show bc + 1 ≤ w.heap.size by omega) _).alloc (by simp; omega) _)
          · first
              | exact off_below (unhide HO5) (((Below.refl w.heap.size w5).setCell (show w.heap.size ≤ pg by omega) _).setCell (Nat.le_refl w.heap.size) _)
              | exact off_below (unhide HO5) ((((Below.refl w.heap.size w5).setCell (show w.heap.size ≤ pg by omega) _).setCell (Nat.le_refl w.heap.size) _).alloc (by simp; omega) _)
      · have Hown4 := (unhide Hown2).but (off_but (unhide O4)) (.inl (by omega))
        obtain ⟨pg, pcap, hpe, hp1⟩ := unhide Hh j hj
        have hqd : qs.getD j ((0, []), .slice none 0 0) = qs[j] := by simp [List.getD, hj]
        rw [hqd] at hpe hp1
        have hpa := Hown4.paces qs[j] (List.getElem_mem hj)
        have hpb : w.heap.size + 1 ≤ pg ∧ pg < w4.heap.size := hpa.lt (by rw [hpe]; rfl)
        have hpb1 : pg < w1.heap.size := ((unhide Hown).lt (.inr ⟨qs[j], List.getElem_mem hj, by rw [hpe]; rfl⟩)).2
        have hc1 : w4.cell? ⟨g, j * 2 + 1, none⟩ = some (.slice (some ⟨pg, 0, none⟩) qs[j].1.2.length pcap) := by
          rw [← hpe]; exact (World.ownsRow.cellAt Hown4.row (j * 2 + 1) (by omega)).trans (pairs_get (f := fun q : RoomV × Value => Value.int .i64 q.1.1) (g := fun q : RoomV × Value => q.2) qs j hj).2
        have hc2 : (∃ c, w4.cell? ⟨pg, 1, none⟩ = some c) ∧ w4.frozen? ⟨pg, 1, none⟩ = false := by
          unfold PacesAt at hpa; rw [hpe] at hpa; exact own_cell hpa (by omega)
        obtain ⟨⟨c2, hc2⟩, hf2⟩ := hc2
        have hl4 : qs[j].1.2.length ≤ 9223372036854775807 := by obtain ⟨_, _, _, hcp, hmp, _⟩ := hpa.paces; omega
        have HP : Hid (∀ (w5 : World) (x : Int), Off bc w4 w5 → ∃ rs, FewR rs ∧ RoomsFrom (w.heap.size + 1) (w5.setCell ⟨pg, 1, none⟩ (.int .i64 x)) (.slice (some ⟨g, 0, none⟩) qs.length vcap) rs) := hide (fun w5 x ho => own_pace (Hown4.but (off_but ho) (.inl (by omega))) hj hp1 hpe (by omega) hql.2 x)
        generalize qs[j].1.2.length = pl at *
        clear Hown4 hpe hqd hpa
        have hgw4 : g < w4.heap.size := by omega
        have hpw4 : pg < w4.heap.size := by omega
        have HLIT : Hid (∀ k : Nat, k < 3 → ∃ c : Int, (#[Value.int .i64 0, .int .i64 1024, .int .i64 1025] : Array Value)[k]? = some (.int .i64 c)) := hide (fun k hk => Draw.pick_any _ k hk (by decide))
        go_wp2_with fail
        go_region_with (go_at_call 95; refine (Draw.below_any a len cap bc 3 ?_ ?_ _ ?_).mono ?_; omega; omega; (first | exact st_drew (unhide Hk).1 | exact st_drew (st_below (unhide Hk).1 (((Below.refl _ _).alloc (Nat.le_refl _) _).mono (by omega)))); rintro e w5 ⟨x, rfl, hx0, hx1, hs5, ho5⟩; obtain ⟨j5, rfl⟩ := Int.eq_ofNat_of_zero_le hx0; obtain ⟨c5, hc5⟩ := unhide HLIT j5 (by omega); have hoW : Off bc w4 w5 := (by first | exact off_drew ho5 | exact (but_off (But.alloc (But.refl bc w4) _)).trans (off_drew ho5)); have d1 := (hoW.cell (p := ⟨g, j * 2 + 1, none⟩) (show g < w4.heap.size by omega) (show g ≠ bc by omega)).trans hc1; have d2 := (hoW.cell (p := ⟨pg, 1, none⟩) (show pg < w4.heap.size by omega) (show pg ≠ bc by omega)).trans hc2; have d3 := (World.frozen?_of_block (w := w4) (w' := w5) (a := ⟨pg, 1, none⟩) (hoW.block pg (by omega) (by omega))).trans hf2; obtain ⟨e1, e2, e3, e4, HD⟩ := draw_step (unhide Hk).1 (unhide H4) hbc (by omega) (by omega) (by omega) hs5 hoW; obtain ⟨rs, hrs, hir⟩ := unhide HP w5 c5 hoW; have Hrs := hide hrs; have Hir := hide hir; have hz5 := hoW.size; have hgw5 : g < w5.heap.size := (by omega); have hpw5 : pg < w5.heap.size := (by omega); have hNw5 : w.heap.size < w5.heap.size := (by omega); have hMw5 : w1.heap.size < w5.heap.size := (by omega); have HO5 : Hid (Off bc w w5) := hide ((unhide OO).trans ((unhide O4).trans hoW)); have HS5 := hide hs5; (first | have hl5 : w5.cell? ⟨w4.heap.size, j5, none⟩ = some (.int .i64 c5) := ((off_drew ho5).cell (p := ⟨w4.heap.size, j5, none⟩) (by simp) (show w4.heap.size ≠ bc by omega)).trans ((World.cell?_alloc_new _ _ _ _).trans hc5) | skip); clear hs5 ho5 hoW hrs hir)
        all_goals
          go_wp2_with fail
          refine bodyPost_ret (v := .agg #[.slice (some ⟨g, 0, none⟩) qs.length vcap]) (by simp [results, Tryz.results118, go_sem, *]) rfl ⟨_, rs, rfl, unhide Hrs, ?_, ?_, ?_⟩
          · first
              | exact (unhide Hir).set _ _ _ (by omega)
              | exact ((unhide Hir).set _ _ _ (by omega)).later ((Below.refl _ _).alloc (Nat.le_refl _) _)
          · first
              | exact st_below (unhide HS5) (((Below.refl (bc + 1) w5).setCell (show bc + 1 ≤ pg by omega) _).setCell (show bc + 1 ≤ w.heap.size by omega) _)
              | exact st_below (unhide HS5) ((((Below.refl (bc + 1) w5).setCell (show bc + 1 ≤ pg by omega) _).setCell (show bc + 1 ≤ w.heap.size by omega) _).alloc (by simp; omega) _)
          · first
              | exact off_below (unhide HO5) (((Below.refl w.heap.size w5).setCell (show w.heap.size ≤ pg by omega) _).setCell (Nat.le_refl w.heap.size) _)
              | exact off_below (unhide HO5) ((((Below.refl w.heap.size w5).setCell (show w.heap.size ≤ pg by omega) _).setCell (Nat.le_refl w.heap.size) _).alloc (by simp; omega) _)
      · have Hown4 := (unhide Hown2).but (off_but (unhide O4)) (.inl (by omega))
        have HO4 := hide Hown4
        have HM : Hid (∀ k, ((Value.slice (some ⟨g, 0, none⟩) qs.length vcap).ownBlock = some k ∨ ∃ q ∈ qs, q.2.ownBlock = some k) → k < w1.heap.size) := hide (fun k e => ((unhide Hown).lt e).2)
        have Hcells : Hid (∀ j u, (rcells qs)[j]? = some u → w4.cell? ((⟨g, 0, none⟩ : Addr).add j) = some u) := hide (fun j u e => by
          have hjl : j < qs.length * 2 := by have := (List.getElem?_eq_some_iff.1 e).1; rw [show (rcells qs).length = qs.length * 2 from pairs_len qs] at this; exact this
          have hc := (World.ownsRow.cellAt Hown4.row j hjl).trans e
          unfold Addr.add
          by_cases hj0 : j = 0
          · subst hj0; simpa using hc
          · simpa [hj0] using hc)
        have Hone : Hid (∀ u ∈ rcells qs, u.oneCell' = true) := hide (fun u hu => by
          unfold rcells at hu
          obtain ⟨q, hq, hu⟩ := List.mem_flatMap.1 hu
          have hsh := (Hown4.paces q hq).shape
          obtain ⟨qa, qc, hqe⟩ := hsh
          simp at hu
          rcases hu with rfl | rfl
          · rfl
          · rw [hqe]; rfl)
        clear Hown4
        go_wp2_with (at_builtin; go_must (refine wpList_append_own_at _ rfl _ _ 24 rfl (w.heap.size + 1) 95 i2 (.agg #[.int .i64 0, .slice none 0 0]) 2 32 Tryz.underlying24 hi2 hr0 hr1 hr2 rfl (by decide) (.slice (some ⟨g, 0, none⟩) qs.length vcap) qs.length (rcells qs) rfl (unhide HO4).row ⟨g, 0, none⟩ qs.length vcap (rcells qs) rfl (pairs_len qs) (unhide Hcells) (unhide Hone) (by simp only [maxLen]; omega) (by omega) (by omega) ?_); go_must (intro v' w6 hown' hgrow0 _ hat; have hgrow : w4.grownBy w6 (some g) := hgrow0; obtain ⟨va', vc', rfl⟩ : ∃ a c, v' = .slice a (qs.length + qs.length) c := own_shape3 hown'; have hB6 : Below (w.heap.size + 1) w4 w6 := (Below.refl (w.heap.size + 1) w4).grown hgrow (by omega) (fun k e => by (have h0 : g = k := Option.some.inj e); omega); obtain ⟨rs, hrs, hir⟩ := own_twice (unhide HO4) (unhide HM) (by omega) hown' hgrow0 hat hql.1 hql.2 (.slice va' (qs.length + qs.length) vc'); have e1 := (grown_cell hgrow (show w1.heap.size < w4.heap.size by omega) (fun e => by (have h0 : w1.heap.size = g := Option.some.inj e); omega)).1.trans q2; have e2 := (grown_cell hgrow (show w1.heap.size < w4.heap.size by omega) (fun e => by (have h0 : w1.heap.size = g := Option.some.inj e); omega)).2.trans q3; have e3 := (hB6.cell (p := ⟨w.heap.size, 0, none⟩) (Nat.lt_succ_self _)).trans q0; have e4 := (hB6.frozen (p := ⟨w.heap.size, 0, none⟩) (Nat.lt_succ_self _)).trans q1; have Hrs := hide hrs; have Hir := hide hir; have HB6 := hide hB6; have hz6 := hB6.size; clear hown' hgrow hgrow0 hat hrs hir hB6))
        refine bodyPost_ret (v := .agg #[.slice va' (qs.length + qs.length) vc']) (by simp [results, Tryz.results118, go_sem, *]) rfl ⟨_, rs, rfl, unhide Hrs, (unhide Hir).set _ _ _ (by omega), st_below (unhide Hk).1 ((((unhide HB6).mono (by omega)).setCell (by show bc + 1 ≤ w1.heap.size; omega) _).setCell (by show bc + 1 ≤ w.heap.size; omega) _), off_below ((unhide OO).trans (unhide O4)) ((((unhide HB6).mono (by omega)).setCell (by show w.heap.size ≤ w1.heap.size; omega) _).setCell (Nat.le_refl w.heap.size) _)⟩

end Go.Proofs.YtmhagllddhjgmaaGreat

