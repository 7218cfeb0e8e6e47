/- Contract of the model's ShowHall: it returns the text that the lists say and writes into no memory that was there. Condition: the hall can be read. -/
import Derived.Test.YtnofnjddbflpmaaDoorHallShow
namespace Go.Proofs.YtnofnjddbflpmaaDoor
open Go.ChangeShapes Go.WideShapes Go.ChangeAt Go.RowKit Go.Sort
open Go.Lib (decDigits itoa join joinTail)
set_option linter.unusedVariables false

theorem word_more (s : Txt) (f c : Int) : ((((bs s ++ (⟨#[32]⟩ : ByteArray)) ++ bs (itoa f)) ++ ⟨#[58]⟩) ++ bs (itoa c)) = bs (s ++ ([32] ++ showPace (f, c))) := by
  refine bs_of ?_
  simp only [cat_data, bs_data, showPace]
  simp

set_option maxRecDepth 100000 in
set_option maxHeartbeats 8000000 in
theorem specShowHall_any {w : World} {v : Value} {rs : List RoomV} (h : IsRooms w v rs) :
    Calls Tryd.prog 13 #[.agg #[v]] w fun e w' => e = .returned (.string (bs (showHall rs))) ∧ Below w.heap.size w w' := by
  have Hv := hide h
  obtain ⟨a, cap, rfl, hc, hm, hrow⟩ := h
  clear hrow
  cases hh : hallB rs
  · rw [showHall_f hh]
    go_enter Tryd.func13, Tryd.ntmps13
    go_wp2_with fail
    refine (specHallOk_any ((unhide Hv).below ((Below.refl _ _).alloc (Nat.le_refl _) _))).mono ?_
    rintro e w1 ⟨rfl, hb⟩
    have B1 : Hid (Below w.heap.size w w1) := hide (((Below.refl _ _).alloc (Nat.le_refl _) _).trans (hb.mono (by simp)))
    clear hb
    go_wp2_with fail
    go_ret
    exact ⟨rfl, unhide B1⟩
  rw [showHall_t hh]
  have Hh := hide hh
  obtain ⟨hl1, hl3, hall, _⟩ := hallB_of hh
  have Hall := hide hall
  clear hall
  obtain ⟨i0, hi, hz0, hz1, hz2⟩ := info_parts infoStr
  go_enter Tryd.func13, Tryd.ntmps13
  go_wp2_with fail
  refine (specHallOk_any ((unhide Hv).below ((Below.refl _ _).alloc (Nat.le_refl _) _))).mono ?_
  rintro e w1 ⟨rfl, hb⟩
  have hz : w.heap.size + 1 ≤ w1.heap.size := by have := hb.size; simpa using this
  have X1 : Hid (w1.cell? ⟨w.heap.size, 0, none⟩ = some (.slice a rs.length cap)) := hide ((hb.cell (p := ⟨w.heap.size, 0, none⟩) (by simp)).trans (by simp))
  have B1 : Hid (Below w.heap.size w w1) := hide (((Below.refl _ _).alloc (Nat.le_refl _) _).trans (hb.mono (by simp)))
  clear hb
  have hv1 := (unhide Hv).below (unhide B1)
  obtain ⟨a', cap', he, _, _, hrow⟩ := hv1
  cases he
  rcases hrow with h0 | ⟨bk, off, rfl, hbw, hcl⟩
  · rw [h0] at hl1; simp at hl1
  have Hcl := hide hcl
  clear hcl
  have hlt0 : w.heap.size < w1.heap.size := by omega
  go_wp2_with fail
  clear hh
  go_loopw [3, 4] (fun s i wr => ∃ k : Nat, k ≤ rs.length ∧ i = .int .i64 k ∧ StrsAt w1.heap.size wr s ((rs.take k).map showRoom) ∧ Below w1.heap.size w1 wr) (fun _ i _ => rs.length - (intOf i).toNat)
  case atStart => exact ⟨0, Nat.zero_le _, rfl, World.ownsRow_lit w1 #[] 0 (Nat.le_refl _) (by simp [maxLen]) rfl, (Below.refl _ _).alloc (Nat.le_refl _) _⟩
  case round =>
    obtain ⟨k, hk, rfl, hst, hb⟩ := hrel
    obtain ⟨wo, hwo⟩ : ∃ wo, wo = wr := ⟨wr, rfl⟩
    subst hwo
    have Hst := hide hst
    have Hb := hide hb
    have hzr := hb.size
    have hlenk : ((rs.take k).map showRoom).length = k := by simp; omega
    have x0 := (hb.cell (p := ⟨w.heap.size, 0, none⟩) hlt0).trans (unhide X1)
    have X0 := hide x0
    clear hst
    by_cases hlt : k < rs.length
    · obtain ⟨c0, pv, c1, hip⟩ := unhide Hcl k hlt
      rw [← hb.cell (p := ⟨bk, off + k * 2, none⟩) hbw] at c0
      rw [← hb.cell (p := ⟨bk, off + k * 2 + 1, none⟩) hbw] at c1
      have HS := hide (rooms_take hlt)
      have hrb := allRooms_of (unhide Hall) hlt
      generalize roomAt rs k = r at *
      obtain ⟨rb, ps⟩ := r
      simp only at c0 c1 hip
      obtain ⟨hb1, hb4, hp1, hp4⟩ := room_bd hrb
      simp only at hb1 hb4 hp1 hp4
      have hip' := hip.below hb
      obtain ⟨pa, pcap, rfl, hpc, hpm, hprow⟩ := hip'
      rcases hprow with h0 | ⟨pb, poff, rfl, hpw, hpcl⟩
      · rw [h0] at hp1; simp at hp1
      have Hpcl := hide hpcl
      have Hrb := hide hrb
      have C1 := hide c1
      clear hip hrb hb hpcl
      obtain ⟨P, hP⟩ : ∃ P, P = (rs.take k).map showRoom := ⟨_, rfl⟩
      rw [← hP] at Hst HS hlenk
      clear hP
      go_wp2_with fail
      refine (l1Int_any rb (by omega) (by omega) _).mono ?_
      rintro e w2 ⟨rfl, hb2⟩
      have Hb2 := hide hb2
      have hzw2 := hb2.size
      clear hb2 c0
      go_wp2_with fail
      go_loopw [5, 6] (fun s i wi => ∃ j : Nat, j ≤ ps.length ∧ i = .int .i64 j ∧ s = .string (bs (preR rb ps j)) ∧ Below wo.heap.size wo wi) (fun _ i _ => ps.length - (intOf i).toNat)
      case atStart => exact ⟨0, Nat.zero_le _, rfl, by rw [preR_0], unhide Hb2⟩
      case round =>
        obtain ⟨j, hj, rfl, rfl, hbi⟩ := hrel
        have Hbi := hide hbi
        have hzi := hbi.size
        have y0 := (hbi.cell (p := ⟨w.heap.size, 0, none⟩) (show w.heap.size < wo.heap.size by omega)).trans (unhide X0)
        have y1 := (hbi.cell (p := ⟨bk, off + k * 2 + 1, none⟩) (show bk < wo.heap.size by omega)).trans (unhide C1)
        clear x0 c1
        by_cases hjl : j < ps.length
        · obtain ⟨d0, d1⟩ := unhide Hpcl j hjl
          rw [← hbi.cell (p := ⟨pb, poff + j * 2, none⟩) hpw] at d0
          rw [← hbi.cell (p := ⟨pb, poff + j * 2 + 1, none⟩) hpw] at d1
          have hpb := room_pace' (unhide Hrb) hjl
          have HQ := hide (preR_s rb hjl)
          have hpl := preR_len (unhide Hrb) j (by omega)
          generalize paceAt ps j = p at *
          obtain ⟨f, c⟩ := p
          simp only at d0 d1 hpb
          obtain ⟨f0, f1, g0, g1⟩ := hpb
          have lf := itoa_len f (by omega) (by omega)
          have lc := itoa_len c (by omega) (by omega)
          have HW := hide (word_more (preR rb ps j) f c)
          have sS := bs_size (preR rb ps j)
          have sF := bs_size (itoa f)
          have sC := bs_size (itoa c)
          have sA := size_app (bs (preR rb ps j)) ⟨#[32]⟩
          have sB := size_app (bs (preR rb ps j) ++ ⟨#[32]⟩) (bs (itoa f))
          have sD := size_app ((bs (preR rb ps j) ++ ⟨#[32]⟩) ++ bs (itoa f)) ⟨#[58]⟩
          have s32 : (⟨#[32]⟩ : ByteArray).size = 1 := rfl
          have s58 : (⟨#[58]⟩ : ByteArray).size = 1 := rfl
          have l1 : (bs (preR rb ps j)).size + (⟨#[32]⟩ : ByteArray).size ≤ 9223372036854775807 := by omega
          have l2 : (bs (preR rb ps j) ++ ⟨#[32]⟩).size + (bs (itoa f)).size ≤ 9223372036854775807 := by omega
          have l3 : ((bs (preR rb ps j) ++ ⟨#[32]⟩) ++ bs (itoa f)).size + (⟨#[58]⟩ : ByteArray).size ≤ 9223372036854775807 := by omega
          have l4 : (((bs (preR rb ps j) ++ ⟨#[32]⟩) ++ bs (itoa f)) ++ ⟨#[58]⟩).size + (bs (itoa c)).size ≤ 9223372036854775807 := by omega
          have m1 : (bs (preR rb ps j)).size + 1 ≤ 9223372036854775807 := by omega
          have m2 : (bs (preR rb ps j)).size + 1 + (bs (itoa f)).size ≤ 9223372036854775807 := by omega
          have m3 : (bs (preR rb ps j)).size + 1 + (bs (itoa f)).size + 1 ≤ 9223372036854775807 := by omega
          have m4 : (bs (preR rb ps j)).size + 1 + (bs (itoa f)).size + 1 + (bs (itoa c)).size ≤ 9223372036854775807 := by omega
          have k0 := cell_regrown y0
          have k1 := cell_regrown y1
          have k2 := cell_regrown d0
          have k3 := cell_regrown d1
          clear sS sF sC sA sB sD s32 s58 lf lc hpl hbi
          go_wp2_with fail
          refine wp_region_quiet_below (by kernel_rfl) (by kernel_rfl) ?_
          repeat (go_big_quiet_step (exact Calls.regrown_of (l1Int_any _ (by omega) (by omega) _)))
          refine wpQuiet_nil ?_
          intro _ hw'
          obtain ⟨⟨dq, osq⟩, hw''⟩ := hw'
          subst hw''
          go_wp2_with fail
          go_roundw
          case rel => exact ⟨j + 1, by omega, by go_num, by rw [unhide HQ, unhide HW], (unhide Hbi).trans ((below_regrown _ _ _).mono hzi)⟩
          case measure => simp [intOf]; omega
        · obtain rfl : j = ps.length := by omega
          rw [preR_all]
          have HWi : Hid (Below w1.heap.size w1 wr) := hide ((unhide Hb).trans (hbi.mono hzr))
          have Hst2 : Hid (StrsAt w1.heap.size wr _ P) := hide ((unhide Hst).later hbi)
          clear hbi
          go_wp2_with (at_builtin; refine wpList_append_own _ rfl _ _ 42 rfl w1.heap.size 9 i0 (.string ByteArray.empty) 1 16 Tryd.underlying42 hi hz0 hz1 hz2 rfl (by decide) _ _ _ rfl (World.ownsRow.alloc (unhide Hst2) _) ⟨_, 0, none⟩ 1 1 [.string (bs (showRoom (rb, ps)))] rfl rfl (cell_one_new _ _ _) (by simp [Value.oneCell']) (by simp only [maxLen]; omega) (by omega) (by have := (unhide HWi).size; simp; omega) ?_; intro v' w3 hown' hgrow _; have R := app_strs (unhide Hst2) (unhide HWi) hown' hgrow; have HR := hide R; clear hown' hgrow R)
          go_roundw
          case rel => exact ⟨k + 1, by omega, by go_num, by rw [unhide HS]; exact (unhide HR).1, (unhide HR).2⟩
          case measure => simp [intOf]; omega
    · obtain rfl : k = rs.length := by omega
      rw [List.take_length] at Hst
      clear hb
      go_wp2_with fail
      refine (l1Words_any [47] 197 (unhide Hst) (by simp; omega) (by omega) (by simp) (rooms_len (unhide Hh))).mono ?_
      rintro e w2 ⟨rfl, hw2⟩
      subst w2
      go_wp2_with fail
      go_ret
      exact ⟨rfl, (unhide B1).trans ((unhide Hb).mono (by omega))⟩

end Go.Proofs.YtnofnjddbflpmaaDoor
