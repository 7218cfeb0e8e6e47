/- Contract of the program's ShowAct: it returns the text that the lists say and writes into no memory that was there. Conditions: the library's table of powers of ten lies as its text lays it; the numbers are int64. -/
import Derived.Test.YtmdgokjeobnnaaaDoorActForms
import Derived.Test.YtmdgokjeobnnaaaDoorHallShow
namespace Go.Proofs.YtmdgokjeobnnaaaDoor
open Go.ChangeShapes Go.WideShapes Go.ChangeAt Go.RowKit Go.Sort
open Go.Lib (decDigits itoa join joinTail)
set_option linter.unusedVariables false
set_option linter.unusedSimpArgs false
set_option maxRecDepth 100000

def fitA (a : ActV) : Prop := ∀ i, i ≤ 2 → -9223372036854775808 ≤ numA a i ∧ numA a i ≤ 9223372036854775807
theorem shown_len {w : Txt} {t : List Nat} {a : ActV} (ha : fitA a) (ht : ∀ i ∈ t, i ≤ 2) (hw : w.length ≤ 21) : ∀ z ∈ shownL w t a, z.length ≤ 21 := by
  intro z hz
  unfold shownL at hz
  rcases List.mem_cons.1 hz with rfl | hz
  · exact hw
  · obtain ⟨i, hi, rfl⟩ := List.mem_map.1 hz
    have := ha i (ht i hi)
    exact itoa_len _ this.1 this.2
set_option maxHeartbeats 8000000 in
theorem shown_any {w : World} {v : Value} {t : List Nat} (k : Int) (wd : Txt) (a : ActV) (h : PartsAt w v t) (ht : ∀ i ∈ t, i ≤ 2) (hn : t.length ≤ 3) (hw : wd.length ≤ 21) (ha : fitA a) (he : Tab w) :
    Calls Tryd.prog 16 #[.agg #[.int .i64 k, .string (bs wd), v], .agg #[.int .i64 a.1, .int .i64 a.2.1, .int .i64 a.2.2.1, .int .i64 a.2.2.2]] w fun e w' => e = .returned (.string (bs (join (shownL wd t a) [32]))) ∧ Below w.heap.size w w' := by
  obtain ⟨b, cap, rfl, hp⟩ := h
  have Hp := hide hp
  have He := hide he
  have Ht := hide ht
  have Ha := hide ha
  have Hw := hide hw
  obtain ⟨i0, hi, hz0, hz1, hz2⟩ := info_parts infoStr
  have hjl := join_len [32] 21 (shownL wd t a) (shown_len ha ht hw)
  have Hjl : Hid ((join (shownL wd t a) [32]).length ≤ 1000000) := hide (by rw [shownL_len] at hjl; simp only [List.length_cons, List.length_nil] at hjl; omega)
  obtain ⟨Z, hZ⟩ : ∃ z, join (shownL wd t a) [32] = z := ⟨_, rfl⟩
  rw [hZ]
  have HZ := hide hZ
  obtain ⟨a0, a1, a2, a3⟩ := a
  clear hp he ht ha hw hjl hZ
  go_enter Tryd.func16, Tryd.ntmps16
  go_upto_region 1 with fail
  have W1 : Hid (Below w.heap.size w ((w.alloc (.cells #[.int .i64 k, .string (bs wd), .slice b t.length cap] 43)).alloc (.cells #[.int .i64 a0, .int .i64 a1, .int .i64 a2, .int .i64 a3] 25))) := hide (((Below.refl _ _).alloc (Nat.le_refl _) _).alloc (by simp) _)
  have k1 : Hid (Blk ((w.alloc (.cells #[.int .i64 k, .string (bs wd), .slice b t.length cap] 43)).alloc (.cells #[.int .i64 a0, .int .i64 a1, .int .i64 a2, .int .i64 a3] 25)) w.heap.size 43 #[.int .i64 k, .string (bs wd), .slice b t.length cap]) := hide ((Blk.new w _ _).alloc _)
  have k2 : Hid (Blk ((w.alloc (.cells #[.int .i64 k, .string (bs wd), .slice b t.length cap] 43)).alloc (.cells #[.int .i64 a0, .int .i64 a1, .int .i64 a2, .int .i64 a3] 25)) (w.heap.size + 1) 25 #[.int .i64 a0, .int .i64 a1, .int .i64 a2, .int .i64 a3]) := hide (by
    have := Blk.new (w.alloc (.cells #[.int .i64 k, .string (bs wd), .slice b t.length cap] 43)) 25 #[.int .i64 a0, .int .i64 a1, .int .i64 a2, .int .i64 a3]
    rw [World.size_alloc] at this
    exact this)
  generalize (w.alloc (.cells #[.int .i64 k, .string (bs wd), .slice b t.length cap] 43)).alloc (.cells #[.int .i64 a0, .int .i64 a1, .int .i64 a2, .int .i64 a3] 25) = W at *
  have x1 := (unhide k1).cell (i := 1) (v := .string (bs wd)) rfl
  have x2 := (unhide k1).cell (i := 2) (v := .slice b t.length cap) rfl
  have hzW := (unhide W1).size
  have hl0 : w.heap.size < W.heap.size := (unhide k1).lt
  go_wp2_with fail
  clear x1 x2
  go_loopw [5, 14] (fun s i wr => ∃ j : Nat, j ≤ t.length ∧ i = .int .i64 j ∧ StrsAt W.heap.size wr s ((shownL wd t (a0, a1, a2, a3)).take (j + 1)) ∧ Below W.heap.size W wr) (fun _ i _ => t.length - (intOf i).toNat)
  case atStart => exact ⟨0, Nat.zero_le _, rfl, World.ownsRow_lit W #[.string (bs wd)] 1 (Nat.le_refl _) (by simp [maxLen]) rfl, (Below.refl _ _).alloc (Nat.le_refl _) _⟩
  case round =>
    obtain ⟨j, hj, rfl, hst, hb⟩ := hrel
    have Hst := hide hst
    have Hb := hide hb
    have hzr := hb.size
    have hlenj : ((shownL wd t (a0, a1, a2, a3)).take (j + 1)).length = j + 1 := by rw [List.length_take, shownL_len]; omega
    clear hst hb
    by_cases hlt : j < t.length
    · obtain ⟨g, rfl, hg, hc⟩ := unhide Hp j hlt
      have hc' := ((unhide W1).trans ((unhide Hb).mono hzW)).cell (p := ⟨g, j, none⟩) hg |>.trans hc
      have HS := hide (shown_take (w := wd) (t := t) (a := (a0, a1, a2, a3)) hlt)
      have Hti : Hid (t.getD j 0 ≤ 2) := hide (unhide Ht _ (by simp [List.getD, hlt]))
      have hlt1 : (j : Int) < (t.length : Int) := by omega
      have k3 := bl k2 (unhide Hb)
      obtain ⟨y0, y1, y2, y3⟩ : wr.cell? ⟨w.heap.size + 1, 0, none⟩ = some (.int .i64 a0) ∧ wr.cell? ⟨w.heap.size + 1, 1, none⟩ = some (.int .i64 a1) ∧ wr.cell? ⟨w.heap.size + 1, 2, none⟩ = some (.int .i64 a2) ∧ wr.cell? ⟨w.heap.size + 1, 3, none⟩ = some (.int .i64 a3) := ⟨(unhide k3).cell (i := 0) rfl, (unhide k3).cell (i := 1) rfl, (unhide k3).cell (i := 2) rfl, (unhide k3).cell (i := 3) rfl⟩
      clear hc
      generalize t.getD j 0 = ti at *
      generalize (shownL wd t (a0, a1, a2, a3)).take (j + 1) = P at *
      go_wp2_with fail
      refine (numberOf_any (a0, a1, a2, a3) ti (unhide Hti) wr).mono ?_
      rintro e w2 ⟨rfl, hb2⟩
      have Hb2 : Hid (Below W.heap.size W w2) := hide ((unhide Hb).trans (hb2.mono hzr))
      have Hst2 := hide ((unhide Hst).later hb2)
      have hf := unhide Ha ti (unhide Hti)
      generalize numA (a0, a1, a2, a3) ti = x at *
      clear hb2 Hst Hb y0 y1 y2 y3 hc' k3
      go_wp2_with fail
      refine (showNumber_any x hf.1 hf.2 w2 ((unhide He).below ((unhide W1).trans ((unhide Hb2).mono hzW)))).mono ?_
      rintro e w3 ⟨rfl, hb3⟩
      have HW2 : Hid (Below W.heap.size W w3) := hide ((unhide Hb2).trans (hb3.mono (unhide Hb2).size))
      have Hst3 := hide ((unhide Hst2).later hb3)
      clear hb3 Hst2 Hb2
      go_wp2_with (at_builtin; refine wpList_append_own _ rfl _ _ 33 rfl W.heap.size 9 i0 (.string ByteArray.empty) 1 16 Tryd.underlying33 hi hz0 hz1 hz2 rfl (by decide) _ _ _ rfl (World.ownsRow.alloc (unhide Hst3) _) ⟨_, 0, none⟩ 1 1 [.string (bs (itoa x))] rfl rfl (cell_one_new _ _ _) (by simp [Value.oneCell']) (by simp only [maxLen]; omega) (by omega) (by have := (unhide HW2).size; simp; omega) ?_; intro v' w4 hown' hgrow _; have R := app_strs (unhide Hst3) (unhide HW2) hown' hgrow; have HR := hide R; clear hown' hgrow R)
      go_roundw
      case rel => exact ⟨j + 1, by omega, by go_num, by rw [unhide HS]; exact (unhide HR).1, (unhide HR).2⟩
      case measure => simp [intOf]; omega
    · obtain rfl : j = t.length := by omega
      have hall : (shownL wd t (a0, a1, a2, a3)).take (t.length + 1) = shownL wd t (a0, a1, a2, a3) := List.take_of_length_le (by rw [shownL_len]; omega)
      rw [hall] at Hst
      clear hall
      have hl1 : 1 ≤ (shownL wd t (a0, a1, a2, a3)).length := by rw [shownL_len]; omega
      have hl2 : (shownL wd t (a0, a1, a2, a3)).length ≤ 1000 := by rw [shownL_len]; omega
      have hl3 : (shownL wd t (a0, a1, a2, a3)).length = t.length + 1 := shownL_len _ _ _
      have Hl3 := hide hl3
      clear hl3
      generalize shownL wd t (a0, a1, a2, a3) = P at *
      go_wp2_with fail
      refine (join_any [32] (unhide Hst) hl1 hl2 (unhide Hjl)).mono ?_
      rintro e w2 ⟨rfl, hb2⟩
      have Hb2 : Hid (Below w.heap.size w w2) := hide ((unhide W1).trans (((unhide Hb).trans (hb2.mono hzr)).mono hzW))
      clear hb2
      go_wp2_with fail
      go_ret
      exact ⟨by rw [← unhide HZ]; rfl, unhide Hb2⟩
theorem words_len : ∀ j, j < 14 → (wordsL.getD j []).length ≤ 21 := by decide
theorem tells_len : ∀ j, j < 14 → (tellsL.getD j []).length ≤ 3 := by decide
set_option maxHeartbeats 8000000 in
theorem implShowAct_any {w : World} (a : ActV) (ha : fitA a) (he : Tab w) :
    Calls Tryd.prog 7 #[.agg #[.int .i64 a.1, .int .i64 a.2.1, .int .i64 a.2.2.1, .int .i64 a.2.2.2]] w fun e w' => e = .returned (.string (bs (showAct a))) ∧ Below w.heap.size w w' := by
  have He := hide he
  have Ha := hide ha
  obtain ⟨Z, hZ⟩ : ∃ z, showAct a = z := ⟨_, rfl⟩
  rw [hZ]
  have HZ := hide hZ
  obtain ⟨a0, a1, a2, a3⟩ := a
  clear he ha hZ
  have W1 : Hid (Below w.heap.size w (w.alloc (.cells #[.int .i64 a0, .int .i64 a1, .int .i64 a2, .int .i64 a3] 25))) := hide ((Below.refl _ _).alloc (Nat.le_refl _) _)
  have k1 : Hid (Blk (w.alloc (.cells #[.int .i64 a0, .int .i64 a1, .int .i64 a2, .int .i64 a3] 25)) w.heap.size 25 #[.int .i64 a0, .int .i64 a1, .int .i64 a2, .int .i64 a3]) := hide (Blk.new w _ _)
  go_enter Tryd.func7, Tryd.ntmps7
  go_wp2_with fail
  generalize w.alloc (.cells #[.int .i64 a0, .int .i64 a1, .int .i64 a2, .int .i64 a3] 25) = W at *
  refine (forms_any W).mono ?_
  rintro e w1 ⟨g, rfl, hF, hb⟩
  replace k1 := bl k1 hb
  have W2 : Hid (Below w.heap.size w w1) := hide ((unhide W1).trans (hb.mono (unhide W1).size))
  have HF := hide hF
  clear hF hb W1
  go_wp2_with fail
  go_loopw [7] (fun i wr => ∃ j : Nat, j ≤ 14 ∧ i = .int .i64 j ∧ (∀ q : Nat, q < j → a0 ≠ (q : Int) + 1) ∧ Below w1.heap.size w1 wr) (fun i _ => 14 - (intOf i).toNat)
  case atStart => exact ⟨0, by omega, rfl, fun q h => by omega, Below.refl _ _⟩
  case round =>
    obtain ⟨j, hj, rfl, hno, hb⟩ := hrel
    have Hno := hide hno
    have Hb := hide hb
    clear hno hb
    have hzW := (unhide W2).size
    by_cases hlt : j < 14
    · have hlt1 : (j : Int) < 14 := by omega
      have F := (unhide HF).below (unhide Hb)
      have q0 := F.kind j hlt
      have q1 := F.word j hlt
      obtain ⟨pv, q2, hpv⟩ := F.part j hlt
      obtain ⟨pa, pcap, rfl, hpp⟩ := hpv
      have Hpv : Hid (PartsAt wr (.slice pa (tellsL.getD j []).length pcap) (tellsL.getD j [])) := hide ⟨pa, pcap, rfl, hpp⟩
      have HT := hide (tells_ok j hlt).1
      have HL := hide (tells_len j hlt)
      have HWl := hide (words_len j hlt)
      have hwd : Hid (a0 = (j : Int) + 1 → showAct (a0, a1, a2, a3) = showK j (a0, a1, a2, a3)) := hide (fun h => showAct_k h hlt)
      unfold showK at hwd
      generalize wordsL.getD j [] = wd at *
      generalize tellsL.getD j [] = t at *
      clear F hpp
      have k3 := bl k1 (unhide Hb)
      obtain ⟨y0, y1, y2, y3⟩ : wr.cell? ⟨w.heap.size, 0, none⟩ = some (.int .i64 a0) ∧ wr.cell? ⟨w.heap.size, 1, none⟩ = some (.int .i64 a1) ∧ wr.cell? ⟨w.heap.size, 2, none⟩ = some (.int .i64 a2) ∧ wr.cell? ⟨w.heap.size, 3, none⟩ = some (.int .i64 a3) := ⟨(unhide k3).cell (i := 0) rfl, (unhide k3).cell (i := 1) rfl, (unhide k3).cell (i := 2) rfl, (unhide k3).cell (i := 3) rfl⟩
      have hne : w.heap.size ≠ wr.heap.size := by have := (unhide k3).lt; omega
      by_cases hk : a0 = (j : Int) + 1
      · have e1 := hide ((unhide HZ).symm.trans (unhide hwd hk))
        have Hk := hide hk
        have n1 : ((j : Int) + 1 == a0) = true := by rw [hk]; simp
        have n2 : decide ((j : Int) + 1 = a0) = true := by rw [hk]; simp
        clear hk
        have hl0 : w.heap.size < wr.heap.size := (unhide k3).lt
        have hb0 : Below wr.heap.size wr (wr.alloc (.cells #[.int .i64 ((j : Int) + 1), .string (bs wd), .slice pa t.length pcap] 43)) := (Below.refl _ _).alloc (Nat.le_refl _) _
        have Hb0 := hide hb0
        clear hb0
        go_wp2_with fail
        refine (shown_any ((j : Int) + 1) wd (a0, a1, a2, a3) ((unhide Hpv).below (unhide Hb0)) (unhide HT) (unhide HL) (unhide HWl) (unhide Ha) ((unhide He).below ((unhide W2).trans (((unhide Hb).trans ((unhide Hb0).mono (unhide Hb).size)).mono hzW)))).mono ?_
        rintro e w3 ⟨rfl, hb3⟩
        have HB : Hid (Below w.heap.size w w3) := hide ((unhide W2).trans (((unhide Hb).trans (((unhide Hb0).trans (hb3.mono (unhide Hb0).size)).mono (unhide Hb).size)).mono hzW))
        clear hb3
        go_wp2_with fail
        go_ret
        exact ⟨by rw [unhide e1]; rfl, unhide HB⟩
      · have n1 : ((j : Int) + 1 == a0) = false := by simpa using fun h => hk h.symm
        have n2 : decide ((j : Int) + 1 = a0) = false := by simpa using fun h => hk h.symm
        have Hk := hide hk
        clear hk
        have hl0 : w.heap.size < wr.heap.size := (unhide k3).lt
        go_wp2_with fail
        go_roundw
        case rel => exact ⟨j + 1, by omega, by go_num, fun q hq => by
          by_cases e : q = j
          · rw [e]; exact unhide Hk
          · exact unhide Hno q (by omega), (unhide Hb).alloc (unhide Hb).size _⟩
        case measure => simp [intOf]; omega
    · obtain rfl : j = 14 := by omega
      have e1 : showAct (a0, a1, a2, a3) = [] := showAct_no (by
        show a0 < 1 ∨ 14 < a0
        by_cases h : a0 < 1 ∨ 14 < a0
        · exact h
        · exact absurd (by omega) (unhide Hno (a0.toNat - 1) (by omega)))
      have E1 := hide ((unhide HZ).symm.trans e1)
      clear e1
      have hB : Below w.heap.size w wr := (unhide W2).trans ((unhide Hb).mono hzW)
      have HB := hide hB
      clear hB
      go_wp2_with fail
      go_ret
      exact ⟨by rw [unhide E1]; rfl, unhide HB⟩

end Go.Proofs.YtmdgokjeobnnaaaDoor
