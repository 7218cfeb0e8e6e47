/- Contract of the program's showRoom: it returns the text that the lists say and writes into no memory that was there. Conditions: the library's table of powers of ten lies as its text lays it; the room is right. -/
import Derived.Test.YtnofnjddbflpmaaDoorShowRoom
import Derived.Deep.RegionWith
import Derived.Deep.DeepMust
namespace Go.Proofs.YtnofnjddbflpmaaDoor
open Go.ChangeShapes Go.WideShapes Go.ChangeAt Go.RowKit Go.Sort
open Go.Lib (decDigits itoa join joinTail IsBuilder BuilderAt byteCells strCells)
set_option linter.unusedVariables false
attribute [local go_sem ↓] Go.wp_at_zero Go.wp_at_succ

/-- The text of a room's benches and its first k paces. -/
def preR (rb : Int) (ps : List PaceV) (k : Nat) : Txt := join (itoa rb :: (ps.take k).map showPace) [32]
theorem preR_0 (rb : Int) (ps : List PaceV) : preR rb ps 0 = itoa rb := by simp [preR, Go.Lib.join_one]
theorem preR_s (rb : Int) {ps : List PaceV} {k : Nat} (h : k < ps.length) : preR rb ps (k + 1) = preR rb ps k ++ ([32] ++ showPace (paceAt ps k)) := by
  unfold preR
  have e : (ps.take (k + 1)).map showPace = (ps.take k).map showPace ++ [showPace (paceAt ps k)] := by
    rw [List.take_succ_eq_append_getElem h, List.map_append]; simp [paceAt, List.getD, h]
  rw [e, join_snoc]
theorem preR_all (rb : Int) (ps : List PaceV) : preR rb ps ps.length = showRoom (rb, ps) := by unfold preR showRoom; rw [List.take_length]
theorem itoa_len (n : Int) (h0 : -9223372036854775808 ≤ n) (h1 : n ≤ 9223372036854775807) : (itoa n).length ≤ 21 := Go.Lib.itoa_length_le n h0 h1
theorem showPace_len {p : PaceV} (h : paceB p = true) : (showPace p).length ≤ 43 := by
  unfold paceB at h; simp only [Bool.and_eq_true] at h
  have a := inB_of h.1; have b := inB_of h.2
  have l1 := itoa_len p.1 (by omega) (by omega); have l2 := itoa_len p.2 (by omega) (by omega)
  unfold showPace; simp only [List.length_append, List.length_cons]; omega
theorem preR_len {rb : Int} {ps : List PaceV} (h : roomB (rb, ps) = true) : ∀ k, k ≤ ps.length → (preR rb ps k).length ≤ 21 + k * 44
  | 0, _ => by rw [preR_0]; have := room_bd h; simp only at this; have := itoa_len rb (by omega) (by omega); omega
  | k + 1, hk => by
    have ih := preR_len h k (by omega)
    have hp := showPace_len (p := paceAt ps k) (by unfold roomB at h; simp only [Bool.and_eq_true] at h; exact paceB_all h.2.2 _ (by unfold paceAt; simp [List.getD, show k < ps.length by omega]))
    rw [preR_s rb (by omega)]
    simp only [List.length_append, List.length_cons, List.length_nil]; omega
theorem room_pace' {rb : Int} {ps : List PaceV} (h : roomB (rb, ps) = true) {k : Nat} (hk : k < ps.length) : 1 ≤ (paceAt ps k).1 ∧ (paceAt ps k).1 ≤ 1024 ∧ 1 ≤ (paceAt ps k).2 ∧ (paceAt ps k).2 ≤ 1024 := by
  unfold roomB at h; simp only [Bool.and_eq_true] at h
  have h1 := pacesB_of h.2.2 hk
  unfold stepB paceB at h1; simp only [Bool.and_eq_true] at h1
  have a := inB_of h1.1.1; have b := inB_of h1.1.2
  omega
theorem word_eq (f c : Int) : (((⟨#[32]⟩ : ByteArray) ++ bs (itoa f)) ++ ⟨#[58]⟩) ++ bs (itoa c) = bs ([32] ++ showPace (f, c)) := by
  refine bs_of ?_
  simp only [cat_data, bs_data, showPace]
  simp
theorem size_new {w w' : World} {o : Obj} (h : Below (w.alloc o).heap.size (w.alloc o) w') : w.heap.size + 1 ≤ w'.heap.size := by have := h.size; simpa using this
theorem size_app (a b : ByteArray) : (a ++ b).size = a.size + b.size := by simp

set_option maxRecDepth 100000 in
set_option maxHeartbeats 4000000 in
theorem showRoom_any {w : World} {v : Value} {ps : List PaceV} (rb : Int) (h : IsPaces w v ps) (hr : roomB (rb, ps) = true) (ht : Tab w) :
    Calls Tryd.prog 21 #[.agg #[.int .i64 rb, v]] w fun e w' => e = .returned (.string (bs (showRoom (rb, ps)))) ∧ Below w.heap.size w w' := by
  obtain ⟨a, cap, rfl, hc, hm, hrow⟩ := h
  have hbd := room_bd hr
  simp only at hbd
  obtain ⟨hb0, hb4, hl1, hl4⟩ := hbd
  rcases hrow with h0 | ⟨bk, off, rfl, hbw, hcl⟩
  · rw [h0] at hl1; simp at hl1
  have Hcl := hide hcl
  have Hr := hide hr
  have Ht := hide ht
  clear hcl hr ht
  go_enter Tryd.func21, Tryd.ntmps21
  go_wp2_with fail
  have HF := hide (Go.Lib.fresh_isBuilder 75 5 (w.alloc (.cells #[.int .i64 rb, .slice (some ⟨bk, off, none⟩) ps.length cap] 45)))
  have HB0 : Hid (Below w.heap.size w ((w.alloc (.cells #[.int .i64 rb, .slice (some ⟨bk, off, none⟩) ps.length cap] 45)).alloc (.cells #[.pointer none, .slice none 0 0] 75))) := hide (((Below.refl _ _).alloc (Nat.le_refl _) _).alloc (by simp) _)
  refine (showNumber_any rb (by omega) (by omega) _ ((unhide Ht).below (unhide HB0))).mono ?_
  rintro e w1 ⟨rfl, hb1⟩
  have hz1 : w.heap.size + 2 ≤ w1.heap.size := by have := hb1.size; simpa using this
  have HF1 := hide (IsBuilder.below (unhide HF) hb1)
  have x1 : w1.cell? ⟨w.heap.size, 1, none⟩ = some (.slice (some ⟨bk, off, none⟩) ps.length cap) := (hb1.cell (p := ⟨w.heap.size, 1, none⟩) (by simp; omega)).trans (by rw [World.cell?_alloc_old _ _ _ (by simp)]; simp)
  have HB1 : Hid (Below w.heap.size w w1) := hide ((unhide HB0).trans (hb1.mono (by simp; omega)))
  clear hb1 HF HB0
  simp only [World.size_alloc] at HF1 ⊢
  go_wp2_with fail
  refine (writeString_any (w.heap.size + 1) (w.heap.size + 1) [] (bs (itoa rb)) _ (unhide HF1) (by have := itoa_len rb (by omega) (by omega); rw [bs_size]; simp; omega) (by omega)).mono ?_
  rintro e w2 ⟨rfl, hat2, hb2⟩
  have hz2 := hb2.size
  have HF2 : Hid (IsBuilder 75 5 (w.heap.size + 1) (w.heap.size + 1) (byteCells (preR rb ps 0)) w2) := hide (.inr (by rw [preR_0, ← cells_bs]; simpa using hat2))
  have x2 := (hb2.cell (p := ⟨w.heap.size, 1, none⟩) (Nat.lt_succ_self _)).trans x1
  have HB2 : Hid (Below w.heap.size w w2) := hide ((unhide HB1).trans (hb2.mono (by omega)))
  clear hat2 hb2 x1 HF1 HB1
  go_wp2_with fail
  go_loopw [13] (fun i wr => ∃ k : Nat, k ≤ ps.length ∧ i = .int .i64 k ∧ IsBuilder 75 5 (w.heap.size + 1) (w.heap.size + 1) (byteCells (preR rb ps k)) wr ∧ Below w.heap.size w wr ∧ w.heap.size + 2 ≤ wr.heap.size) (fun i _ => ps.length - (intOf i).toNat)
  case atStart => exact ⟨0, Nat.zero_le _, rfl, unhide HF2, unhide HB2, by omega⟩
  case round =>
    obtain ⟨k, hk, rfl, hF, hB, hzr⟩ := hrel
    have HFr := hide hF
    have HBr := hide hB
    clear hF x2
    by_cases hlt : k < ps.length
    · obtain ⟨c0, c1⟩ := unhide Hcl k hlt
      rw [← hB.cell (p := ⟨bk, off + k * 2, none⟩) hbw] at c0
      rw [← hB.cell (p := ⟨bk, off + k * 2 + 1, none⟩) hbw] at c1
      have hpb := room_pace' (unhide Hr) hlt
      have HS := hide (preR_s rb hlt)
      have hpl := preR_len (unhide Hr) k (by omega)
      generalize hp : paceAt ps k = p at *
      clear hp hB
      obtain ⟨f, c⟩ := p
      simp only at c0 c1 hpb
      obtain ⟨f0, f1, g0, g1⟩ := hpb
      have lf := itoa_len f (by omega) (by omega)
      have lc := itoa_len c (by omega) (by omega)
      have Hword := hide (word_eq f c)
      have sF := bs_size (itoa f)
      have sC := bs_size (itoa c)
      have s32 : (⟨#[32]⟩ : ByteArray).size = 1 := rfl
      have s58 : (⟨#[58]⟩ : ByteArray).size = 1 := rfl
      have sA := size_app ⟨#[32]⟩ (bs (itoa f))
      have sB := size_app (⟨#[32]⟩ ++ bs (itoa f)) ⟨#[58]⟩
      have sD := size_app ((⟨#[32]⟩ ++ bs (itoa f)) ++ ⟨#[58]⟩) (bs (itoa c))
      have l1 : (⟨#[32]⟩ : ByteArray).size + (bs (itoa f)).size ≤ 9223372036854775807 := by omega
      have l2 : (⟨#[32]⟩ ++ bs (itoa f)).size + (⟨#[58]⟩ : ByteArray).size ≤ 9223372036854775807 := by omega
      have l3 : ((⟨#[32]⟩ ++ bs (itoa f)) ++ ⟨#[58]⟩).size + (bs (itoa c)).size ≤ 9223372036854775807 := by omega
      have m1 : 1 + (bs (itoa f)).size ≤ 9223372036854775807 := by omega
      have m2 : 1 + (bs (itoa f)).size + 1 ≤ 9223372036854775807 := by omega
      have m3 : 1 + (bs (itoa f)).size + 1 + (bs (itoa c)).size ≤ 9223372036854775807 := by omega
      have HL : Hid ((byteCells (preR rb ps k)).length + (((⟨#[32]⟩ ++ bs (itoa f)) ++ ⟨#[58]⟩) ++ bs (itoa c)).size ≤ 140737488355328) := hide (by rw [cells_len]; omega)
      have p0 : (wr.alloc (.cells #[.int .i64 f, .int .i64 c] 61)).cell? ⟨wr.heap.size, 0, none⟩ = some (.int .i64 f) := by simp
      have p1 : (wr.alloc (.cells #[.int .i64 f, .int .i64 c] 61)).cell? ⟨wr.heap.size, 1, none⟩ = some (.int .i64 c) := by simp
      have Hp := hide (And.intro p0 p1)
      have HTr : Hid (Tab (wr.alloc (.cells #[.int .i64 f, .int .i64 c] 61))) := hide ((unhide Ht).below ((unhide HBr).alloc (unhide HBr).size _))
      have HFr' : Hid (IsBuilder 75 5 (w.heap.size + 1) (w.heap.size + 1) (byteCells (preR rb ps k)) (wr.alloc (.cells #[.int .i64 f, .int .i64 c] 61))) := hide (IsBuilder.below (unhide HFr) ((Below.refl _ _).alloc (Nat.le_refl _) _))
      clear sF sC sA sB sD s32 s58 p0 p1 HFr lf lc hpl
      generalize hFe : bs (itoa f) = F at *
      generalize hCe : bs (itoa c) = C at *
      have HFe := hide hFe
      have HCe := hide hCe
      clear hFe hCe
      go_wp2_with fail
      obtain ⟨qp0, qp1⟩ := unhide Hp
      go_region_with
        (first
        | (go_at_call 46; refine (showNumber_any f ?_ ?_ _ ?_).mono ?_; omega; omega; exact unhide HTr; rw [unhide HFe]; rintro e wa ⟨rfl, hba⟩; have hba' : Below (wr.alloc (.cells #[.int .i64 f, .int .i64 c] 61)).heap.size (wr.alloc (.cells #[.int .i64 f, .int .i64 c] 61)) wa := ⟨hba.os, hba.tape, hba.output, hba.size, hba.block⟩; have Hqa : Hid (wa.cell? ⟨wr.heap.size, 0, none⟩ = some (.int .i64 f) ∧ wa.cell? ⟨wr.heap.size, 1, none⟩ = some (.int .i64 c)) := hide ⟨(hba'.cell (p := ⟨wr.heap.size, 0, none⟩) (by simp)).trans (unhide Hp).1, (hba'.cell (p := ⟨wr.heap.size, 1, none⟩) (by simp)).trans (unhide Hp).2⟩; have Hba := hide hba'; obtain ⟨qa0, qa1⟩ := unhide Hqa; clear hba hba')
        | (go_at_call 46; go_must (refine (showNumber_any c ?_ ?_ _ ?_).mono ?_); go_must (omega); go_must (omega); go_must (exact (unhide HTr).below (unhide Hba)); go_must (rw [unhide HCe]); go_must (rintro e wb ⟨rfl, hbb⟩); have hzA : wr.heap.size + 1 ≤ wa.heap.size := size_new (unhide Hba); have Hqb : Hid (wb.cell? ⟨wr.heap.size, 0, none⟩ = some (.int .i64 f) ∧ wb.cell? ⟨wr.heap.size, 1, none⟩ = some (.int .i64 c)) := hide ⟨(hbb.cell (p := ⟨wr.heap.size, 0, none⟩) hzA).trans (unhide Hqa).1, (hbb.cell (p := ⟨wr.heap.size, 1, none⟩) hzA).trans (unhide Hqa).2⟩; have Hbb := hide hbb; obtain ⟨qb0, qb1⟩ := unhide Hqb; clear hbb)
        | (go_at_call 45; refine (writeString_any (w.heap.size + 1) (w.heap.size + 1) (byteCells (preR rb ps k)) _ _ ?_ ?_ ?_).mono ?_; exact IsBuilder.below (IsBuilder.below (unhide HFr') (unhide Hba)) (unhide Hbb); exact unhide HL; (have h1 := (unhide Hba).size; have h2 := (unhide Hbb).size; simp at h1; omega); rintro e wc ⟨rfl, hatc, hbc⟩; have Hatc := hide hatc; have Hbc := hide hbc; clear hatc hbc))
      all_goals
        have Hend : Hid (IsBuilder 75 5 (w.heap.size + 1) (w.heap.size + 1) (byteCells (preR rb ps (k + 1))) wc) := hide (.inr (by have h2 := unhide Hatc; rw [unhide Hword, cells_bs, cells_app, ← unhide HS] at h2; exact h2))
        have hzB := (unhide Hbb).size
        have hzC := (unhide Hbc).size
        have HBe : Hid (Below w.heap.size w wc) := hide (((((unhide HBr).alloc (unhide HBr).size _).trans ((unhide Hba).mono (by have := (unhide HBr).size; simp; omega))).trans ((unhide Hbb).mono (by omega))).trans ((unhide Hbc).mono (by omega)))
        go_wp2_with fail
        go_roundw
        case rel => exact ⟨k + 1, by omega, by go_num, unhide Hend, unhide HBe, by omega⟩
        case measure => simp [intOf]; omega
    · obtain rfl : k = ps.length := by omega
      go_wp2_with fail
      refine (Tryd.Builder_String_any _ _ _ _ (unhide HFr) (by omega)).mono ?_
      rintro e w3 ⟨rfl, hb3⟩
      have Hb3 := hide hb3
      clear hb3
      go_wp2_with fail
      go_ret
      exact ⟨by rw [preR_all]; rfl, hB.trans ((unhide Hb3).mono (by omega))⟩

end Go.Proofs.YtnofnjddbflpmaaDoor
