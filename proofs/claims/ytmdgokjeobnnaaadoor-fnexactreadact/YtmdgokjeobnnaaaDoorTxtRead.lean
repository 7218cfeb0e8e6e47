/- Contract of the model's reading of a number (l1Read), at every text. No condition but that the text can lie in memory. -/
import Derived.Test.YtmdgokjeobnnaaaDoorTxtSpec
namespace Go.Proofs.YtmdgokjeobnnaaaDoor
open Go.ChangeShapes Go.WideShapes Go.ChangeAt Go.RowKit Go.Sort
open Go.Lib (digitVal decFrom)
set_option linter.unusedVariables false

theorem ret2 {a b : Value} (h : a = b) : Ending.returned a = .returned b := by rw [h]
theorem list_cons_of {s : ByteArray} (h : 0 < s.size) : s.data.toList = s[0] :: s.data.toList.drop 1 := drop_here s.data.toList 0 (by simpa using h)
theorem get_at {s : ByteArray} {k : Nat} (h : k < s.size) : s.data.toList[k]? = some s[k] := by
  rw [List.getElem?_eq_getElem (by simpa using h)]; rfl
theorem get_at1 {s : ByteArray} {k : Nat} (h : k < s.size) (h1 : 1 ≤ k) : (s.data.toList.drop 1)[k - 1]? = some s[k] := by
  rw [List.getElem?_drop, show 1 + (k - 1) = k by omega]; exact get_at h
theorem emp_f {s : ByteArray} (h : 0 < s.size) : s.toList.isEmpty = false := by
  rw [ByteArray.toList_eq, list_cons_of h]; rfl
theorem byte_ne {b c : UInt8} (h : b ≠ c) : ((b.toNat : Int) == (c.toNat : Int)) = false := beq_eq_false_iff_ne.2 (fun e => h (UInt8.toNat_inj.1 (by omega)))
theorem byte_eq {b c : UInt8} (h : b = c) : ((b.toNat : Int) == (c.toNat : Int)) = true := by rw [h]; simp

set_option maxRecDepth 100000 in
set_option maxHeartbeats 4000000 in
theorem l1Read_pos (s : ByteArray) (w : World) (h0 : 0 < s.size) (hm : s.size ≤ 9223372036854775807) (h45 : s[0] ≠ 45) :
    Calls Tryd.prog 19 #[.string s] w fun e w' => e = .returned (readV s.data.toList) ∧ w' = w := by
  have Hl := hide (list_cons_of h0)
  have hemp := emp_f h0
  have H45 := hide h45
  have hb45 : ((s[0].toNat : Int) == 45) = false := byte_ne (c := 45) h45
  have hlen : s.data.toList.length = s.size := by simp
  have Hlen := hide hlen
  clear h45 hlen
  by_cases h9 : 9 < s.size
  · have hd1 : decide ((s.size : Int) < 1) = false := decide_eq_false (by omega)
    have hd2 : decide (9 < (s.size : Int)) = true := decide_eq_true (by omega)
    have HN : Hid (readV s.data.toList = .tuple #[.int .i64 0, .bool false]) := hide (readV_none (by rw [unhide Hl]; exact readN_pos_f (unhide H45) (.inl (by rw [← unhide Hl, unhide Hlen]; omega))))
    go_enter Tryd.func19, Tryd.ntmps19
    go_wp2_with fail
    go_ret2
    exact ⟨ret2 (unhide HN).symm, rfl⟩
  have hd1 : decide ((s.size : Int) < 1) = false := decide_eq_false (by omega)
  have hd2 : decide (9 < (s.size : Int)) = false := decide_eq_false (by omega)
  go_enter Tryd.func19, Tryd.ntmps19
  go_wp2_with fail
  go_loop [6, 7] (fun n i => ∃ (k m : Nat), 0 ≤ k ∧ k ≤ s.size ∧ i = .int .i64 k ∧ n = .int .i64 m ∧ decFrom 0 (s.data.toList.take k) = some m) (fun _ i => s.size - (intOf i).toNat)
  case atStart => exact ⟨0, 0, by omega, by omega, rfl, rfl, by simp [decFrom]⟩
  case round =>
    obtain ⟨k, m, hk1, hk, rfl, rfl, hdec⟩ := hrel
    have hmb : m < 1000000000 := by
      have hx := Go.Lib.decFrom_lt _ _ _ hdec
      have hy : (s.data.toList.take k).length ≤ 9 := by rw [List.length_take]; omega
      exact Nat.lt_of_lt_of_le (by simpa using hx) (Nat.le_trans (Nat.pow_le_pow_right (by decide) hy) (by decide))
    have Hdec := hide hdec
    clear hdec
    by_cases hlt : k < s.size
    · have hga := get_at hlt
      have Hga := hide hga
      clear hga
      have hb8 : s[k].toNat ≤ 255 := by have := s[k].toNat_lt; omega
      by_cases hd : s[k].toNat < 48
      · have HN : Hid (readV s.data.toList = .tuple #[.int .i64 0, .bool false]) := hide (readV_none (by rw [unhide Hl]; by_cases hz : s[0] = 48 ∧ s.data.toList.drop 1 ≠ []; exact readN_pos_f (unhide H45) (.inr hz); rw [readN_pos (unhide H45) (by rw [← unhide Hl, unhide Hlen]; omega) hz, ← unhide Hl, decFrom_none (n := 0) (unhide Hga) (digit_out (by omega))]; rfl))
        have ht : decide ((s[k].toNat : Int) < 48) = true := decide_eq_true (by omega)
        go_wp2_with fail
        go_ret2
        exact ⟨ret2 (unhide HN).symm, rfl⟩
      by_cases hd' : 57 < s[k].toNat
      · have HN : Hid (readV s.data.toList = .tuple #[.int .i64 0, .bool false]) := hide (readV_none (by rw [unhide Hl]; by_cases hz : s[0] = 48 ∧ s.data.toList.drop 1 ≠ []; exact readN_pos_f (unhide H45) (.inr hz); rw [readN_pos (unhide H45) (by rw [← unhide Hl, unhide Hlen]; omega) hz, ← unhide Hl, decFrom_none (n := 0) (unhide Hga) (digit_out (by omega))]; rfl))
        have ht : decide ((s[k].toNat : Int) < 48) = false := decide_eq_false (by omega)
        have ht' : decide (57 < (s[k].toNat : Int)) = true := decide_eq_true (by omega)
        go_wp2_with fail
        go_ret2
        exact ⟨ret2 (unhide HN).symm, rfl⟩
      · have ht : decide ((s[k].toNat : Int) < 48) = false := decide_eq_false (by omega)
        have ht' : decide (57 < (s[k].toNat : Int)) = false := decide_eq_false (by omega)
        have Hn := hide (Go.Lib.decFrom_take s.data.toList k 0 m s[k] (s[k].toNat - 48) (unhide Hdec) (unhide Hga) (digit_in (by omega) (by omega)))
        have Hx : Hid (((m * 10 + (s[k].toNat - 48) : Nat) : Int) = (m : Int) * 10 + ((s[k].toNat : Int) - 48)) := hide (by omega)
        have g1 : 48 ≤ (s[k].toNat : Int) := by omega
        have g2 : (s[k].toNat : Int) ≤ 57 := by omega
        go_wp2_with fail
        go_round
        case rel => exact ⟨k + 1, m * 10 + (s[k].toNat - 48), by omega, by omega, by go_num, by rw [unhide Hx], unhide Hn⟩
        case measure => simp [intOf]; omega
    · obtain rfl : k = s.size := by omega
      have Hall : Hid (decFrom 0 s.data.toList = some m) := hide (by have hh := unhide Hdec; rwa [List.take_of_length_le (by rw [unhide Hlen]; omega)] at hh)
      by_cases hz : s[0] = 48
      · have hb48 : ((s[0].toNat : Int) == 48) = true := byte_eq (c := 48) hz
        by_cases h1s : 1 < s.size
        · have ht : decide (1 < (s.size : Int)) = true := decide_eq_true (by omega)
          have HN : Hid (readV s.data.toList = .tuple #[.int .i64 0, .bool false]) := hide (readV_none (by rw [unhide Hl]; exact readN_pos_f (unhide H45) (.inr ⟨hz, fun e => by have := congrArg List.length e; rw [List.length_drop, unhide Hlen] at this; simp at this; omega⟩)))
          clear hz
          go_wp2_with fail
          go_ret2
          exact ⟨ret2 (unhide HN).symm, rfl⟩
        · have ht : decide (1 < (s.size : Int)) = false := decide_eq_false (by omega)
          have HN : Hid (readV s.data.toList = .tuple #[.int .i64 m, .bool true]) := hide (readV_some (by rw [unhide Hl, readN_pos (unhide H45) (by rw [← unhide Hl, unhide Hlen]; omega) (fun hh => hh.2 (List.eq_nil_of_length_eq_zero (by rw [List.length_drop, unhide Hlen]; omega))), ← unhide Hl, unhide Hall]; rfl))
          clear hz
          go_wp2_with fail
          go_ret2
          exact ⟨ret2 (unhide HN).symm, rfl⟩
      · have hb48 : ((s[0].toNat : Int) == 48) = false := byte_ne (c := 48) hz
        have HN : Hid (readV s.data.toList = .tuple #[.int .i64 m, .bool true]) := hide (readV_some (by rw [unhide Hl, readN_pos (unhide H45) (by rw [← unhide Hl, unhide Hlen]; omega) (fun hh => hz hh.1), ← unhide Hl, unhide Hall]; rfl))
        clear hz
        go_wp2_with fail
        go_ret2
        exact ⟨ret2 (unhide HN).symm, rfl⟩

set_option maxRecDepth 100000 in
set_option maxHeartbeats 4000000 in
theorem l1Read_neg (s : ByteArray) (w : World) (h0 : 0 < s.size) (hm : s.size ≤ 9223372036854775807) (h45 : s[0] = 45) :
    Calls Tryd.prog 19 #[.string s] w fun e w' => e = .returned (readV s.data.toList) ∧ w' = w := by
  have Hl := hide (list_cons_of h0)
  have hemp := emp_f h0
  have H45 := hide h45
  have hb45 : ((s[0].toNat : Int) == 45) = true := byte_eq (c := 45) h45
  have hlen : s.data.toList.length = s.size := by simp
  have Hlen := hide hlen
  clear h45 hlen
  by_cases h9 : 10 < s.size
  · have hd1 : decide ((s.size : Int) - 1 < 1) = false := decide_eq_false (by omega)
    have hd2 : decide (9 < (s.size : Int) - 1) = true := decide_eq_true (by omega)
    have HN : Hid (readV s.data.toList = .tuple #[.int .i64 0, .bool false]) := hide (readV_none (by rw [unhide Hl]; rw [unhide H45]; exact readN_neg_f (.inr (.inl (by rw [List.length_drop, unhide Hlen]; omega)))))
    go_enter Tryd.func19, Tryd.ntmps19
    go_wp2_with fail
    go_ret2
    exact ⟨ret2 (unhide HN).symm, rfl⟩
  by_cases h1s : s.size < 2
  · have hd1 : decide ((s.size : Int) - 1 < 1) = true := decide_eq_true (by omega)
    have HN : Hid (readV s.data.toList = .tuple #[.int .i64 0, .bool false]) := hide (readV_none (by rw [unhide Hl, unhide H45]; exact readN_neg_f (.inl (List.eq_nil_of_length_eq_zero (by rw [List.length_drop, unhide Hlen]; omega)))))
    go_enter Tryd.func19, Tryd.ntmps19
    go_wp2_with fail
    go_ret2
    exact ⟨ret2 (unhide HN).symm, rfl⟩
  have hd1 : decide ((s.size : Int) - 1 < 1) = false := decide_eq_false (by omega)
  have hd2 : decide (9 < (s.size : Int) - 1) = false := decide_eq_false (by omega)
  go_enter Tryd.func19, Tryd.ntmps19
  go_wp2_with fail
  go_loop [6, 7] (fun n i => ∃ (k m : Nat), 1 ≤ k ∧ k ≤ s.size ∧ i = .int .i64 k ∧ n = .int .i64 m ∧ decFrom 0 ((s.data.toList.drop 1).take (k - 1)) = some m) (fun _ i => s.size - (intOf i).toNat)
  case atStart => exact ⟨1, 0, by omega, by omega, rfl, rfl, by simp [decFrom]⟩
  case round =>
    obtain ⟨k, m, hk1, hk, rfl, rfl, hdec⟩ := hrel
    have hmb : m < 1000000000 := by
      have hx := Go.Lib.decFrom_lt _ _ _ hdec
      have hy : ((s.data.toList.drop 1).take (k - 1)).length ≤ 9 := by rw [List.length_take]; omega
      exact Nat.lt_of_lt_of_le (by simpa using hx) (Nat.le_trans (Nat.pow_le_pow_right (by decide) hy) (by decide))
    have Hdec := hide hdec
    clear hdec
    by_cases hlt : k < s.size
    · have hga := get_at1 hlt hk1
      have Hga := hide hga
      clear hga
      have hb8 : s[k].toNat ≤ 255 := by have := s[k].toNat_lt; omega
      by_cases hd : s[k].toNat < 48
      · have HN : Hid (readV s.data.toList = .tuple #[.int .i64 0, .bool false]) := hide (readV_none (by rw [unhide Hl, unhide H45]; by_cases hz : (s.data.toList.drop 1).head? = some 48; exact readN_neg_f (.inr (.inr hz)); rw [readN_neg (fun e => by have := congrArg List.length e; rw [List.length_drop, unhide Hlen] at this; simp at this; omega) (by rw [List.length_drop, unhide Hlen]; omega) hz, decFrom_none (n := 0) (unhide Hga) (digit_out (by omega))]; rfl))
        have ht : decide ((s[k].toNat : Int) < 48) = true := decide_eq_true (by omega)
        go_wp2_with fail
        go_ret2
        exact ⟨ret2 (unhide HN).symm, rfl⟩
      by_cases hd' : 57 < s[k].toNat
      · have HN : Hid (readV s.data.toList = .tuple #[.int .i64 0, .bool false]) := hide (readV_none (by rw [unhide Hl, unhide H45]; by_cases hz : (s.data.toList.drop 1).head? = some 48; exact readN_neg_f (.inr (.inr hz)); rw [readN_neg (fun e => by have := congrArg List.length e; rw [List.length_drop, unhide Hlen] at this; simp at this; omega) (by rw [List.length_drop, unhide Hlen]; omega) hz, decFrom_none (n := 0) (unhide Hga) (digit_out (by omega))]; rfl))
        have ht : decide ((s[k].toNat : Int) < 48) = false := decide_eq_false (by omega)
        have ht' : decide (57 < (s[k].toNat : Int)) = true := decide_eq_true (by omega)
        go_wp2_with fail
        go_ret2
        exact ⟨ret2 (unhide HN).symm, rfl⟩
      · have ht : decide ((s[k].toNat : Int) < 48) = false := decide_eq_false (by omega)
        have ht' : decide (57 < (s[k].toNat : Int)) = false := decide_eq_false (by omega)
        have Hn := hide (Go.Lib.decFrom_take (s.data.toList.drop 1) (k - 1) 0 m s[k] (s[k].toNat - 48) (unhide Hdec) (unhide Hga) (digit_in (by omega) (by omega)))
        have Hx : Hid (((m * 10 + (s[k].toNat - 48) : Nat) : Int) = (m : Int) * 10 + ((s[k].toNat : Int) - 48)) := hide (by omega)
        have g1 : 48 ≤ (s[k].toNat : Int) := by omega
        have g2 : (s[k].toNat : Int) ≤ 57 := by omega
        go_wp2_with fail
        go_round
        case rel => exact ⟨k + 1, m * 10 + (s[k].toNat - 48), by omega, by omega, by go_num, by rw [unhide Hx], by have hh := unhide Hn; rwa [show k - 1 + 1 = k + 1 - 1 by omega] at hh⟩
        case measure => simp [intOf]; omega
    · obtain rfl : k = s.size := by omega
      have Hall : Hid (decFrom 0 (s.data.toList.drop 1) = some m) := hide (by have hh := unhide Hdec; rwa [List.take_of_length_le (by rw [List.length_drop, unhide Hlen]; omega)] at hh)
      have hs1 : 1 < s.size := by omega
      have Hh : Hid ((s.data.toList.drop 1).head? = some s[1]) := hide (by rw [List.head?_drop]; exact get_at hs1)
      have Hne : Hid (s.data.toList.drop 1 ≠ []) := hide (fun e => by have := congrArg List.length e; rw [List.length_drop, unhide Hlen] at this; simp at this; omega)
      by_cases hz : s[1] = 48
      · have hb48 : ((s[1].toNat : Int) == 48) = true := byte_eq (c := 48) hz
        have HN : Hid (readV s.data.toList = .tuple #[.int .i64 0, .bool false]) := hide (readV_none (by rw [unhide Hl, unhide H45]; exact readN_neg_f (.inr (.inr (by rw [unhide Hh, hz])))))
        clear hz
        go_wp2_with fail
        go_ret2
        exact ⟨ret2 (unhide HN).symm, rfl⟩
      · have hb48 : ((s[1].toNat : Int) == 48) = false := byte_ne (c := 48) hz
        have HN : Hid (readV s.data.toList = .tuple #[.int .i64 (-(m : Int)), .bool true]) := hide (readV_some (by rw [unhide Hl, unhide H45, readN_neg (unhide Hne) (by rw [List.length_drop, unhide Hlen]; omega) (fun e => hz (by rw [unhide Hh] at e; exact Option.some.inj e)), unhide Hall]; rfl))
        clear hz
        go_wp2_with fail
        go_ret2
        exact ⟨ret2 (unhide HN).symm, rfl⟩

set_option maxRecDepth 100000 in
theorem l1Read_any (s : ByteArray) (w : World) (hm : s.size ≤ 9223372036854775807) :
    Calls Tryd.prog 19 #[.string s] w fun e w' => e = .returned (readV s.data.toList) ∧ w' = w := by
  by_cases h0 : 0 < s.size
  · by_cases h45 : s[0] = 45
    · exact l1Read_neg s w h0 hm h45
    · exact l1Read_pos s w h0 hm h45
  · have hd : s.data.toList = [] := List.eq_nil_of_length_eq_zero (by rw [show s.data.toList.length = s.size by simp]; omega)
    have hemp : s.toList.isEmpty = true := by rw [ByteArray.toList_eq, hd]; rfl
    have HN : Hid (readV s.data.toList = .tuple #[.int .i64 0, .bool false]) := hide (readV_none (by rw [hd]; rfl))
    have hz : s.size = 0 := by omega
    clear hd
    go_enter Tryd.func19, Tryd.ntmps19
    go_wp2_with fail
    go_ret2
    exact ⟨ret2 (unhide HN).symm, rfl⟩

end Go.Proofs.YtmdgokjeobnnaaaDoor
