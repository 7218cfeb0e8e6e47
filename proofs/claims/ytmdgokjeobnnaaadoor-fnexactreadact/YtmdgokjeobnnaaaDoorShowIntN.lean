/- Contract of the model's writing of a number below 0 (l1Int). Conditions: those that each theorem names. -/
import Derived.Test.YtmdgokjeobnnaaaDoorShowInt
namespace Go.Proofs.YtmdgokjeobnnaaaDoor
open Go.ChangeShapes Go.WideShapes Go.ChangeAt Go.RowKit Go.Sort
open Go.Lib (digitVal decFrom decDigits itoa join joinTail)
set_option linter.unusedVariables false

theorem tmod_neg (m : Nat) : Int.tmod (-(m : Int)) 10 = -((m % 10 : Nat) : Int) := by rw [Int.neg_tmod]; rfl
theorem tdiv_neg (m : Nat) : Int.tdiv (-(m : Int)) 10 = -((m / 10 : Nat) : Int) := by rw [Int.neg_tdiv]; rfl

set_option maxRecDepth 100000 in
set_option maxHeartbeats 1000000 in
theorem l1Int_neg (N : Nat) (h0 : 0 < N) (h1 : N ≤ 9223372036854775808) (w : World) :
    Calls Tryd.prog 14 #[.int .i64 (-(N : Int))] w fun e w' => e = .returned (.string (bs (45 :: decDigits N))) ∧ Below w.heap.size w w' := by
  have hneg : -(N : Int) < 0 := by omega
  have HL : Hid ((decDigits N).length ≤ 20) := hide (by rw [Go.Lib.decDigits_length]; exact Go.Lib.nDigits_le20 N (by omega))
  go_enter Tryd.func14, Tryd.ntmps14
  go_wp2_with fail
  go_loopw [0, 3] (fun v s wr => ∃ (m : Nat) (b : ByteArray), v = .int .i64 (-(m : Int)) ∧ s = .string b ∧ m ≤ N ∧ ((b = ⟨#[]⟩ ∧ m = N) ∨ (∃ x t, b.data.toList = x :: t ∧ decDigits N = topD m ++ x :: t)) ∧ Below w.heap.size w wr) (fun v s _ => (-(intOf v)).toNat + emptyV s)
  case atStart => exact ⟨N, ⟨#[]⟩, rfl, rfl, Nat.le_refl _, .inl ⟨rfl, rfl⟩, Below.refl _ _⟩
  case round =>
    obtain ⟨m, b, rfl, rfl, hm, hcase, hb⟩ := hrel
    have Hb := hide hb
    have Hs := hide hb.size
    clear hb
    have ht := tmod_neg m
    have hd := tdiv_neg m
    by_cases hp : 0 < (m : Int) % 10
    · have hcv := conv1 wr (48 + (m : Int) % 10)
      have hy : (48 + (m : Int) % 10) = 48 + (m : Int) % 10 := by omega
      have hs1 := strOfNums_size [48 + (m : Int) % 10]
      simp only [List.length_cons, List.length_nil, Nat.zero_add] at hs1
      have Hs1 := hide hs1
      clear hs1
      rcases hcase with ⟨rfl, rfl⟩ | ⟨x, t, hbt, hdec⟩
      · have Hd : Hid ((strOfNums [48 + (m : Int) % 10] ++ ⟨#[]⟩).data.toList = UInt8.ofNat (48 + m % 10) :: []) := hide (by rw [hy, cat_data, num_data]; rfl)
        have hsz : (strOfNums [48 + (m : Int) % 10]).size + (⟨#[]⟩ : ByteArray).size ≤ 9223372036854775807 := by rw [unhide Hs1]; decide
        clear hy
        go_wp2_with fail
        go_roundw
        case rel => exact ⟨m / 10, _, by go_num, rfl, by omega, .inr ⟨_, [], unhide Hd, decDigits_step m⟩, (unhide Hb).alloc (unhide Hs) _⟩
        case measure => rw [emptyV_cons (unhide Hd)]; simp [intOf, emptyV, ByteArray.size]; omega
      · have he := isEmpty_f hbt
        have hbs : b.size ≤ 20 := by
          have h2 : b.data.toList.length = b.size := by simp
          have h3 := unhide HL
          rw [hdec, List.length_append, ← hbt, h2] at h3
          omega
        have Hbt := hide hbt
        have Hdec := hide hdec
        clear hbt hdec
        by_cases hz : m = 0
        · subst hz
          exact absurd hp (by decide)
        · have Hd : Hid ((strOfNums [48 + (m : Int) % 10] ++ b).data.toList = UInt8.ofNat (48 + m % 10) :: x :: t) := hide (by rw [hy, cat_data, num_data, unhide Hbt]; rfl)
          have hsz : (strOfNums [48 + (m : Int) % 10]).size + b.size ≤ 9223372036854775807 := by rw [unhide Hs1]; omega
          have Hn : Hid (decDigits N = topD (m / 10) ++ UInt8.ofNat (48 + m % 10) :: x :: t) := hide (by rw [unhide Hdec, topD, if_neg hz, decDigits_step m]; simp)
          clear hy
          go_wp2_with fail
          go_roundw
          case rel => exact ⟨m / 10, _, by go_num, rfl, by omega, .inr ⟨_, _, unhide Hd, unhide Hn⟩, (unhide Hb).alloc (unhide Hs) _⟩
          case measure => rw [emptyV_cons (unhide Hd), emptyV_cons (unhide Hbt)]; simp [intOf]; omega
    · have hcv := conv1 wr (48 + -((m : Int) % 10))
      have hy : (48 + -((m : Int) % 10)) = 48 + (m : Int) % 10 := by omega
      have hs1 := strOfNums_size [48 + -((m : Int) % 10)]
      simp only [List.length_cons, List.length_nil, Nat.zero_add] at hs1
      have Hs1 := hide hs1
      clear hs1
      rcases hcase with ⟨rfl, rfl⟩ | ⟨x, t, hbt, hdec⟩
      · have Hd : Hid ((strOfNums [48 + -((m : Int) % 10)] ++ ⟨#[]⟩).data.toList = UInt8.ofNat (48 + m % 10) :: []) := hide (by rw [hy, cat_data, num_data]; rfl)
        have hsz : (strOfNums [48 + -((m : Int) % 10)]).size + (⟨#[]⟩ : ByteArray).size ≤ 9223372036854775807 := by rw [unhide Hs1]; decide
        clear hy
        go_wp2_with fail
        go_roundw
        case rel => exact ⟨m / 10, _, by go_num, rfl, by omega, .inr ⟨_, [], unhide Hd, decDigits_step m⟩, (unhide Hb).alloc (unhide Hs) _⟩
        case measure => rw [emptyV_cons (unhide Hd)]; simp [intOf, emptyV, ByteArray.size]; omega
      · have he := isEmpty_f hbt
        have hbs : b.size ≤ 20 := by
          have h2 : b.data.toList.length = b.size := by simp
          have h3 := unhide HL
          rw [hdec, List.length_append, ← hbt, h2] at h3
          omega
        have Hbt := hide hbt
        have Hdec := hide hdec
        clear hbt hdec
        by_cases hz : m = 0
        · subst hz
          have hsz : (⟨#[45]⟩ : ByteArray).size + b.size ≤ 9223372036854775807 := by have : (⟨#[45]⟩ : ByteArray).size = 1 := rfl; omega
          clear hy
          go_wp2_with fail
          go_ret
          exact ⟨ret_str (bs_of (by rw [cat_data, unhide Hbt, unhide Hdec]; rfl)), unhide Hb⟩
        · have Hd : Hid ((strOfNums [48 + -((m : Int) % 10)] ++ b).data.toList = UInt8.ofNat (48 + m % 10) :: x :: t) := hide (by rw [hy, cat_data, num_data, unhide Hbt]; rfl)
          have hsz : (strOfNums [48 + -((m : Int) % 10)]).size + b.size ≤ 9223372036854775807 := by rw [unhide Hs1]; omega
          have Hn : Hid (decDigits N = topD (m / 10) ++ UInt8.ofNat (48 + m % 10) :: x :: t) := hide (by rw [unhide Hdec, topD, if_neg hz, decDigits_step m]; simp)
          clear hy
          go_wp2_with fail
          go_roundw
          case rel => exact ⟨m / 10, _, by go_num, rfl, by omega, .inr ⟨_, _, unhide Hd, unhide Hn⟩, (unhide Hb).alloc (unhide Hs) _⟩
          case measure => rw [emptyV_cons (unhide Hd), emptyV_cons (unhide Hbt)]; simp [intOf]; omega

theorem l1Int_z (n : Int) (h0 : -9223372036854775808 ≤ n) (h1 : n ≤ 9223372036854775807) (w : World) :
    Calls Tryd.prog 14 #[.int .i64 n] w fun e w' => e = .returned (.string (bs (itoa n))) ∧ Below w.heap.size w w' := by
  by_cases hn : 0 ≤ n
  · exact l1Int_any n hn h1 w
  obtain ⟨N, rfl⟩ : ∃ N : Nat, n = -(N : Int) := ⟨n.natAbs, by omega⟩
  have hi : itoa (-(N : Int)) = 45 :: decDigits N := by unfold itoa; rw [if_pos (by omega)]; simp
  rw [hi]
  exact l1Int_neg N (by omega) (by omega) w

end Go.Proofs.YtmdgokjeobnnaaaDoor
