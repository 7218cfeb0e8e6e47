/- Contracts of the model's writing of a number (l1Int) and of its joining of texts (l1Words). Conditions: those that each theorem names. -/
import Derived.Test.YtmdgokjeobnnaaaDoorTxtSpec
import Derived.Laws.BytesArg
namespace Go.Proofs.YtmdgokjeobnnaaaDoor
open Go.ChangeShapes Go.WideShapes Go.ChangeAt Go.RowKit Go.Sort
open Go.Lib (digitVal decFrom decDigits itoa join joinTail)
set_option linter.unusedVariables false

def topD (m : Nat) : Txt := if m = 0 then [] else decDigits m
theorem decDigits_step (m : Nat) : decDigits m = topD (m / 10) ++ [UInt8.ofNat (48 + m % 10)] := by
  by_cases h : m < 10
  · rw [decDigits, dif_pos h, topD, if_pos (by omega), show m % 10 = m by omega]; rfl
  · rw [decDigits, dif_neg h, topD, if_neg (by omega)]
def emptyV : Value → Nat
  | .string b => if b.size = 0 then 1 else 0
  | _ => 0
theorem isEmpty_f {b : ByteArray} {x : UInt8} {t : Txt} (h : b.data.toList = x :: t) : b.toList.isEmpty = false := by rw [ByteArray.toList_eq, h]; rfl
theorem size_cons {b : ByteArray} {x : UInt8} {t : Txt} (h : b.data.toList = x :: t) : ¬ b.size = 0 := fun e => by
  have : b.data.toList.length = b.size := by simp
  rw [h, e] at this; simp at this

theorem conv1 (w : World) (x : Int) : (convert 51 9 (.slice (some ⟨w.heap.size, 0, none⟩) 1 1)).run Tryd.prog (w.alloc (.cells #[.int .u8 x] 5)) = .ok (.string (strOfNums [x])) (w.alloc (.cells #[.int .u8 x] 5)) :=
  run_convert_bytes_arg _ _ _ Tryd.underlying51 Tryd.underlying5 _ 0 1 1 [x] rfl (fun i hi => by obtain rfl : i = 0 := Nat.lt_one_iff.1 hi; simp) _ Tryd.underlying9

theorem cat_data (a b : ByteArray) : (a ++ b).data.toList = a.data.toList ++ b.data.toList := by simp
theorem num_data (m : Nat) : (strOfNums [48 + (m : Int) % 10]).data.toList = [UInt8.ofNat (48 + m % 10)] := by
  rw [strOfNums_data]; simp only [List.map_cons, List.map_nil]; congr 2
theorem emptyV_cons {b : ByteArray} {x : UInt8} {t : Txt} (h : b.data.toList = x :: t) : emptyV (.string b) = 0 := by show (if b.size = 0 then 1 else 0) = 0; rw [if_neg (size_cons h)]
theorem bs_of {b : ByteArray} {l : Txt} (h : b.data.toList = l) : b = bs l := by rw [← h, bs_back]
theorem ret_str {a b : ByteArray} (h : a = b) : Ending.returned (.string a) = .returned (.string b) := by rw [h]
theorem digits_len {N : Nat} (h1 : N ≤ 9223372036854775807) : (decDigits N).length ≤ 20 := by rw [Go.Lib.decDigits_length]; exact Go.Lib.nDigits_le20 N (by omega)

set_option maxRecDepth 100000 in
set_option maxHeartbeats 1000000 in
theorem l1Int_nat (N : Nat) (h1 : N ≤ 9223372036854775807) (w : World) :
    Calls Tryd.prog 14 #[.int .i64 N] w fun e w' => e = .returned (.string (bs (decDigits N))) ∧ Below w.heap.size w w' := by
  have hneg : ¬ (N : Int) < 0 := by omega
  have HL := hide (digits_len h1)
  go_enter Tryd.func14, Tryd.ntmps14
  go_wp2_with fail
  go_loopw [0, 3] (fun v s wr => ∃ (m : Nat) (b : ByteArray), v = .int .i64 m ∧ s = .string b ∧ m ≤ N ∧ ((b = ⟨#[]⟩ ∧ m = N) ∨ (∃ x t, b.data.toList = x :: t ∧ decDigits N = topD m ++ x :: t)) ∧ Below w.heap.size w wr) (fun v s _ => (intOf v).toNat + emptyV s)
  case atStart => exact ⟨N, ⟨#[]⟩, rfl, rfl, Nat.le_refl _, .inl ⟨rfl, rfl⟩, Below.refl _ _⟩
  case round =>
    obtain ⟨m, b, rfl, rfl, hm, hcase, hb⟩ := hrel
    have Hb := hide hb
    have Hs := hide hb.size
    clear hb
    have hmod : ¬ ((m : Int) % 10) < 0 := by omega
    have hcv := conv1 wr (48 + (m : Int) % 10)
    have hs1 := strOfNums_size [48 + (m : Int) % 10]
    simp only [List.length_cons, List.length_nil, Nat.zero_add] at hs1
    have Hs1 := hide hs1
    clear hs1
    rcases hcase with ⟨rfl, rfl⟩ | ⟨x, t, hbt, hdec⟩
    · have Hd : Hid ((strOfNums [48 + (m : Int) % 10] ++ ⟨#[]⟩).data.toList = UInt8.ofNat (48 + m % 10) :: []) := hide (by rw [cat_data, num_data]; rfl)
      have hsz : (strOfNums [48 + (m : Int) % 10]).size + (⟨#[]⟩ : ByteArray).size ≤ 9223372036854775807 := by rw [unhide Hs1]; decide
      go_wp2_with fail
      go_roundw
      case rel => exact ⟨m / 10, _, by go_num, rfl, by omega, .inr ⟨_, [], unhide Hd, decDigits_step m⟩, (unhide Hb).alloc (unhide Hs) _⟩
      case measure => rw [emptyV_cons (unhide Hd)]; simp [intOf, emptyV, ByteArray.size]; omega
    · have he := isEmpty_f hbt
      have hbs : b.size ≤ 20 := by
        have h2 : b.data.toList.length = b.size := by simp
        have h3 := unhide HL
        rw [hdec, List.length_append, ← hbt, h2] at h3
        omega
      have Hbt := hide hbt
      have Hdec := hide hdec
      clear hbt hdec
      by_cases hz : m = 0
      · subst hz
        go_wp2_with fail
        go_ret
        exact ⟨ret_str (bs_of (by rw [unhide Hbt, unhide Hdec]; rfl)), unhide Hb⟩
      · have Hd : Hid ((strOfNums [48 + (m : Int) % 10] ++ b).data.toList = UInt8.ofNat (48 + m % 10) :: x :: t) := hide (by rw [cat_data, num_data, unhide Hbt]; rfl)
        have hsz : (strOfNums [48 + (m : Int) % 10]).size + b.size ≤ 9223372036854775807 := by rw [unhide Hs1]; omega
        have Hn : Hid (decDigits N = topD (m / 10) ++ UInt8.ofNat (48 + m % 10) :: x :: t) := hide (by rw [unhide Hdec, topD, if_neg hz, decDigits_step m]; simp)
        go_wp2_with fail
        go_roundw
        case rel => exact ⟨m / 10, _, by go_num, rfl, by omega, .inr ⟨_, _, unhide Hd, unhide Hn⟩, (unhide Hb).alloc (unhide Hs) _⟩
        case measure => rw [emptyV_cons (unhide Hd), emptyV_cons (unhide Hbt)]; simp [intOf]; omega
theorem l1Int_any (n : Int) (h0 : 0 ≤ n) (h1 : n ≤ 9223372036854775807) (w : World) :
    Calls Tryd.prog 14 #[.int .i64 n] w fun e w' => e = .returned (.string (bs (itoa n))) ∧ Below w.heap.size w w' := by
  obtain ⟨N, rfl⟩ := Int.eq_ofNat_of_zero_le h0
  have hi : itoa (N : Int) = decDigits N := by unfold itoa; rw [if_neg (by omega)]; rfl
  rw [hi]
  exact l1Int_nat N (by omega) w

theorem join_snoc (sep y : Txt) : ∀ (x : Txt) (r : List Txt), join (x :: (r ++ [y])) sep = join (x :: r) sep ++ (sep ++ y) := by
  intro x r
  rw [Go.Lib.join_cons, Go.Lib.join_cons]; simp [joinTail]
theorem join_take (sep : Txt) {zs : List Txt} {k : Nat} (h0 : 0 < k) (hk : k < zs.length) : join (zs.take (k + 1)) sep = (join (zs.take k) sep ++ sep) ++ zs.getD k [] := by
  have e : zs.take (k + 1) = zs.take k ++ [zs.getD k []] := by rw [List.take_succ_eq_append_getElem hk]; simp [List.getD, hk]
  rw [e]
  match hz : zs.take k with
  | [] => have := congrArg List.length hz; simp only [List.length_take, List.length_nil] at this; omega
  | x :: r => rw [List.cons_append, join_snoc]; simp
theorem join_fst (sep : Txt) {zs : List Txt} (hk : 0 < zs.length) : join (zs.take 1) sep = zs.getD 0 [] := by
  match zs, hk with
  | z :: r, _ => simp [Go.Lib.join_one]
theorem join_len (sep : Txt) (M : Nat) : ∀ (zs : List Txt), (∀ z ∈ zs, z.length ≤ M) → (join zs sep).length ≤ zs.length * (M + sep.length)
  | [], _ => by simp [join]
  | z :: r, h => by
    have hz := h z (by simp)
    have hr : (joinTail sep r).length ≤ r.length * (M + sep.length) := by
      have : ∀ r : List Txt, (∀ z ∈ r, z.length ≤ M) → (joinTail sep r).length ≤ r.length * (M + sep.length) := fun r => by
        induction r with
        | nil => intro _; simp [joinTail]
        | cons y r ih =>
          intro hh
          have hy := hh y (by simp)
          have := ih (fun z hz => hh z (by simp [hz]))
          rw [joinTail_cons]
          simp only [List.length_append, List.length_cons, Nat.add_mul, Nat.one_mul]
          simp only [Nat.mul_add] at this ⊢
          omega
      exact this r (fun z hz => h z (by simp [hz]))
    rw [Go.Lib.join_cons]
    simp only [List.length_append, List.length_cons, Nat.add_mul, Nat.one_mul]
    simp only [Nat.mul_add] at hr ⊢
    omega
theorem bs_app (a b : Txt) : bs a ++ bs b = bs (a ++ b) := by
  rw [← bs_back (bs a ++ bs b), cat_data, bs_data, bs_data]

end Go.Proofs.YtmdgokjeobnnaaaDoor
