/- Acts as texts: what is shown of an act, what is read. Lists of bytes alone; no condition but those that a theorem names. -/
import Derived.Test.YtmdgokjeobnnaaaDoorHallText
import Derived.Test.YtmdgokjeobnnaaaDoorActRec
namespace Go.Proofs.YtmdgokjeobnnaaaDoor
open Go.ChangeShapes Go.WideShapes Go.ChangeAt Go.RowKit Go.Sort
open Go.Lib (decDigits itoa join joinTail)
set_option linter.unusedVariables false
set_option linter.unusedSimpArgs false

/-- The words, by kind. -/
def wordsL : List Txt := [[99, 111, 109, 101], [114, 101, 115, 116], [119, 97, 107, 101], [108, 101, 97, 118, 101], [114, 97, 110, 107], [97, 108, 108, 111, 119], [108, 105, 109, 105, 116], [99, 108, 111, 115, 101], [111, 112, 101, 110], [116, 105, 99, 107], [103, 114, 97, 110, 116], [97, 115, 107], [108, 101, 118, 101, 108], [106, 111, 105, 110]]
/-- Which numbers are told: 0 who, 1 A, 2 B. -/
def tellsL : List (List Nat) := [[1, 2], [0], [0], [0], [0, 1], [0, 1], [0, 1, 2], [1], [1], [1], [1, 2], [], [], [0, 1]]
def numA (a : ActV) (i : Nat) : Int := if i = 0 then a.2.1 else if i = 1 then a.2.2.1 else a.2.2.2
def putA (a : ActV) (i : Nat) (n : Int) : ActV := if i = 0 then (a.1, n, a.2.2.1, a.2.2.2) else if i = 1 then (a.1, a.2.1, n, a.2.2.2) else (a.1, a.2.1, a.2.2.1, n)
def shownL (w : Txt) (t : List Nat) (a : ActV) : List Txt := w :: t.map fun i => itoa (numA a i)
def showK (k : Nat) (a : ActV) : Txt := join (shownL (wordsL.getD k []) (tellsL.getD k []) a) [32]
def showAct (a : ActV) : Txt := if 1 ≤ a.1 ∧ a.1 ≤ 14 then showK (a.1.toNat - 1) a else []
def readNums : List Txt → List Nat → ActV → Option ActV
  | [], [], a => some a
  | x :: r, i :: t, a => (readN x).bind fun n => readNums r t (putA a i n)
  | [], _ :: _, _ => none
  | _ :: _, [], _ => none
/-- Of the words from k on the first that is the text. -/
def wordFrom (w : Txt) : List Txt → Nat → Option Nat
  | [], _ => none
  | x :: r, k => if x = w then some k else wordFrom w r (k + 1)
def readWords : List Txt → Option ActV
  | [] => none
  | w :: r => (wordFrom w wordsL 0).bind fun k => readNums r (tellsL.getD k []) ((k : Int) + 1, 0, 0, 0)
def readAct (l : Txt) : Option ActV := readWords (splitL 32 l)

theorem showAct_k {a : ActV} {k : Nat} (h : a.1 = (k : Int) + 1) (hk : k < 14) : showAct a = showK k a := by
  unfold showAct; rw [if_pos (by omega), show a.1.toNat - 1 = k by omega]
theorem showAct_no {a : ActV} (h : a.1 < 1 ∨ 14 < a.1) : showAct a = [] := by unfold showAct; rw [if_neg (by omega)]
theorem words_ne : ∀ k, k < 14 → wordsL.getD k [] ≠ [] := by decide
theorem words_free : ∀ k, k < 14 → (32 : UInt8) ∉ wordsL.getD k [] := by decide
theorem shown_free {k : Nat} (hk : k < 14) (a : ActV) : ∀ p ∈ shownL (wordsL.getD k []) (tellsL.getD k []) a, (32 : UInt8) ∉ p := by
  intro p hp
  unfold shownL at hp
  rcases List.mem_cons.1 hp with rfl | hp
  · exact words_free k hk
  · obtain ⟨i, _, rfl⟩ := List.mem_map.1 hp
    exact itoa_free _ (.inr (.inl rfl))
theorem showK_ne {k : Nat} (hk : k < 14) (a : ActV) : showK k a ≠ [] := by
  unfold showK shownL
  rw [Go.Lib.join_cons]
  intro e
  exact words_ne k hk (List.append_eq_nil_iff.1 e).1
theorem showAct_nil {a : ActV} : showAct a = [] ↔ (a.1 < 1 ∨ 14 < a.1) := by
  constructor
  · intro h
    by_cases hk : 1 ≤ a.1 ∧ a.1 ≤ 14
    · rw [showAct_k (k := a.1.toNat - 1) (by omega) (by omega)] at h
      exact absurd h (showK_ne (by omega) a)
    · omega
  · exact showAct_no
theorem split_showK {k : Nat} (hk : k < 14) (a : ActV) : splitL 32 (showK k a) = shownL (wordsL.getD k []) (tellsL.getD k []) a := by
  unfold showK
  exact split_join _ _ (shown_free hk a)
theorem word_at : ∀ k, k < 14 → wordFrom (wordsL.getD k []) wordsL 0 = some k := by decide
theorem wordFrom_le {w : Txt} : ∀ (r : List Txt) (k j : Nat), wordFrom w r k = some j → k ≤ j ∧ j < k + r.length ∧ r.getD (j - k) [] = w
  | [], k, j, h => by cases h
  | x :: r, k, j, h => by
    unfold wordFrom at h
    by_cases e : x = w
    · rw [if_pos e] at h; cases h; simp [e]
    · rw [if_neg e] at h
      obtain ⟨h1, h2, h3⟩ := wordFrom_le r (k + 1) j h
      refine ⟨by omega, by simp only [List.length_cons]; omega, ?_⟩
      rw [show j - k = (j - (k + 1)) + 1 by omega]
      simpa using h3
theorem tells_in : ∀ k, k < 14 → tellsL.getD k [] = [1, 2] ∨ tellsL.getD k [] = [0] ∨ tellsL.getD k [] = [0, 1] ∨ tellsL.getD k [] = [0, 1, 2] ∨ tellsL.getD k [] = [1] ∨ tellsL.getD k [] = [] := by decide
theorem readN_of {x : Txt} {n : Int} (h : readN x = some n) : x = itoa n := (readN_back h).1
theorem put_same {a : ActV} {i : Nat} (n : Int) (hi : i ≤ 2) : numA (putA a i n) i = n := by
  rcases (show i = 0 ∨ i = 1 ∨ i = 2 by omega) with rfl | rfl | rfl <;> rfl
theorem put_other {a : ActV} {i j : Nat} (n : Int) (hi : i ≤ 2) (hj : j ≤ 2) (h : j ≠ i) : numA (putA a i n) j = numA a j := by
  rcases (show i = 0 ∨ i = 1 ∨ i = 2 by omega) with rfl | rfl | rfl <;> rcases (show j = 0 ∨ j = 1 ∨ j = 2 by omega) with rfl | rfl | rfl <;> first | rfl | exact absurd rfl h
theorem put_kind (a : ActV) (i : Nat) (n : Int) : (putA a i n).1 = a.1 := by unfold putA; split; rfl; split <;> rfl
/-- What was read is what is shown. -/
theorem nums_back : ∀ (t : List Nat) (r : List Txt) (a x : ActV), (∀ i ∈ t, i ≤ 2) → t.Nodup → readNums r t a = some x → r = t.map (fun i => itoa (numA x i)) ∧ x.1 = a.1 ∧ ∀ j, j ≤ 2 → j ∉ t → numA x j = numA a j
  | [], [], a, x, _, _, h => by cases h; exact ⟨rfl, rfl, fun _ _ _ => rfl⟩
  | [], _ :: _, a, x, _, _, h => by cases h
  | _ :: _, [], a, x, _, _, h => by cases h
  | i :: t, y :: r, a, x, h2, hn, h => by
    simp only [readNums] at h
    cases hy : readN y with
    | none => rw [hy] at h; cases h
    | some n =>
      rw [hy] at h
      obtain ⟨hni, hnt⟩ := List.nodup_cons.1 hn
      have hi2 := h2 i (by simp)
      obtain ⟨e1, e2, e3⟩ := nums_back t r (putA a i n) x (fun j hj => h2 j (by simp [hj])) hnt h
      have ei : numA x i = n := (e3 i hi2 hni).trans (put_same n hi2)
      refine ⟨?_, e2.trans (put_kind a i n), fun j hj hjt => ?_⟩
      · rw [List.map_cons, ei, ← e1, readN_of hy]
      · simp only [List.mem_cons, not_or] at hjt
        exact (e3 j hj hjt.2).trans (put_other n hi2 hj hjt.1)
theorem tells_ok : ∀ k, k < 14 → (∀ i ∈ tellsL.getD k [], i ≤ 2) ∧ (tellsL.getD k []).Nodup := by decide
theorem readWords_some {l : List Txt} {x : ActV} (h : readWords l = some x) : ∃ k r, k < 14 ∧ l = wordsL.getD k [] :: r ∧ readNums r (tellsL.getD k []) ((k : Int) + 1, 0, 0, 0) = some x := by
  match l, h with
  | w :: r, h =>
    have h' : (wordFrom w wordsL 0).bind (fun k => readNums r (tellsL.getD k []) ((k : Int) + 1, 0, 0, 0)) = some x := h
    clear h
    cases hw : wordFrom w wordsL 0 with
    | none => rw [hw] at h'; cases h'
    | some k =>
      rw [hw] at h'
      obtain ⟨_, h2, h3⟩ := wordFrom_le _ _ _ hw
      refine ⟨k, r, ?_, ?_, h'⟩
      · rw [show wordsL.length = 14 from rfl] at h2; omega
      · rw [Nat.sub_zero] at h3; rw [h3]
theorem readAct_back {l : Txt} {x : ActV} (h : readAct l = some x) : showAct x = l := by
  obtain ⟨k, r, hk, hl, hr⟩ := readWords_some h
  obtain ⟨t1, t2⟩ := tells_ok k hk
  obtain ⟨h1, h2, -⟩ := nums_back _ _ _ _ t1 t2 hr
  rw [showAct_k h2 hk]
  unfold showK shownL
  rw [← h1, ← hl]
  have := join_split 32 l []
  exact this
/-- What is shown of an act with small numbers is read again. -/
theorem nums_show {t : List Nat} {k : Int} {a : ActV} (ht : t = [1, 2] ∨ t = [0] ∨ t = [0, 1] ∨ t = [0, 1, 2] ∨ t = [1] ∨ t = []) (h0 : -999999999 ≤ a.2.1 ∧ a.2.1 ≤ 999999999) (h1 : -999999999 ≤ a.2.2.1 ∧ a.2.2.1 ≤ 999999999) (h2 : -999999999 ≤ a.2.2.2 ∧ a.2.2.2 ≤ 999999999) : ∃ y, readNums (t.map (fun i => itoa (numA a i))) t (k, 0, 0, 0) = some y ∧ y.1 = k ∧ ∀ i ∈ t, numA y i = numA a i := by
  obtain ⟨a0, a1, a2, a3⟩ := a
  simp only at h0 h1 h2
  have r0 := readN_itoa h0.1 h0.2
  have r1 := readN_itoa h1.1 h1.2
  have r2 := readN_itoa h2.1 h2.2
  rcases ht with rfl | rfl | rfl | rfl | rfl | rfl
  · exact ⟨(k, 0, a2, a3), by simp [readNums, numA, putA, r1, r2], rfl, by simp [numA]⟩
  · exact ⟨(k, a1, 0, 0), by simp [readNums, numA, putA, r0], rfl, by simp [numA]⟩
  · exact ⟨(k, a1, a2, 0), by simp [readNums, numA, putA, r0, r1], rfl, by simp [numA]⟩
  · exact ⟨(k, a1, a2, a3), by simp [readNums, numA, putA, r0, r1, r2], rfl, by simp [numA]⟩
  · exact ⟨(k, 0, a2, 0), by simp [readNums, numA, putA, r1], rfl, by simp [numA]⟩
  · exact ⟨(k, 0, 0, 0), by simp [readNums], rfl, by simp⟩
theorem readAct_show {a : ActV} (hk : 1 ≤ a.1 ∧ a.1 ≤ 14) (h0 : -999999999 ≤ a.2.1 ∧ a.2.1 ≤ 999999999) (h1 : -999999999 ≤ a.2.2.1 ∧ a.2.2.1 ≤ 999999999) (h2 : -999999999 ≤ a.2.2.2 ∧ a.2.2.2 ≤ 999999999) : ∃ y, readAct (showAct a) = some y ∧ y.1 = a.1 ∧ showAct y = showAct a := by
  obtain ⟨k, hk1, hk2⟩ : ∃ k : Nat, k < 14 ∧ a.1 = (k : Int) + 1 := ⟨a.1.toNat - 1, by omega, by omega⟩
  obtain ⟨y, hy, hy1, hy2⟩ := nums_show (k := (k : Int) + 1) (tells_in k hk1) h0 h1 h2
  have hr : readAct (showAct a) = some y := by
    unfold readAct
    rw [showAct_k hk2 hk1, split_showK hk1]
    show (wordFrom (wordsL.getD k []) wordsL 0).bind _ = some y
    rw [word_at k hk1]
    exact hy
  exact ⟨y, hr, by rw [hy1, hk2], readAct_back hr⟩
theorem shownL_len (w : Txt) (t : List Nat) (a : ActV) : (shownL w t a).length = t.length + 1 := by unfold shownL; simp
/-- The numbers told so far. -/
theorem shown_take {w : Txt} {t : List Nat} {a : ActV} {k : Nat} (hk : k < t.length) : (shownL w t a).take (k + 2) = (shownL w t a).take (k + 1) ++ [itoa (numA a (t.getD k 0))] := by
  have hl : k + 1 < (shownL w t a).length := by rw [shownL_len]; omega
  rw [List.take_succ_eq_append_getElem hl]
  have e : (shownL w t a)[k + 1] = itoa (numA a (t.getD k 0)) := by
    show (w :: t.map (fun i => itoa (numA a i)))[k + 1] = _
    refine (List.getElem_cons_succ _ _ _ (by simpa using hk)).trans ?_
    rw [List.getElem_map]
    simp [List.getD, hk]
  rw [e]

end Go.Proofs.YtmdgokjeobnnaaaDoor
