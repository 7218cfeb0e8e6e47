/- Texts of halls, as lists of bytes: how a text is cut, how a number, a pace, a room and a hall are read and shown; that what is shown is read again, and that what is read is shown so. No condition but those that a theorem names. -/
import Derived.Test.YtmdgokjeobnnaaaDoorHallMem
import Derived.Lib.ItoaNum
import Derived.Lib.ItoaLen
import Derived.Lib.AtoiTie
import Derived.Lib.ParseIntBTie
import Derived.Lib.SplitLaws
import Derived.Lib.Join
namespace Go.Proofs.YtmdgokjeobnnaaaDoor
open Go.Lib
set_option linter.unusedVariables false

abbrev Txt := List UInt8

/-- The pieces of a text between the bytes c, the first of them begun already. -/
def splitFrom (c : UInt8) (cur : Txt) : Txt → List Txt
  | [] => [cur]
  | x :: r => if x = c then cur :: splitFrom c [] r else splitFrom c (cur ++ [x]) r
def splitL (c : UInt8) (l : Txt) : List Txt := splitFrom c [] l
theorem splitFrom_eq (c : UInt8) (cur r : Txt) : splitFrom c cur (c :: r) = cur :: splitFrom c [] r := by simp [splitFrom]
theorem splitFrom_ne {c x : UInt8} (h : x ≠ c) (cur r : Txt) : splitFrom c cur (x :: r) = splitFrom c (cur ++ [x]) r := by simp [splitFrom, h]
theorem splitFrom_free {c : UInt8} : ∀ (a cur : Txt), c ∉ a → splitFrom c cur a = [cur ++ a]
  | [], cur, _ => by simp [splitFrom]
  | x :: a, cur, h => by
    have hx : x ≠ c := fun e => h (by simp [e])
    rw [splitFrom_ne hx, splitFrom_free a _ (fun e => h (List.mem_cons_of_mem _ e))]; simp
theorem splitFrom_app {c : UInt8} : ∀ (a cur r : Txt), c ∉ a → splitFrom c cur (a ++ c :: r) = (cur ++ a) :: splitFrom c [] r
  | [], cur, r, _ => by simp [splitFrom]
  | x :: a, cur, r, h => by
    have hx : x ≠ c := fun e => h (by simp [e])
    rw [List.cons_append, splitFrom_ne hx, splitFrom_app a _ r (fun e => h (List.mem_cons_of_mem _ e))]; simp
theorem splitFrom_len (c : UInt8) : ∀ (l cur : Txt), 1 ≤ (splitFrom c cur l).length ∧ (splitFrom c cur l).length ≤ l.length + 1
  | [], cur => by simp [splitFrom]
  | x :: r, cur => by
    by_cases h : x = c
    · subst h; rw [splitFrom_eq]; have := splitFrom_len x r []; simp; omega
    · rw [splitFrom_ne h]; have := splitFrom_len c r (cur ++ [x]); simp; omega
theorem splitL_ne (c : UInt8) (l : Txt) : splitL c l ≠ [] := fun h => by have := (splitFrom_len c l []).1; unfold splitL at h; rw [h] at this; simp at this
theorem splitFrom_size (c : UInt8) : ∀ (l cur : Txt), ∀ p ∈ splitFrom c cur l, p.length ≤ cur.length + l.length
  | [], cur, p, hp => by simp [splitFrom] at hp; subst hp; simp
  | x :: r, cur, p, hp => by
    by_cases h : x = c
    · subst h; rw [splitFrom_eq] at hp
      rcases List.mem_cons.1 hp with rfl | hp
      · simp
      · have := splitFrom_size x r [] p hp; simp at this ⊢; omega
    · rw [splitFrom_ne h] at hp; have := splitFrom_size c r _ p hp; simp at this ⊢; omega
theorem joinTail_cons (sep x : Txt) (r : List Txt) : joinTail sep (x :: r) = sep ++ x ++ joinTail sep r := by simp [joinTail]
theorem join_split (c : UInt8) : ∀ (l cur : Txt), join (splitFrom c cur l) [c] = cur ++ l
  | [], cur => by simp [splitFrom, join_one]
  | x :: r, cur => by
    by_cases h : x = c
    · subst h
      rw [splitFrom_eq, join_cons]
      have ih := join_split x r []
      cases hs : splitFrom x [] r with
      | nil => have := (splitFrom_len x r []).1; rw [hs] at this; simp at this
      | cons p q => rw [hs, join_cons] at ih; rw [joinTail_cons]; simp at ih ⊢; rw [ih]
    · rw [splitFrom_ne h, join_split c r]; simp
theorem split_join {c : UInt8} : ∀ (x : Txt) (r : List Txt), (∀ p ∈ x :: r, c ∉ p) → splitL c (join (x :: r) [c]) = x :: r := by
  intro x r
  induction r generalizing x with
  | nil => intro h; rw [join_one]; unfold splitL; rw [splitFrom_free _ _ (h x (by simp))]; simp
  | cons y r ih =>
    intro h
    rw [join_cons, joinTail_cons]
    have h2 := ih y (fun p hp => h p (List.mem_cons_of_mem _ hp))
    rw [join_cons] at h2
    unfold splitL at h2 ⊢
    have : x ++ ([c] ++ y ++ joinTail [c] r) = x ++ c :: (y ++ joinTail [c] r) := by simp
    rw [this, splitFrom_app _ _ _ (h x (by simp)), h2]; simp

/-- The library's cut at one byte is the same. -/
theorem index_one_cons (c x : UInt8) (r : Txt) : index (x :: r) [c] = if x = c then 0 else (if index r [c] = -1 then -1 else index r [c] + 1) := by
  by_cases h : x = c
  · subst h; simp [index]
  · have : ¬ c = x := fun e => h e.symm
    simp [index, h, this]
theorem splitFrom_index (c : UInt8) : ∀ (l cur : Txt), splitFrom c cur l = if index l [c] = -1 then [cur ++ l] else (cur ++ l.take (index l [c]).toNat) :: splitFrom c [] (l.drop ((index l [c]).toNat + 1))
  | [], cur => by simp [splitFrom, index]
  | x :: r, cur => by
    rw [index_one_cons]
    by_cases h : x = c
    · subst h; rw [splitFrom_eq]; simp
    · rw [splitFrom_ne h, splitFrom_index c r, if_neg h]
      have hge := index_ge r [c]
      by_cases h1 : index r [c] = -1
      · simp [h1]
      · rw [if_neg h1, if_neg h1, if_neg (by omega)]
        have : (index r [c] + 1).toNat = (index r [c]).toNat + 1 := by omega
        rw [this]; simp
theorem splitK_all (c : UInt8) : ∀ (k : Nat) (l : Txt), count l [c] = k → splitK [c] 0 k l = splitL c l
  | 0, l, h => by
    unfold splitL
    rw [splitFrom_index]
    by_cases h1 : index l [c] = -1
    · simp [h1, splitK]
    · have hge := index_ge l [c]
      have := count_hit (s := l) (sub := [c]) (i := (index l [c]).toNat) (by simp) (by omega)
      omega
  | k + 1, l, h => by
    unfold splitL
    rw [splitFrom_index]
    by_cases h1 : index l [c] = -1
    · have := count_miss h1; omega
    · have hge := index_ge l [c]
      have h2 := count_hit (s := l) (sub := [c]) (i := (index l [c]).toNat) (by simp) (by omega)
      have ih := splitK_all c k (l.drop ((index l [c]).toNat + 1)) (by simp at h2; omega)
      unfold splitK
      rw [if_neg h1, if_neg (by simpa using h1)]
      unfold splitL at ih
      simp at ih ⊢
      rw [ih]

/-! ### Numbers -/
/-- A number's text: a - ahead or none, digits, at most 9, no nought ahead. -/
def readN (l : Txt) : Option Int :=
  match l with
  | [] => none
  | c :: r => if c = 45 then (if r = [] ∨ 9 < r.length ∨ r.head? = some 48 then none else (decFrom 0 r).map fun n : Nat => -(n : Int))
    else if 9 < (c :: r).length ∨ (c = 48 ∧ r ≠ []) then none else (decFrom 0 (c :: r)).map fun n : Nat => (n : Int)
theorem ofNat_digit {d : Nat} (h : d < 10) : (UInt8.ofNat (48 + d)).toNat = 48 + d := by simp; omega
theorem digit_back {b : UInt8} {d : Nat} (h : digitVal b = some d) : d < 10 ∧ b = UInt8.ofNat (48 + d) := by
  obtain ⟨h1, h2, h3⟩ := digitVal_eq h
  refine ⟨by omega, ?_⟩
  apply UInt8.toNat_inj.1
  rw [ofNat_digit (by omega)]; omega
theorem digitVal_of {d : Nat} (h : d < 10) : digitVal (UInt8.ofNat (48 + d)) = some d := by
  unfold digitVal; rw [ofNat_digit h, if_pos (by omega)]; congr 1; omega
theorem decDigits_snoc {a d : Nat} (ha : 0 < a) (hd : d < 10) : decDigits (a * 10 + d) = decDigits a ++ [UInt8.ofNat (48 + d)] := by
  rw [decDigits, dif_neg (by omega), show (a * 10 + d) / 10 = a by omega, show (a * 10 + d) % 10 = d by omega]
theorem decDigits_from : ∀ (r : Txt) (a n : Nat), 0 < a → decFrom a r = some n → decDigits n = decDigits a ++ r ∧ a ≤ n
  | [], a, n, _, h => by simp [decFrom] at h; subst h; simp
  | b :: r, a, n, ha, h => by
    unfold decFrom at h
    cases hd : digitVal b with
    | none => rw [hd] at h; cases h
    | some d =>
      rw [hd] at h
      obtain ⟨h1, h2⟩ := digit_back hd
      have ih := decDigits_from r (a * 10 + d) n (by omega) h
      rw [ih.1, decDigits_snoc ha h1, h2]; simp; omega
theorem decDigits_whole {b : UInt8} {r : Txt} {n : Nat} (h : decFrom 0 (b :: r) = some n) (hb : b ≠ 48 ∨ r = []) : decDigits n = b :: r ∧ (b ≠ 48 → 0 < n) := by
  unfold decFrom at h
  cases hd : digitVal b with
  | none => rw [hd] at h; cases h
  | some d =>
    rw [hd] at h
    obtain ⟨h1, h2⟩ := digit_back hd
    simp at h
    by_cases h0 : d = 0
    · subst h0
      have hb48 : b = 48 := by rw [h2]; rfl
      rcases hb with hb | rfl
      · exact absurd hb48 hb
      · simp [decFrom] at h; subst h; subst hb48; exact ⟨by rw [decDigits_one (by decide)]; rfl, fun h => absurd rfl h⟩
    · have := decDigits_from r d n (by omega) h
      rw [this.1, decDigits_one h1, h2]; simp; intro _; omega
theorem decFrom_digits (n : Nat) : decFrom 0 (decDigits n) = some n := by
  have key : ∀ n a r, decFrom a (decDigits n ++ r) = decFrom (a * 10 ^ nDigits n + n) r := by
    intro n
    induction n using Nat.strongRecOn with
    | _ n ih =>
      intro a r
      by_cases h : n < 10
      · rw [decDigits_one h, nDigits_small h]
        simp only [List.cons_append, List.nil_append, decFrom, digitVal_of h]
        try simp
      · rw [decDigits, dif_neg h, List.append_assoc, ih (n / 10) (by omega)]
        simp only [List.cons_append, List.nil_append, decFrom, digitVal_of (show n % 10 < 10 by omega)]
        rw [nDigits_big h, Nat.pow_succ]
        congr 1
        have : (a * 10 ^ nDigits (n / 10) + n / 10) * 10 + n % 10 = a * 10 ^ nDigits (n / 10) * 10 + (n / 10 * 10 + n % 10) := by omega
        rw [this, Nat.mul_assoc]; omega
  have := key n 0 []
  simpa [decFrom] using this
theorem nDigits_le9 {n : Nat} (h : n < 1000000000) : nDigits n ≤ 9 := by
  by_cases h0 : nDigits n ≤ 9
  · exact h0
  · exfalso
    have : ∀ k u, nDigits u = k + 1 → k ≠ 0 → 10 ^ k ≤ u := by
      intro k
      induction k with
      | zero => intro u _ h; exact absurd rfl h
      | succ k ih =>
        intro u hu _
        by_cases hs : u < 10
        · rw [nDigits_small hs] at hu; omega
        · rw [nDigits_big hs] at hu
          by_cases hk : k = 0
          · subst hk; simp; omega
          · have := ih (u / 10) (by omega) hk
            rw [Nat.pow_succ]; omega
    have h1 := this (nDigits n - 1) n (by omega) (by omega)
    have h2 : (10 : Nat) ^ 9 ≤ 10 ^ (nDigits n - 1) := Nat.pow_le_pow_right (by decide) (by omega)
    have h3 : (10 : Nat) ^ 9 = 1000000000 := by decide
    omega
theorem decDigits_head (n : Nat) : ∃ b r, decDigits n = b :: r ∧ 48 ≤ b.toNat ∧ b.toNat ≤ 57 ∧ (b = 48 → n = 0 ∧ r = []) := by
  induction n using Nat.strongRecOn with
  | _ n ih =>
    by_cases h : n < 10
    · refine ⟨_, _, decDigits_one h, by rw [ofNat_digit h]; omega, by rw [ofNat_digit h]; omega, fun e => ?_⟩
      have := congrArg UInt8.toNat e
      rw [ofNat_digit h] at this; simp at this; exact ⟨this, rfl⟩
    · obtain ⟨b, r, e, h1, h2, h3⟩ := ih (n / 10) (by omega)
      refine ⟨b, r ++ [UInt8.ofNat (48 + n % 10)], ?_, h1, h2, fun hb => ?_⟩
      · rw [decDigits, dif_neg h, e]; rfl
      · have := (h3 hb).1; omega
theorem readN_itoa {v : Int} (h0 : -999999999 ≤ v) (h1 : v ≤ 999999999) : readN (itoa v) = some v := by
  unfold itoa
  by_cases hn : v < 0
  · rw [if_pos hn]
    obtain ⟨b, r, e, b1, b2, b3⟩ := decDigits_head v.natAbs
    have hl := decDigits_length v.natAbs
    have h9 := nDigits_le9 (n := v.natAbs) (by omega)
    have hd := decFrom_digits v.natAbs
    unfold readN
    simp only [if_true]
    rw [if_neg (by
      rw [e] at hl ⊢
      simp only [List.head?_cons, Option.some.injEq, not_or]
      exact ⟨by simp, by omega, fun hb => by have := (b3 hb).1; omega⟩), hd]
    simp; omega
  · rw [if_neg hn]
    obtain ⟨b, r, e, b1, b2, b3⟩ := decDigits_head v.toNat
    have hl := decDigits_length v.toNat
    have h9 := nDigits_le9 (n := v.toNat) (by omega)
    have hd := decFrom_digits v.toNat
    rw [e] at hl hd ⊢
    unfold readN
    have hb45 : b ≠ 45 := fun hb => by subst hb; simp at b1
    simp only [if_neg hb45]
    rw [if_neg (by rw [not_or]; exact ⟨by omega, fun hh => hh.2 (b3 hh.1).2⟩), hd]
    simp; omega
theorem readN_back {l : Txt} {v : Int} (h : readN l = some v) : l = itoa v ∧ -999999999 ≤ v ∧ v ≤ 999999999 := by
  unfold readN at h
  split at h
  · cases h
  · rename_i c r
    split at h
    · rename_i hc
      split at h
      · cases h
      · rename_i hr
        simp only [not_or] at hr
        obtain ⟨n, hn, rfl⟩ := Option.map_eq_some_iff.1 h
        cases r with
        | nil => exact absurd rfl hr.1
        | cons b r =>
          have hb : b ≠ 48 := fun e => hr.2.2 (by simp [e])
          have hw := decDigits_whole hn (.inl hb)
          have hlt := decFrom_lt _ _ _ hn
          have : n < 10 ^ 9 := Nat.lt_of_lt_of_le (by simpa using hlt) (Nat.pow_le_pow_right (by decide) (by have := hr.2.1; simp at this ⊢; omega))
          have h3 : (10 : Nat) ^ 9 = 1000000000 := by decide
          have hp := hw.2 hb
          refine ⟨?_, by omega, by omega⟩
          unfold itoa
          rw [if_pos (by omega), show (-(n : Int)).natAbs = n by omega, hw.1, hc]
    · rename_i hc
      split at h
      · cases h
      · rename_i hr
        simp only [not_or] at hr
        obtain ⟨n, hn, rfl⟩ := Option.map_eq_some_iff.1 h
        have hb : c ≠ 48 ∨ r = [] := by
          by_cases e : c = 48
          · exact .inr (Classical.byContradiction fun hne => hr.2 ⟨e, hne⟩)
          · exact .inl e
        have hw := decDigits_whole hn hb
        have hlt := decFrom_lt _ _ _ hn
        have : n < 10 ^ 9 := Nat.lt_of_lt_of_le (by simpa using hlt) (Nat.pow_le_pow_right (by decide) (by have := hr.1; simp at this ⊢; omega))
        have h3 : (10 : Nat) ^ 9 = 1000000000 := by decide
        refine ⟨?_, by omega, by omega⟩
        unfold itoa
        rw [if_neg (by omega), show ((n : Int)).toNat = n by omega, hw.1]
/-- What the library reads a number's text as. -/
theorem parse_itoa {v : Int} (h0 : -999999999 ≤ v) (h1 : v ≤ 999999999) : parseIntB 64 (itoa v) = .ok v := by
  have hlen : (itoa v).length ≤ 18 := by
    unfold itoa
    by_cases hn : v < 0
    · rw [if_pos hn]; have := decDigits_length v.natAbs; have := nDigits_le9 (n := v.natAbs) (by omega); simp; omega
    · rw [if_neg hn]; have := decDigits_length v.toNat; have := nDigits_le9 (n := v.toNat) (by omega); omega
  rw [parseIntB_64, atoiAll_short _ hlen]
  have : atoi (itoa v) = some v := by
    unfold itoa
    by_cases hn : v < 0
    · rw [if_pos hn]
      obtain ⟨b, r, e, b1, b2, b3⟩ := decDigits_head v.natAbs
      have hd := decFrom_digits v.natAbs
      unfold atoi decNat
      simp only [e] at hd ⊢
      simp [hd]; omega
    · rw [if_neg hn]
      obtain ⟨b, r, e, b1, b2, b3⟩ := decDigits_head v.toNat
      have hd := decFrom_digits v.toNat
      have hb45 : b ≠ 45 := fun hb => by subst hb; simp at b1
      have hb43 : b ≠ 43 := fun hb => by subst hb; simp at b1
      unfold atoi decNat
      simp only [e] at hd ⊢
      simp [hd, hb45, hb43]; omega
  rw [this]; rfl
theorem itoa_chars (v : Int) : ∀ b ∈ itoa v, b = 45 ∨ (48 ≤ b.toNat ∧ b.toNat ≤ 57) := by
  have key : ∀ n : Nat, ∀ b ∈ decDigits n, 48 ≤ b.toNat ∧ b.toNat ≤ 57 := by
    intro n
    rw [decDigits_eq]
    intro b hb
    obtain ⟨t, _, rfl⟩ := List.mem_map.1 hb
    unfold dg
    have : v.natAbs % 10 < 10 := Nat.mod_lt _ (by decide)
    rw [ofNat_digit (Nat.mod_lt _ (by decide))]
    have := Nat.mod_lt (n / 10 ^ (nDigits n - 1 - t)) (show 0 < 10 by decide)
    omega
  unfold itoa
  intro b hb
  split at hb
  · rcases List.mem_cons.1 hb with rfl | hb
    · exact .inl rfl
    · exact .inr (key _ b hb)
  · exact .inr (key _ b hb)
theorem itoa_free (v : Int) {c : UInt8} (h : c = 58 ∨ c = 32 ∨ c = 47) : c ∉ itoa v := fun hm => by
  rcases itoa_chars v c hm with e | ⟨h1, h2⟩
  · subst e; revert h; decide
  · rcases h with rfl | rfl | rfl <;> simp at h1 h2
theorem itoa_ne (v : Int) : itoa v ≠ [] := by
  unfold itoa
  split
  · simp
  · obtain ⟨b, r, e, _⟩ := decDigits_head v.toNat; rw [e]; simp

/-! ### Paces, rooms, halls -/
def readPace (l : Txt) : Option PaceV :=
  match splitL 58 l with
  | [a, b] => (readN a).bind fun f => (readN b).bind fun k => some (f, k)
  | _ => none
def readRoom (l : Txt) : Option RoomV :=
  match splitL 32 l with
  | [] => none
  | a :: ws => (readN a).bind fun n => (ws.mapM readPace).bind fun ps => some (n, ps)
def readHall (l : Txt) : Option (List RoomV) := ((splitL 47 l).mapM readRoom).bind fun rs => if hallB rs = true then some rs else none
def showPace (p : PaceV) : Txt := itoa p.1 ++ 58 :: itoa p.2
def showRoom (r : RoomV) : Txt := join (itoa r.1 :: r.2.map showPace) [32]
def showHall (rs : List RoomV) : Txt := if hallB rs = true then join (rs.map showRoom) [47] else []

theorem readPace_show {p : PaceV} (h : paceB p = true) : readPace (showPace p) = some p := by
  unfold paceB at h; simp only [Bool.and_eq_true] at h
  have h1 := inB_of h.1; have h2 := inB_of h.2
  unfold readPace showPace splitL
  rw [splitFrom_app _ _ _ (itoa_free _ (.inl rfl)), splitFrom_free _ _ (itoa_free _ (.inl rfl))]
  simp [readN_itoa (v := p.1) (by omega) (by omega), readN_itoa (v := p.2) (by omega) (by omega)]
theorem readPace_back {l : Txt} {p : PaceV} (h : readPace l = some p) : showPace p = l := by
  unfold readPace at h
  split at h
  · rename_i a b hs
    obtain ⟨f, hf, h⟩ := Option.bind_eq_some_iff.1 h
    obtain ⟨k, hk, h⟩ := Option.bind_eq_some_iff.1 h
    cases h
    have hj := join_split 58 l []
    unfold splitL at hs
    rw [hs, join_cons, joinTail_cons] at hj
    unfold showPace
    rw [← (readN_back hf).1, ← (readN_back hk).1]
    simpa [joinTail] using hj
  · cases h
theorem paceB_all {ps : List PaceV} (h : pacesB ps = true) : ∀ p ∈ ps, paceB p = true := by
  intro p hp
  obtain ⟨j, hj, rfl⟩ := List.getElem_of_mem hp
  have := pacesB_of h hj
  unfold stepB paceAt at this
  simp only [Bool.and_eq_true] at this
  simpa [List.getD, hj] using this.1
theorem mapM_some {α β : Type} {f : α → Option β} {g : β → α} : ∀ (ps : List β), (∀ p ∈ ps, f (g p) = some p) → (ps.map g).mapM f = some ps
  | [], _ => by simp
  | p :: ps, h => by
    simp [List.mapM_cons, h p (by simp), mapM_some ps (fun q hq => h q (List.mem_cons_of_mem _ hq))]
theorem mapM_back {α β : Type} {f : α → Option β} {g : β → α} : ∀ (l : List α) (ps : List β), l.mapM f = some ps → (∀ x p, f x = some p → g p = x) → ps.map g = l
  | [], ps, h, _ => by simp at h; subst h; rfl
  | x :: l, ps, h, hg => by
    rw [List.mapM_cons] at h
    obtain ⟨p, hp, h⟩ := Option.bind_eq_some_iff.1 h
    obtain ⟨q, hq, h⟩ := Option.bind_eq_some_iff.1 h
    cases h
    simp [hg x p hp, mapM_back l q hq hg]
theorem showPace_free (p : PaceV) {c : UInt8} (h : c = 32 ∨ c = 47) : c ∉ showPace p := by
  unfold showPace
  simp only [List.mem_append, List.mem_cons, not_or]
  refine ⟨itoa_free _ (.inr h), by rcases h with rfl | rfl <;> decide, itoa_free _ (.inr h)⟩
theorem readRoom_show {r : RoomV} (h : roomB r = true) : readRoom (showRoom r) = some r := by
  have hb := room_bd h
  unfold roomB at h; simp only [Bool.and_eq_true] at h
  unfold readRoom showRoom
  rw [split_join]
  · simp only [readN_itoa (v := r.1) (by omega) (by omega), mapM_some (f := readPace) (g := showPace) r.2 (fun p hp => readPace_show (paceB_all h.2.2 p hp))]
    simp
  · intro p hp
    rcases List.mem_cons.1 hp with rfl | hp
    · exact itoa_free _ (.inr (.inl rfl))
    · obtain ⟨q, _, rfl⟩ := List.mem_map.1 hp
      exact showPace_free q (.inl rfl)
theorem readRoom_back {l : Txt} {r : RoomV} (h : readRoom l = some r) : showRoom r = l := by
  unfold readRoom at h
  split at h
  · cases h
  · rename_i a ws hs
    obtain ⟨n, hn, h⟩ := Option.bind_eq_some_iff.1 h
    obtain ⟨ps, hp, h⟩ := Option.bind_eq_some_iff.1 h
    cases h
    have hj := join_split 32 l []
    unfold splitL at hs
    rw [hs] at hj
    unfold showRoom
    rw [← (readN_back hn).1, mapM_back (g := showPace) _ _ hp (fun x p => readPace_back)]
    simpa using hj
theorem showRoom_free (r : RoomV) : (47 : UInt8) ∉ showRoom r := by
  unfold showRoom
  rw [join_cons]
  intro hm
  rcases List.mem_append.1 hm with h | h
  · exact itoa_free _ (.inr (.inr rfl)) h
  · unfold joinTail at h
    obtain ⟨t, ht, h⟩ := List.mem_flatten.1 h
    obtain ⟨s, hs, rfl⟩ := List.mem_map.1 ht
    obtain ⟨p, _, rfl⟩ := List.mem_map.1 hs
    rcases List.mem_append.1 h with h | h
    · revert h; decide
    · exact showPace_free p (.inr rfl) h
/-- What is shown is read again. -/
theorem readHall_show {rs : List RoomV} (h : hallB rs = true) : readHall (showHall rs) = some rs := by
  have hb := hallB_of h
  unfold readHall showHall
  rw [if_pos h]
  cases rs with
  | nil => simp at hb
  | cons x r =>
    rw [List.map_cons, split_join]
    · rw [← List.map_cons, mapM_some (f := readRoom) (g := showRoom) (x :: r) (fun p hp => readRoom_show ((List.all_eq_true.1 hb.2.2.1) p hp))]
      simp [h]
    · intro p hp
      rw [← List.map_cons] at hp
      obtain ⟨q, _, rfl⟩ := List.mem_map.1 hp
      exact showRoom_free q
/-- What is read is right, and is shown so. -/
theorem readHall_back {l : Txt} {rs : List RoomV} (h : readHall l = some rs) : hallB rs = true ∧ showHall rs = l := by
  unfold readHall at h
  obtain ⟨rs', hr, h⟩ := Option.bind_eq_some_iff.1 h
  split at h
  · rename_i hb
    cases h
    refine ⟨hb, ?_⟩
    unfold showHall
    rw [if_pos hb, mapM_back (g := showRoom) _ _ hr (fun x p => readRoom_back)]
    have hj := join_split 47 l []
    simpa [splitL] using hj
  · cases h
theorem showHall_ne {rs : List RoomV} (h : hallB rs = true) : showHall rs ≠ [] := fun e => by
  have hr := readHall_show h
  rw [e] at hr
  have : readHall [] = none := by decide
  rw [this] at hr; cases hr

end Go.Proofs.YtmdgokjeobnnaaaDoor
