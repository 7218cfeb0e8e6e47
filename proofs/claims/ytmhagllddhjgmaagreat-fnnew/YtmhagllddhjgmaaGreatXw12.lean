/- What the proof rests on, part 12: lists and numbers, how they lie in memory, and contracts of the calls. No condition but those that a theorem names. -/
import Derived.Test.YtmhagllddhjgmaaGreatXw01
import Derived.Test.YtmhagllddhjgmaaGreatXw02
import Derived.Test.YtmhagllddhjgmaaGreatXw03
import Derived.Test.YtmhagllddhjgmaaGreatXw04
import Derived.Test.YtmhagllddhjgmaaGreatXw05
import Derived.Test.YtmhagllddhjgmaaGreatXw06
import Derived.Test.YtmhagllddhjgmaaGreatXw07
import Derived.Test.YtmhagllddhjgmaaGreatXw08
import Derived.Test.YtmhagllddhjgmaaGreatXw09
import Derived.Lib.ItoaNum
import Derived.Lib.ItoaLen
import Derived.Lib.AtoiTie
import Derived.Lib.ParseIntBTie
import Derived.Lib.SplitLaws
import Derived.Lib.Join
import Derived.Maps.AppendAt
import Derived.WalkMore
import Derived.Below
import Derived.WalkKit
import Derived.ProofKit
import Derived.OpenShut
import Derived.Outline
import Derived.Lib.QuietBelow
import Derived.Deep.RegionWith
import Derived.Deep.QuietTactic
import Derived.BigQuiet
import Derived.Deep.DrawnRows
import Derived.BigRegion
import Derived.Deep.RegionLawGrows
import Derived.Laws.OwnMore
import Derived.OwnWalk
import Derived.Deep.DeepCutAuto
import Derived.Lib.SmallJoins
import Derived.Deep.Fields
import Derived.Deep.Slices
import Derived.OrdersHeld
import Derived.Deep.RegionHeldLaw
/- A new smithy is right: lists alone. No condition but those that a theorem names. -/
namespace Go.Proofs.YtmhagllddhjgmaaGreat
open Go.ChangeShapes Go.WideShapes Go.ChangeAt Go.RowKit Go.Sort
set_option linter.unusedVariables false

theorem recAt_rep {α : Type} [Inhabited α] {n j : Nat} (x : α) (h : j < n) : recAt (List.replicate n x) j = x := by
  unfold recAt
  simp [List.getD, h]
theorem new_desks {rs : List RoomV} (h : hallB rs = true) : ((newM rs).desks.length : Int) = benchSum rs := by
  have := bench_one h
  show (((List.replicate (benchSum rs).toNat ((true, -1, 0) : DeskV)).length : Nat) : Int) = _
  rw [List.length_replicate]
  omega
theorem new_guilded {rs : List RoomV} (gs : List GuildV) (h : hallB rs = true) (hg : guildsB gs = true) : smyB { newM rs with guilds := gs } = true := by
  have hb := bench_one h
  have hd := new_desks h
  obtain ⟨r1, r2, r3, r4⟩ := hallB_of h
  have hdk : ∀ j, j < (newM rs).desks.length → recAt (newM rs).desks j = (true, -1, 0) := fun j hj => recAt_rep _ (by
    have : (newM rs).desks.length = (benchSum rs).toNat := by show (List.replicate _ _).length = _; rw [List.length_replicate]
    omega)
  have hlo : Loose { newM rs with guilds := gs } := by
    refine ⟨?_, ?_, ?_, fun i hi => absurd hi (Nat.not_lt_zero _), fun i hi => absurd hi (Nat.not_lt_zero _), 0, ?_, ?_⟩
    · unfold headB
      simp only [Bool.and_eq_true, decide_eq_true_eq]
      exact ⟨h, hg, Nat.zero_le _, hd, by show (List.replicate _ _).length = _; rw [List.length_replicate]; rfl, rfl⟩
    · intro j hj
      show deskB (recAt (newM rs).desks j) = true
      rw [hdk j hj]
      rfl
    · intro j hj
      have hj' : j < rs.length := by
        have : (List.replicate rs.length (0 : Int)).length = rs.length := List.length_replicate ..
        have hj2 : j < (List.replicate rs.length (0 : Int)).length := hj
        omega
      show inB (recAt (List.replicate rs.length (0 : Int)) j) 0 (((roomAt rs j).2.length : Int) - 1) = true
      rw [recAt_rep _ hj']
      have hmem : roomAt rs j ∈ rs := by unfold roomAt; simp [List.getD, hj']
      have hrb := List.all_eq_true.1 r3 _ hmem
      unfold roomB at hrb
      simp only [Bool.and_eq_true] at hrb
      have := inB_of hrb.2.1
      exact inB_t (by omega) (by omega)
    · show 0 < (newM rs).desks.length
      omega
    · show (recAt (newM rs).desks 0).1 = true
      rw [hdk 0 (by omega)]
  unfold smyB
  rw [hlo.mk', Bool.true_and]
  refine List.all_eq_true.2 fun b hb2 => ?_
  have hb3 : b < (newM rs).desks.length := List.mem_range.1 hb2
  unfold benchOkB
  show (match scanV [] (b : Int) 0 with | none => false | some (wk, wt) => (recAt (newM rs).desks b).2.1 == wk && !(wt && decide (wk < 0))) = true
  rw [hdk b hb3]
  rfl
theorem new_right {rs : List RoomV} (h : hallB rs = true) : smyB (newM rs) = true := new_guilded [] h rfl

end Go.Proofs.YtmhagllddhjgmaaGreat

/- Texts of halls, as lists of bytes: how a text is cut, how a number, a pace, a room and a hall are read and shown; that what is shown is read again, and that what is read is shown so. No condition but those that a theorem names. -/
namespace Go.Proofs.YtmhagllddhjgmaaGreat
open Go.Lib
set_option linter.unusedVariables false

abbrev Txt := List UInt8

/-- The pieces of a text between the bytes c, the first of them begun already. -/
def splitFrom (c : UInt8) (cur : Txt) : Txt → List Txt
  | [] => [cur]
  | x :: r => if x = c then cur :: splitFrom c [] r else splitFrom c (cur ++ [x]) r
def splitL (c : UInt8) (l : Txt) : List Txt := splitFrom c [] l
theorem splitFrom_eq (c : UInt8) (cur r : Txt) : splitFrom c cur (c :: r) = cur :: splitFrom c [] r := by simp [splitFrom]
theorem splitFrom_ne {c x : UInt8} (h : x ≠ c) (cur r : Txt) : splitFrom c cur (x :: r) = splitFrom c (cur ++ [x]) r := by simp [splitFrom, h]
theorem splitFrom_len (c : UInt8) : ∀ (l cur : Txt), 1 ≤ (splitFrom c cur l).length ∧ (splitFrom c cur l).length ≤ l.length + 1
  | [], cur => by simp [splitFrom]
  | x :: r, cur => by
    by_cases h : x = c
    · subst h; rw [splitFrom_eq]; have := splitFrom_len x r []; simp; omega
    · rw [splitFrom_ne h]; have := splitFrom_len c r (cur ++ [x]); simp; omega
theorem splitL_ne (c : UInt8) (l : Txt) : splitL c l ≠ [] := fun h => by have := (splitFrom_len c l []).1; unfold splitL at h; rw [h] at this; simp at this
theorem splitFrom_size (c : UInt8) : ∀ (l cur : Txt), ∀ p ∈ splitFrom c cur l, p.length ≤ cur.length + l.length
  | [], cur, p, hp => by simp [splitFrom] at hp; subst hp; simp
  | x :: r, cur, p, hp => by
    by_cases h : x = c
    · subst h; rw [splitFrom_eq] at hp
      rcases List.mem_cons.1 hp with rfl | hp
      · simp
      · have := splitFrom_size x r [] p hp; simp at this ⊢; omega
    · rw [splitFrom_ne h] at hp; have := splitFrom_size c r _ p hp; simp at this ⊢; omega
theorem joinTail_cons (sep x : Txt) (r : List Txt) : joinTail sep (x :: r) = sep ++ x ++ joinTail sep r := by simp [joinTail]
theorem join_split (c : UInt8) : ∀ (l cur : Txt), join (splitFrom c cur l) [c] = cur ++ l
  | [], cur => by simp [splitFrom, join_one]
  | x :: r, cur => by
    by_cases h : x = c
    · subst h
      rw [splitFrom_eq, join_cons]
      have ih := join_split x r []
      cases hs : splitFrom x [] r with
      | nil => have := (splitFrom_len x r []).1; rw [hs] at this; simp at this
      | cons p q => rw [hs, join_cons] at ih; rw [joinTail_cons]; simp at ih ⊢; rw [ih]
    · rw [splitFrom_ne h, join_split c r]; simp
/-- A number's text: a - ahead or none, digits, at most 9, no nought ahead. -/
def readN (l : Txt) : Option Int :=
  match l with
  | [] => none
  | c :: r => if c = 45 then (if r = [] ∨ 9 < r.length ∨ r.head? = some 48 then none else (decFrom 0 r).map fun n : Nat => -(n : Int))
    else if 9 < (c :: r).length ∨ (c = 48 ∧ r ≠ []) then none else (decFrom 0 (c :: r)).map fun n : Nat => (n : Int)
theorem ofNat_digit {d : Nat} (h : d < 10) : (UInt8.ofNat (48 + d)).toNat = 48 + d := by simp; omega
theorem digit_back {b : UInt8} {d : Nat} (h : digitVal b = some d) : d < 10 ∧ b = UInt8.ofNat (48 + d) := by
  obtain ⟨h1, h2, h3⟩ := digitVal_eq h
  refine ⟨by omega, ?_⟩
  apply UInt8.toNat_inj.1
  rw [ofNat_digit (by omega)]; omega
theorem decDigits_snoc {a d : Nat} (ha : 0 < a) (hd : d < 10) : decDigits (a * 10 + d) = decDigits a ++ [UInt8.ofNat (48 + d)] := by
  rw [decDigits, dif_neg (by omega), show (a * 10 + d) / 10 = a by omega, show (a * 10 + d) % 10 = d by omega]
theorem decDigits_from : ∀ (r : Txt) (a n : Nat), 0 < a → decFrom a r = some n → decDigits n = decDigits a ++ r ∧ a ≤ n
  | [], a, n, _, h => by simp [decFrom] at h; subst h; simp
  | b :: r, a, n, ha, h => by
    unfold decFrom at h
    cases hd : digitVal b with
    | none => rw [hd] at h; cases h
    | some d =>
      rw [hd] at h
      obtain ⟨h1, h2⟩ := digit_back hd
      have ih := decDigits_from r (a * 10 + d) n (by omega) h
      rw [ih.1, decDigits_snoc ha h1, h2]; simp; omega
theorem decDigits_whole {b : UInt8} {r : Txt} {n : Nat} (h : decFrom 0 (b :: r) = some n) (hb : b ≠ 48 ∨ r = []) : decDigits n = b :: r ∧ (b ≠ 48 → 0 < n) := by
  unfold decFrom at h
  cases hd : digitVal b with
  | none => rw [hd] at h; cases h
  | some d =>
    rw [hd] at h
    obtain ⟨h1, h2⟩ := digit_back hd
    simp at h
    by_cases h0 : d = 0
    · subst h0
      have hb48 : b = 48 := by rw [h2]; rfl
      rcases hb with hb | rfl
      · exact absurd hb48 hb
      · simp [decFrom] at h; subst h; subst hb48; exact ⟨by rw [decDigits_one (by decide)]; rfl, fun h => absurd rfl h⟩
    · have := decDigits_from r d n (by omega) h
      rw [this.1, decDigits_one h1, h2]; simp; intro _; omega
theorem readN_back {l : Txt} {v : Int} (h : readN l = some v) : l = itoa v ∧ -999999999 ≤ v ∧ v ≤ 999999999 := by
  unfold readN at h
  split at h
  · cases h
  · rename_i c r
    split at h
    · rename_i hc
      split at h
      · cases h
      · rename_i hr
        simp only [not_or] at hr
        obtain ⟨n, hn, rfl⟩ := Option.map_eq_some_iff.1 h
        cases r with
        | nil => exact absurd rfl hr.1
        | cons b r =>
          have hb : b ≠ 48 := fun e => hr.2.2 (by simp [e])
          have hw := decDigits_whole hn (.inl hb)
          have hlt := decFrom_lt _ _ _ hn
          have : n < 10 ^ 9 := Nat.lt_of_lt_of_le (by simpa using hlt) (Nat.pow_le_pow_right (by decide) (by have := hr.2.1; simp at this ⊢; omega))
          have h3 : (10 : Nat) ^ 9 = 1000000000 := by decide
          have hp := hw.2 hb
          refine ⟨?_, by omega, by omega⟩
          unfold itoa
          rw [if_pos (by omega), show (-(n : Int)).natAbs = n by omega, hw.1, hc]
    · rename_i hc
      split at h
      · cases h
      · rename_i hr
        simp only [not_or] at hr
        obtain ⟨n, hn, rfl⟩ := Option.map_eq_some_iff.1 h
        have hb : c ≠ 48 ∨ r = [] := by
          by_cases e : c = 48
          · exact .inr (Classical.byContradiction fun hne => hr.2 ⟨e, hne⟩)
          · exact .inl e
        have hw := decDigits_whole hn hb
        have hlt := decFrom_lt _ _ _ hn
        have : n < 10 ^ 9 := Nat.lt_of_lt_of_le (by simpa using hlt) (Nat.pow_le_pow_right (by decide) (by have := hr.1; simp at this ⊢; omega))
        have h3 : (10 : Nat) ^ 9 = 1000000000 := by decide
        refine ⟨?_, by omega, by omega⟩
        unfold itoa
        rw [if_neg (by omega), show ((n : Int)).toNat = n by omega, hw.1]
def readPace (l : Txt) : Option PaceV :=
  match splitL 58 l with
  | [a, b] => (readN a).bind fun f => (readN b).bind fun k => some (f, k)
  | _ => none
def readRoom (l : Txt) : Option RoomV :=
  match splitL 32 l with
  | [] => none
  | a :: ws => (readN a).bind fun n => (ws.mapM readPace).bind fun ps => some (n, ps)
def readHall (l : Txt) : Option (List RoomV) := ((splitL 47 l).mapM readRoom).bind fun rs => if hallB rs = true then some rs else none
def showPace (p : PaceV) : Txt := itoa p.1 ++ 58 :: itoa p.2
def showRoom (r : RoomV) : Txt := join (itoa r.1 :: r.2.map showPace) [32]
def showHall (rs : List RoomV) : Txt := if hallB rs = true then join (rs.map showRoom) [47] else []

theorem readPace_back {l : Txt} {p : PaceV} (h : readPace l = some p) : showPace p = l := by
  unfold readPace at h
  split at h
  · rename_i a b hs
    obtain ⟨f, hf, h⟩ := Option.bind_eq_some_iff.1 h
    obtain ⟨k, hk, h⟩ := Option.bind_eq_some_iff.1 h
    cases h
    have hj := join_split 58 l []
    unfold splitL at hs
    rw [hs, join_cons, joinTail_cons] at hj
    unfold showPace
    rw [← (readN_back hf).1, ← (readN_back hk).1]
    simpa [joinTail] using hj
  · cases h
theorem mapM_back {α β : Type} {f : α → Option β} {g : β → α} : ∀ (l : List α) (ps : List β), l.mapM f = some ps → (∀ x p, f x = some p → g p = x) → ps.map g = l
  | [], ps, h, _ => by simp at h; subst h; rfl
  | x :: l, ps, h, hg => by
    rw [List.mapM_cons] at h
    obtain ⟨p, hp, h⟩ := Option.bind_eq_some_iff.1 h
    obtain ⟨q, hq, h⟩ := Option.bind_eq_some_iff.1 h
    cases h
    simp [hg x p hp, mapM_back l q hq hg]
theorem readRoom_back {l : Txt} {r : RoomV} (h : readRoom l = some r) : showRoom r = l := by
  unfold readRoom at h
  split at h
  · cases h
  · rename_i a ws hs
    obtain ⟨n, hn, h⟩ := Option.bind_eq_some_iff.1 h
    obtain ⟨ps, hp, h⟩ := Option.bind_eq_some_iff.1 h
    cases h
    have hj := join_split 32 l []
    unfold splitL at hs
    rw [hs] at hj
    unfold showRoom
    rw [← (readN_back hn).1, mapM_back (g := showPace) _ _ hp (fun x p => readPace_back)]
    simpa using hj
/-- What is read is right, and is shown so. -/
theorem readHall_back {l : Txt} {rs : List RoomV} (h : readHall l = some rs) : hallB rs = true ∧ showHall rs = l := by
  unfold readHall at h
  obtain ⟨rs', hr, h⟩ := Option.bind_eq_some_iff.1 h
  split at h
  · rename_i hb
    cases h
    refine ⟨hb, ?_⟩
    unfold showHall
    rw [if_pos hb, mapM_back (g := showRoom) _ _ hr (fun x p => readRoom_back)]
    have hj := join_split 47 l []
    simpa [splitL] using hj
  · cases h
end Go.Proofs.YtmhagllddhjgmaaGreat

/- Slices of texts that the call itself made; contracts of the model's cut of a text (l1Split) and of its reading of a number (l1Read). Conditions: those that each theorem names. -/
namespace Go.Proofs.YtmhagllddhjgmaaGreat
open Go.ChangeShapes Go.WideShapes Go.ChangeAt Go.RowKit Go.Sort
open Go.Lib (digitVal decFrom)
set_option linter.unusedVariables false

/-- A text as the model keeps it. -/
def bs (l : Txt) : ByteArray := ⟨l.toArray⟩
theorem bs_data (l : Txt) : (bs l).data.toList = l := by simp [bs]
theorem bs_back (s : ByteArray) : bs s.data.toList = s := by simp [bs]
theorem bs_size (l : Txt) : (bs l).size = l.length := by simp [bs, ByteArray.size]

/-- The slice v, in a block from n₀ on, holds the texts zs. -/
def StrsAt (n₀ : Nat) (w : World) (v : Value) (zs : List Txt) : Prop := w.ownsRow n₀ 9 1 v zs.length (zs.map fun z => Value.string (bs z))
theorem StrsAt.lt {n₀ : Nat} {w : World} {v : Value} {zs : List Txt} (h : StrsAt n₀ w v zs) {k : Nat} (hk : v.ownBlock = some k) : n₀ ≤ k ∧ k < w.heap.size := World.ownsRow.lt h k hk
theorem StrsAt.view {n₀ : Nat} {w : World} {v : Value} {zs : List Txt} (h : StrsAt n₀ w v zs) :
    ∃ (a : Option Addr) (cap : Nat), v = .slice a zs.length cap ∧ zs.length ≤ cap ∧ cap ≤ 9223372036854775807 ∧ (zs = [] ∨ ∃ g, a = some ⟨g, 0, none⟩ ∧ n₀ ≤ g ∧ g < w.heap.size ∧
      (∀ k, k < zs.length → w.cell? ⟨g, k, none⟩ = some (.string (bs (zs.getD k []))))) := by
  have h' := h
  rcases h.2 with ⟨rfl, hz⟩ | ⟨g, cap, cur, rfl, hb, hg, hnc, hcm, r⟩
  · exact ⟨none, 0, by rw [hz], by omega, by omega, .inl (List.eq_nil_of_length_eq_zero hz)⟩
  · refine ⟨_, cap, rfl, hnc, by unfold maxLen at hcm; omega, .inr ⟨g, rfl, hb, (Array.getElem?_eq_some_iff.1 hg).1, fun k hk => ?_⟩⟩
    rw [World.ownsRow.cellAt h' k (by omega)]
    simp [List.getElem?_eq_getElem hk]
theorem infoStr : (Tryz.prog.info? 9).map (fun i => (i.zero, i.size, i.bytes)) = some (some (.string ByteArray.empty), 1, 16) := by kernel_rfl

theorem take_snoc (l : Txt) (f k : Nat) (hf : f ≤ k) (h : k < l.length) : (l.take (k + 1)).drop f = (l.take k).drop f ++ [l[k]] := by
  rw [List.take_succ_eq_append_getElem h, List.drop_append_of_le_length (by simp; omega)]
theorem drop_here (l : Txt) (k : Nat) (h : k < l.length) : l.drop k = l[k] :: l.drop (k + 1) := List.drop_eq_getElem_cons h
theorem extract_bs (s : ByteArray) (f k : Nat) : s.extract f k = bs ((s.data.toList.take k).drop f) := by
  rw [← bs_back (s.extract f k)]; congr 1; rw [Go.Lib.extract_data]; simp [List.drop_take]

theorem split_app {w wr w1 : World} {v v' : Value} {P : List Txt} {s : ByteArray} {a k : Nat} {o : Obj} (hown : StrsAt w.heap.size wr v P) (hb : Below w.heap.size w wr)
    (hown' : w1.ownsRow w.heap.size 9 1 v' (P.length + 1) ((P.map fun z => Value.string (bs z)) ++ [.string (s.extract a k)])) (hg : (wr.alloc o).grownBy w1 v.ownBlock) :
    StrsAt w.heap.size w1 v' (P ++ [(s.data.toList.take k).drop a]) ∧ Below w.heap.size w w1 := by
  refine ⟨?_, ?_⟩
  · unfold StrsAt; rw [extract_bs] at hown'; simpa using hown'
  · exact (hb.alloc hb.size o).grown hg (by have := hb.size; simp; omega) (fun j ej => (hown.lt ej).1)

set_option maxRecDepth 100000 in
set_option maxHeartbeats 2000000 in
theorem l1Split_any (s : ByteArray) (c : UInt8) (w : World) (hs : s.size ≤ 1048576) :
    Calls Tryz.prog 199 #[.string s, .int .u8 c.toNat] w fun e w' => ∃ v, e = .returned v ∧ StrsAt w.heap.size w' v (splitL c s.data.toList) ∧ Below w.heap.size w w' := by
  obtain ⟨i0, hi, hz0, hz1, hz2⟩ := info_parts infoStr
  go_enter Tryz.func199, Tryz.ntmps199
  go_wp2_with fail
  go_loopw [5, 6, 7] (fun v f i wr => ∃ (P : List Txt) (a k : Nat), f = .int .i64 a ∧ i = .int .i64 k ∧ StrsAt w.heap.size wr v P ∧ P.length ≤ k ∧ Below w.heap.size w wr ∧ ((k ≤ s.size ∧ a ≤ k ∧ P ++ splitFrom c ((s.data.toList.take k).drop a) (s.data.toList.drop k) = splitL c s.data.toList) ∨ (k = s.size + 1 ∧ P = splitL c s.data.toList))) (fun _ _ i _ => s.size + 1 - (intOf i).toNat)
  case atStart => exact ⟨[], 0, 0, rfl, rfl, World.ownsRow_lit w #[] 0 (Nat.le_refl _) (by simp [maxLen]) rfl, by simp, (Below.refl _ _).alloc (Nat.le_refl _) _, .inl ⟨by omega, by omega, by simp [splitL]⟩⟩
  case round =>
    obtain ⟨P, a, k, rfl, rfl, hown, hpl, hb, hcase⟩ := hrel
    have Hb := hide hb
    have Hown := hide hown
    clear hb hown
    rcases hcase with ⟨hk, ha, hsp⟩ | ⟨rfl, hP⟩
    · have Hsp := hide hsp
      clear hsp
      by_cases hend : k = s.size
      · subst hend
        go_wp2_with (at_builtin; refine wpList_append_own _ rfl _ _ 181 rfl w.heap.size 9 i0 (.string ByteArray.empty) 1 16 Tryz.underlying181 hi hz0 hz1 hz2 rfl (by decide) _ _ _ rfl (World.ownsRow.alloc (unhide Hown) _) ⟨_, 0, none⟩ 1 1 [.string (s.extract a s.size)] rfl rfl (cell_one_new _ _ _) (by simp [Value.oneCell']) (by simp only [maxLen]; omega) (by omega) (by have := (unhide Hb).size; simp; omega) ?_; intro v' w1 hown' hgrow _; have R := split_app (unhide Hown) (unhide Hb) hown' hgrow; have HR := hide R; clear hown' hgrow R)
        go_roundw
        case rel => exact ⟨P ++ [(s.data.toList.take s.size).drop a], s.size + 1, s.size + 1, by go_num, by go_num, (unhide HR).1, by simp; omega, (unhide HR).2, .inr ⟨rfl, by rw [← unhide Hsp, List.drop_eq_nil_of_le (show s.data.toList.length ≤ s.size by simp)]; rfl⟩⟩
        case measure => simp [intOf]
      · have hlt : k < s.size := by omega
        have hll : k < s.data.toList.length := by simpa using hlt
        have hat : s.data.toList[k] = s[k] := rfl
        by_cases hc : s[k] = c
        · have Hc := hide hc
          have Hn : Hid (P ++ [(s.data.toList.take k).drop a] ++ splitFrom c ((s.data.toList.take (k + 1)).drop (k + 1)) (s.data.toList.drop (k + 1)) = splitL c s.data.toList) := hide (by
            have h0 := unhide Hsp
            rw [drop_here _ k hll, hat, hc, splitFrom_eq] at h0
            rw [← h0]; simp)
          clear hc hat
          have hbeq : ((s[k].toNat : Int) == (c.toNat : Int)) = true := by rw [show s[k] = c from unhide Hc]; simp
          have hne : ((k : Int) == (s.size : Int)) = false := beq_eq_false_iff_ne.2 (by omega)
          go_wp2_with (at_builtin; refine wpList_append_own _ rfl _ _ 181 rfl w.heap.size 9 i0 (.string ByteArray.empty) 1 16 Tryz.underlying181 hi hz0 hz1 hz2 rfl (by decide) _ _ _ rfl (World.ownsRow.alloc (unhide Hown) _) ⟨_, 0, none⟩ 1 1 [.string (s.extract a k)] rfl rfl (cell_one_new _ _ _) (by simp [Value.oneCell']) (by simp only [maxLen]; omega) (by omega) (by have := (unhide Hb).size; simp; omega) ?_; intro v' w1 hown' hgrow _; have R := split_app (unhide Hown) (unhide Hb) hown' hgrow; have HR := hide R; clear hown' hgrow R)
          go_roundw
          case rel => exact ⟨P ++ [(s.data.toList.take k).drop a], k + 1, k + 1, by go_num, by go_num, (unhide HR).1, by simp; omega, (unhide HR).2, .inl ⟨by omega, by omega, unhide Hn⟩⟩
          case measure => simp [intOf]; omega
        · have Hn : Hid (P ++ splitFrom c ((s.data.toList.take (k + 1)).drop a) (s.data.toList.drop (k + 1)) = splitL c s.data.toList) := hide (by
            have h0 := unhide Hsp
            rw [drop_here _ k hll, hat, splitFrom_ne hc] at h0
            rw [← h0, take_snoc _ a k ha hll, hat])
          have hbeq : ((s[k].toNat : Int) == (c.toNat : Int)) = false := beq_eq_false_iff_ne.2 (fun e => hc (UInt8.toNat_inj.1 (by omega)))
          have hne : ((k : Int) == (s.size : Int)) = false := beq_eq_false_iff_ne.2 (by omega)
          clear hc hat
          go_wp2_with fail
          go_roundw
          case rel => exact ⟨P, a, k + 1, rfl, by go_num, unhide Hown, by omega, unhide Hb, .inl ⟨by omega, by omega, unhide Hn⟩⟩
          case measure => simp [intOf]; omega
    · have HP := hide hP
      clear hP
      go_wp2_with fail
      go_ret
      exact ⟨_, rfl, by rw [← unhide HP]; exact unhide Hown, unhide Hb⟩

/-! ### A number -/
theorem decFrom_none {l : Txt} {acc n k : Nat} {b : UInt8} (h1 : l[k]? = some b) (h2 : digitVal b = none) : Go.Lib.decFrom acc l = none := by
  cases h : Go.Lib.decFrom acc l with
  | none => rfl
  | some m => obtain ⟨d, hd⟩ := Go.Lib.digit_of_decFrom l acc m h k b h1; rw [h2] at hd; cases hd
theorem readN_pos {c : UInt8} {r : Txt} (hc : c ≠ 45) (h9 : (c :: r).length ≤ 9) (h0 : ¬ (c = 48 ∧ r ≠ [])) : readN (c :: r) = (Go.Lib.decFrom 0 (c :: r)).map fun n : Nat => (n : Int) := by
  unfold readN; simp only [if_neg hc]; rw [if_neg]; rw [not_or]; exact ⟨by omega, h0⟩
theorem readN_pos_f {c : UInt8} {r : Txt} (hc : c ≠ 45) (h : 9 < (c :: r).length ∨ (c = 48 ∧ r ≠ [])) : readN (c :: r) = none := by
  unfold readN; simp only [if_neg hc]; rw [if_pos h]
theorem readN_neg {r : Txt} (h1 : r ≠ []) (h9 : r.length ≤ 9) (h0 : r.head? ≠ some 48) : readN (45 :: r) = (Go.Lib.decFrom 0 r).map fun n : Nat => -(n : Int) := by
  unfold readN; simp only [if_true]; rw [if_neg]; rw [not_or, not_or]; exact ⟨h1, by omega, h0⟩
theorem readN_neg_f {r : Txt} (h : r = [] ∨ 9 < r.length ∨ r.head? = some 48) : readN (45 :: r) = none := by
  unfold readN; simp only [if_true]; rw [if_pos h]
/-- What l1Read answers. -/
def readV (l : Txt) : Value := .tuple #[.int .i64 ((readN l).getD 0), .bool (readN l).isSome]
theorem readV_none {l : Txt} (h : readN l = none) : readV l = .tuple #[.int .i64 0, .bool false] := by unfold readV; rw [h]; rfl
theorem readV_some {l : Txt} {v : Int} (h : readN l = some v) : readV l = .tuple #[.int .i64 v, .bool true] := by unfold readV; rw [h]; rfl
theorem digit_in {b : UInt8} (h1 : 48 ≤ b.toNat) (h2 : b.toNat ≤ 57) : digitVal b = some (b.toNat - 48) := by unfold Go.Lib.digitVal; rw [if_pos ⟨h1, h2⟩]
theorem digit_out {b : UInt8} (h : b.toNat < 48 ∨ 57 < b.toNat) : digitVal b = none := by unfold Go.Lib.digitVal; rw [if_neg (by omega)]

end Go.Proofs.YtmhagllddhjgmaaGreat

