/- Slices of texts that the call itself made; contracts of the model's cut of a text (l1Split) and of its reading of a number (l1Read). Conditions: those that each theorem names. -/
import Derived.Test.YtmdgokjeobnnaaaDoorHallText
import Derived.Test.YtmdgokjeobnnaaaDoorHallRead
import Derived.Maps.AppendAt
namespace Go.Proofs.YtmdgokjeobnnaaaDoor
open Go.ChangeShapes Go.WideShapes Go.ChangeAt Go.RowKit Go.Sort
open Go.Lib (digitVal decFrom)
set_option linter.unusedVariables false

/-- A text as the model keeps it. -/
def bs (l : Txt) : ByteArray := ⟨l.toArray⟩
theorem bs_data (l : Txt) : (bs l).data.toList = l := by simp [bs]
theorem bs_back (s : ByteArray) : bs s.data.toList = s := by simp [bs]
theorem bs_size (l : Txt) : (bs l).size = l.length := by simp [bs, ByteArray.size]

/-- The slice v, in a block from n₀ on, holds the texts zs. -/
def StrsAt (n₀ : Nat) (w : World) (v : Value) (zs : List Txt) : Prop := w.ownsRow n₀ 9 1 v zs.length (zs.map fun z => Value.string (bs z))
theorem StrsAt.lt {n₀ : Nat} {w : World} {v : Value} {zs : List Txt} (h : StrsAt n₀ w v zs) {k : Nat} (hk : v.ownBlock = some k) : n₀ ≤ k ∧ k < w.heap.size := World.ownsRow.lt h k hk
theorem StrsAt.below {n₀ B : Nat} {w w' : World} {v : Value} {zs : List Txt} (h : StrsAt n₀ w v zs) (hb : Below B w w') (hB : ∀ k, v.ownBlock = some k → k < B) : StrsAt n₀ w' v zs := by
  refine ⟨h.1, ?_⟩
  rcases h.2 with hz | ⟨g, cap, cur, rfl, hb', hg, r⟩
  · exact .inl hz
  · exact .inr ⟨g, cap, cur, rfl, hb', (hb.block g (hB g rfl)).trans hg, r⟩
theorem StrsAt.later {n₀ : Nat} {w w' : World} {v : Value} {zs : List Txt} (h : StrsAt n₀ w v zs) (hb : Below w.heap.size w w') : StrsAt n₀ w' v zs := h.below hb (fun k e => (h.lt e).2)
theorem StrsAt.view {n₀ : Nat} {w : World} {v : Value} {zs : List Txt} (h : StrsAt n₀ w v zs) :
    ∃ (a : Option Addr) (cap : Nat), v = .slice a zs.length cap ∧ zs.length ≤ cap ∧ cap ≤ 9223372036854775807 ∧ (zs = [] ∨ ∃ g, a = some ⟨g, 0, none⟩ ∧ n₀ ≤ g ∧ g < w.heap.size ∧
      (∀ k, k < zs.length → w.cell? ⟨g, k, none⟩ = some (.string (bs (zs.getD k []))))) := by
  have h' := h
  rcases h.2 with ⟨rfl, hz⟩ | ⟨g, cap, cur, rfl, hb, hg, hnc, hcm, r⟩
  · exact ⟨none, 0, by rw [hz], by omega, by omega, .inl (List.eq_nil_of_length_eq_zero hz)⟩
  · refine ⟨_, cap, rfl, hnc, by unfold maxLen at hcm; omega, .inr ⟨g, rfl, hb, (Array.getElem?_eq_some_iff.1 hg).1, fun k hk => ?_⟩⟩
    rw [World.ownsRow.cellAt h' k (by omega)]
    simp [List.getElem?_eq_getElem hk]
theorem infoStr : (Tryd.prog.info? 9).map (fun i => (i.zero, i.size, i.bytes)) = some (some (.string ByteArray.empty), 1, 16) := by kernel_rfl

theorem take_snoc (l : Txt) (f k : Nat) (hf : f ≤ k) (h : k < l.length) : (l.take (k + 1)).drop f = (l.take k).drop f ++ [l[k]] := by
  rw [List.take_succ_eq_append_getElem h, List.drop_append_of_le_length (by simp; omega)]
theorem drop_here (l : Txt) (k : Nat) (h : k < l.length) : l.drop k = l[k] :: l.drop (k + 1) := List.drop_eq_getElem_cons h
theorem extract_bs (s : ByteArray) (f k : Nat) : s.extract f k = bs ((s.data.toList.take k).drop f) := by
  rw [← bs_back (s.extract f k)]; congr 1; rw [Go.Lib.extract_data]; simp [List.drop_take]

theorem split_app {w wr w1 : World} {v v' : Value} {P : List Txt} {s : ByteArray} {a k : Nat} {o : Obj} (hown : StrsAt w.heap.size wr v P) (hb : Below w.heap.size w wr)
    (hown' : w1.ownsRow w.heap.size 9 1 v' (P.length + 1) ((P.map fun z => Value.string (bs z)) ++ [.string (s.extract a k)])) (hg : (wr.alloc o).grownBy w1 v.ownBlock) :
    StrsAt w.heap.size w1 v' (P ++ [(s.data.toList.take k).drop a]) ∧ Below w.heap.size w w1 := by
  refine ⟨?_, ?_⟩
  · unfold StrsAt; rw [extract_bs] at hown'; simpa using hown'
  · exact (hb.alloc hb.size o).grown hg (by have := hb.size; simp; omega) (fun j ej => (hown.lt ej).1)

set_option maxRecDepth 100000 in
set_option maxHeartbeats 2000000 in
theorem l1Split_any (s : ByteArray) (c : UInt8) (w : World) (hs : s.size ≤ 1048576) :
    Calls Tryd.prog 17 #[.string s, .int .u8 c.toNat] w fun e w' => ∃ v, e = .returned v ∧ StrsAt w.heap.size w' v (splitL c s.data.toList) ∧ Below w.heap.size w w' := by
  obtain ⟨i0, hi, hz0, hz1, hz2⟩ := info_parts infoStr
  go_enter Tryd.func17, Tryd.ntmps17
  go_wp2_with fail
  go_loopw [5, 6, 7] (fun v f i wr => ∃ (P : List Txt) (a k : Nat), f = .int .i64 a ∧ i = .int .i64 k ∧ StrsAt w.heap.size wr v P ∧ P.length ≤ k ∧ Below w.heap.size w wr ∧ ((k ≤ s.size ∧ a ≤ k ∧ P ++ splitFrom c ((s.data.toList.take k).drop a) (s.data.toList.drop k) = splitL c s.data.toList) ∨ (k = s.size + 1 ∧ P = splitL c s.data.toList))) (fun _ _ i _ => s.size + 1 - (intOf i).toNat)
  case atStart => exact ⟨[], 0, 0, rfl, rfl, World.ownsRow_lit w #[] 0 (Nat.le_refl _) (by simp [maxLen]) rfl, by simp, (Below.refl _ _).alloc (Nat.le_refl _) _, .inl ⟨by omega, by omega, by simp [splitL]⟩⟩
  case round =>
    obtain ⟨P, a, k, rfl, rfl, hown, hpl, hb, hcase⟩ := hrel
    have Hb := hide hb
    have Hown := hide hown
    clear hb hown
    rcases hcase with ⟨hk, ha, hsp⟩ | ⟨rfl, hP⟩
    · have Hsp := hide hsp
      clear hsp
      by_cases hend : k = s.size
      · subst hend
        go_wp2_with (at_builtin; refine wpList_append_own _ rfl _ _ 33 rfl w.heap.size 9 i0 (.string ByteArray.empty) 1 16 Tryd.underlying33 hi hz0 hz1 hz2 rfl (by decide) _ _ _ rfl (World.ownsRow.alloc (unhide Hown) _) ⟨_, 0, none⟩ 1 1 [.string (s.extract a s.size)] rfl rfl (cell_one_new _ _ _) (by simp [Value.oneCell']) (by simp only [maxLen]; omega) (by omega) (by have := (unhide Hb).size; simp; omega) ?_; intro v' w1 hown' hgrow _; have R := split_app (unhide Hown) (unhide Hb) hown' hgrow; have HR := hide R; clear hown' hgrow R)
        go_roundw
        case rel => exact ⟨P ++ [(s.data.toList.take s.size).drop a], s.size + 1, s.size + 1, by go_num, by go_num, (unhide HR).1, by simp; omega, (unhide HR).2, .inr ⟨rfl, by rw [← unhide Hsp, List.drop_eq_nil_of_le (show s.data.toList.length ≤ s.size by simp)]; rfl⟩⟩
        case measure => simp [intOf]
      · have hlt : k < s.size := by omega
        have hll : k < s.data.toList.length := by simpa using hlt
        have hat : s.data.toList[k] = s[k] := rfl
        by_cases hc : s[k] = c
        · have Hc := hide hc
          have Hn : Hid (P ++ [(s.data.toList.take k).drop a] ++ splitFrom c ((s.data.toList.take (k + 1)).drop (k + 1)) (s.data.toList.drop (k + 1)) = splitL c s.data.toList) := hide (by
            have h0 := unhide Hsp
            rw [drop_here _ k hll, hat, hc, splitFrom_eq] at h0
            rw [← h0]; simp)
          clear hc hat
          have hbeq : ((s[k].toNat : Int) == (c.toNat : Int)) = true := by rw [show s[k] = c from unhide Hc]; simp
          have hne : ((k : Int) == (s.size : Int)) = false := beq_eq_false_iff_ne.2 (by omega)
          go_wp2_with (at_builtin; refine wpList_append_own _ rfl _ _ 33 rfl w.heap.size 9 i0 (.string ByteArray.empty) 1 16 Tryd.underlying33 hi hz0 hz1 hz2 rfl (by decide) _ _ _ rfl (World.ownsRow.alloc (unhide Hown) _) ⟨_, 0, none⟩ 1 1 [.string (s.extract a k)] rfl rfl (cell_one_new _ _ _) (by simp [Value.oneCell']) (by simp only [maxLen]; omega) (by omega) (by have := (unhide Hb).size; simp; omega) ?_; intro v' w1 hown' hgrow _; have R := split_app (unhide Hown) (unhide Hb) hown' hgrow; have HR := hide R; clear hown' hgrow R)
          go_roundw
          case rel => exact ⟨P ++ [(s.data.toList.take k).drop a], k + 1, k + 1, by go_num, by go_num, (unhide HR).1, by simp; omega, (unhide HR).2, .inl ⟨by omega, by omega, unhide Hn⟩⟩
          case measure => simp [intOf]; omega
        · have Hn : Hid (P ++ splitFrom c ((s.data.toList.take (k + 1)).drop a) (s.data.toList.drop (k + 1)) = splitL c s.data.toList) := hide (by
            have h0 := unhide Hsp
            rw [drop_here _ k hll, hat, splitFrom_ne hc] at h0
            rw [← h0, take_snoc _ a k ha hll, hat])
          have hbeq : ((s[k].toNat : Int) == (c.toNat : Int)) = false := beq_eq_false_iff_ne.2 (fun e => hc (UInt8.toNat_inj.1 (by omega)))
          have hne : ((k : Int) == (s.size : Int)) = false := beq_eq_false_iff_ne.2 (by omega)
          clear hc hat
          go_wp2_with fail
          go_roundw
          case rel => exact ⟨P, a, k + 1, rfl, by go_num, unhide Hown, by omega, unhide Hb, .inl ⟨by omega, by omega, unhide Hn⟩⟩
          case measure => simp [intOf]; omega
    · have HP := hide hP
      clear hP
      go_wp2_with fail
      go_ret
      exact ⟨_, rfl, by rw [← unhide HP]; exact unhide Hown, unhide Hb⟩

/-! ### A number -/
theorem decFrom_none {l : Txt} {acc n k : Nat} {b : UInt8} (h1 : l[k]? = some b) (h2 : digitVal b = none) : Go.Lib.decFrom acc l = none := by
  cases h : Go.Lib.decFrom acc l with
  | none => rfl
  | some m => obtain ⟨d, hd⟩ := Go.Lib.digit_of_decFrom l acc m h k b h1; rw [h2] at hd; cases hd
theorem readN_none_short {l : Txt} (h : l = []) : readN l = none := by rw [h]; rfl
theorem readN_pos {c : UInt8} {r : Txt} (hc : c ≠ 45) (h9 : (c :: r).length ≤ 9) (h0 : ¬ (c = 48 ∧ r ≠ [])) : readN (c :: r) = (Go.Lib.decFrom 0 (c :: r)).map fun n : Nat => (n : Int) := by
  unfold readN; simp only [if_neg hc]; rw [if_neg]; rw [not_or]; exact ⟨by omega, h0⟩
theorem readN_pos_f {c : UInt8} {r : Txt} (hc : c ≠ 45) (h : 9 < (c :: r).length ∨ (c = 48 ∧ r ≠ [])) : readN (c :: r) = none := by
  unfold readN; simp only [if_neg hc]; rw [if_pos h]
theorem readN_neg {r : Txt} (h1 : r ≠ []) (h9 : r.length ≤ 9) (h0 : r.head? ≠ some 48) : readN (45 :: r) = (Go.Lib.decFrom 0 r).map fun n : Nat => -(n : Int) := by
  unfold readN; simp only [if_true]; rw [if_neg]; rw [not_or, not_or]; exact ⟨h1, by omega, h0⟩
theorem readN_neg_f {r : Txt} (h : r = [] ∨ 9 < r.length ∨ r.head? = some 48) : readN (45 :: r) = none := by
  unfold readN; simp only [if_true]; rw [if_pos h]
/-- What l1Read answers. -/
def readV (l : Txt) : Value := .tuple #[.int .i64 ((readN l).getD 0), .bool (readN l).isSome]
theorem readV_none {l : Txt} (h : readN l = none) : readV l = .tuple #[.int .i64 0, .bool false] := by unfold readV; rw [h]; rfl
theorem readV_some {l : Txt} {v : Int} (h : readN l = some v) : readV l = .tuple #[.int .i64 v, .bool true] := by unfold readV; rw [h]; rfl
theorem digit_in {b : UInt8} (h1 : 48 ≤ b.toNat) (h2 : b.toNat ≤ 57) : digitVal b = some (b.toNat - 48) := by unfold Go.Lib.digitVal; rw [if_pos ⟨h1, h2⟩]
theorem digit_out {b : UInt8} (h : b.toNat < 48 ∨ 57 < b.toNat) : digitVal b = none := by unfold Go.Lib.digitVal; rw [if_neg (by omega)]

end Go.Proofs.YtmdgokjeobnnaaaDoor
