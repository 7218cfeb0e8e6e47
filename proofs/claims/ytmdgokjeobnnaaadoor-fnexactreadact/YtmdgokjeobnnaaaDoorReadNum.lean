/- Contracts of the program's readNumber and readPace: each answers what the text says and writes into no memory that was there. Conditions: the text is no longer than 2^20; of the library's variables: the table of powers of ten lies as its text lays it, three others hold a number or an error. -/
import Derived.Test.YtmdgokjeobnnaaaDoorShowRoom
import Derived.Test.YtmdgokjeobnnaaaDoorTxtRead
import Derived.Lib.AtoiErrMem
import Derived.HandedShaped
namespace Go.Proofs.YtmdgokjeobnnaaaDoor
open Go.ChangeShapes Go.WideShapes Go.ChangeAt Go.RowKit Go.Sort
open Go.Lib (decDigits itoa join joinTail parseIntB cut index)
set_option linter.unusedVariables false

def isErr (v : Value) : Prop := v = .nilIface ∨ ∃ te pe, v = .iface te pe
/-- What of the library's variables the calls ask. -/
structure Env (w : World) : Prop where
  tab : Tab w
  big : ∃ m, w.cell? ⟨0, 0, none⟩ = some (.int .i64 m)
  syn : ∃ ev, w.cell? ⟨4, 0, none⟩ = some ev ∧ isErr ev
  rng : ∃ ev, w.cell? ⟨5, 0, none⟩ = some ev ∧ isErr ev
theorem Env.below {w w' : World} (h : Env w) (hb : Below w.heap.size w w') : Env w' := by
  obtain ⟨h1, ⟨m, h2⟩, ⟨e3, h3, k3⟩, e4, h4, k4⟩ := h
  exact ⟨h1.below hb, ⟨m, (hb.cell (World.block_lt_of_cell? _ _ h2)).trans h2⟩, ⟨e3, (hb.cell (World.block_lt_of_cell? _ _ h3)).trans h3, k3⟩, e4, (hb.cell (World.block_lt_of_cell? _ _ h4)).trans h4, k4⟩

theorem parse_of_read {l : Txt} {v : Int} (h : readN l = some v) : parseIntB 64 l = .ok v := by
  obtain ⟨h1, h2, h3⟩ := readN_back h
  rw [h1]; exact parse_itoa h2 h3
theorem read_none {l : Txt} (h : ∀ v, parseIntB 64 l ≠ .ok v) : readN l = none := by
  cases hx : readN l with
  | none => rfl
  | some v => exact absurd (parse_of_read hx) (h v)
theorem read_same {l : Txt} {v v' : Int} (h : parseIntB 64 l = .ok v) (hx : readN l = some v') : v' = v := by
  have := parse_of_read hx
  rw [h] at this; cases this; rfl
theorem read_out {l : Txt} {v : Int} (h : parseIntB 64 l = .ok v) (hr : inB v (-999999999) 999999999 = false) : readN l = none := by
  cases hx : readN l with
  | none => rfl
  | some v' =>
    obtain rfl := read_same h hx
    obtain ⟨_, h2, h3⟩ := readN_back hx
    rw [inB_t h2 h3] at hr; cases hr
theorem read_other {l : Txt} {v : Int} (h : parseIntB 64 l = .ok v) (hn : itoa v ≠ l) : readN l = none := by
  cases hx : readN l with
  | none => rfl
  | some v' =>
    obtain rfl := read_same h hx
    exact absurd (readN_back hx).1.symm hn

set_option maxRecDepth 100000 in
set_option maxHeartbeats 2000000 in
theorem readNumber_any (l : Txt) (w : World) (he : Env w) (hl : l.length ≤ 1048576) :
    Calls Tryd.prog 26 #[.string (bs l)] w fun e w' => e = .returned (readV l) ∧ Below w.heap.size w w' := by
  have hsz := bs_size l
  have He := hide he
  obtain ⟨_, _, ⟨e3, h3, k3⟩, e4, h4, k4⟩ := he
  cases hp : parseIntB 64 l with
  | ok v =>
    have HP := hide hp
    clear hp h3 h4 k3 k4
    go_enter Tryd.func26, Tryd.ntmps26
    go_wp2_with fail
    refine (Tryd.strconv_ParseInt_10_at64_ok (bs l) (by omega) v (by rw [bs_data]; exact unhide HP) _).mono ?_
    rintro e w1 ⟨rfl, hw1⟩
    have hb1 : Below w.heap.size w w1 := by
      rcases hw1 with rfl | ⟨t, rfl⟩
      · exact Below.refl _ _
      · exact Go.Lib.bytesWorld_below _ _ _
    have Hb1 := hide hb1
    clear hw1 hb1
    cases hr : inB v (-999999999) 999999999
    · have HN := hide (readV_none (read_out (unhide HP) hr))
      go_wp2_with (go_at_call 36; refine (liesFrom_any _ _ _ _).mono ?_; rintro e w' ⟨rfl, rfl⟩)
      go_ret2
      exact ⟨ret2 (unhide HN).symm, unhide Hb1⟩
    obtain ⟨v0, v1⟩ := inB_of hr
    by_cases hs : itoa v = l
    · have HN : Hid (readV l = .tuple #[.int .i64 v, .bool true]) := hide (readV_some (by rw [← hs]; exact readN_itoa v0 v1))
      have Hs : Hid (bs (itoa v) = bs l) := hide (by rw [hs])
      clear hs
      go_wp2_with (go_at_call 36; refine (liesFrom_any _ _ _ _).mono ?_; rintro e w' ⟨rfl, rfl⟩)
      refine (showNumber_any v (by omega) (by omega) _ ((unhide He).below (unhide Hb1)).tab).mono ?_
      rw [unhide Hs]
      rintro e w2 ⟨rfl, hb2⟩
      have Hb2 := hide hb2
      clear hb2
      go_wp2_with fail
      go_ret2
      exact ⟨ret2 (unhide HN).symm, (unhide Hb1).trans ((unhide Hb2).mono (unhide Hb1).size)⟩
    · have HN := hide (readV_none (read_other (unhide HP) hs))
      have hne1 : ((bs (itoa v)).toList == (bs l).toList) = false := by rw [ByteArray.toList_eq, ByteArray.toList_eq, bs_data, bs_data]; exact beq_eq_false_iff_ne.2 hs
      clear hs
      go_wp2_with (go_at_call 36; refine (liesFrom_any _ _ _ _).mono ?_; rintro e w' ⟨rfl, rfl⟩)
      refine (showNumber_any v (by omega) (by omega) _ ((unhide He).below (unhide Hb1)).tab).mono ?_
      rintro e w2 ⟨rfl, hb2⟩
      have Hb2 := hide hb2
      clear hb2
      go_wp2_with fail
      go_ret2
      exact ⟨ret2 (unhide HN).symm, (unhide Hb1).trans ((unhide Hb2).mono (unhide Hb1).size)⟩
  | «syntax» =>
    have HN := hide (readV_none (read_none (l := l) (fun v e => by rw [hp] at e; cases e)))
    have HP := hide hp
    have H3 := hide h3
    have K3 := hide k3
    clear hp h3 h4 k3 k4
    go_enter Tryd.func26, Tryd.ntmps26
    go_wp2_with fail
    refine (Tryd.strconv_ParseInt_10_at64_syntax (bs l) (by omega) (by rw [bs_data]; exact unhide HP) e3 _ (unhide H3) (unhide K3)).mono ?_
    rintro e w1 ⟨nn, rfl, _, _, hb1⟩
    have Hb1 := hide hb1
    clear hb1
    go_wp2_with fail
    go_ret2
    exact ⟨ret2 (unhide HN).symm, unhide Hb1⟩
  | range =>
    have HN := hide (readV_none (read_none (l := l) (fun v e => by rw [hp] at e; cases e)))
    have HP := hide hp
    have H4 := hide h4
    have K4 := hide k4
    clear hp h3 h4 k3 k4
    go_enter Tryd.func26, Tryd.ntmps26
    go_wp2_with fail
    refine (Tryd.strconv_ParseInt_10_at64_range (bs l) (by omega) (by rw [bs_data]; exact unhide HP) e4 _ (unhide H4) (unhide K4)).mono ?_
    rintro e w1 ⟨nn, rfl, _, _, hb1⟩
    have Hb1 := hide hb1
    clear hb1
    go_wp2_with fail
    go_ret2
    exact ⟨ret2 (unhide HN).symm, unhide Hb1⟩

theorem read_free {b : Txt} {v : Int} (h : readN b = some v) : (58 : UInt8) ∉ b := by rw [(readN_back h).1]; exact itoa_free v (.inl rfl)
theorem index_free {c : UInt8} : ∀ {l : Txt}, index l [c] ≠ -1 → c ∈ l
  | [], h => by simp [index] at h
  | x :: r, h => by
    rw [index_one_cons] at h
    by_cases hx : x = c
    · rw [hx]; simp
    · rw [if_neg hx] at h
      by_cases hr : index r [c] = -1
      · rw [if_pos hr] at h; exact absurd rfl h
      · exact List.mem_cons_of_mem _ (index_free hr)
theorem readPace_cut (l : Txt) : readPace l = (readN (cut l [58]).1).bind fun f => (readN (cut l [58]).2.1).bind fun k => some (f, k) := by
  unfold readPace cut
  by_cases hi : index l [58] = -1
  · have hs : splitL 58 l = [l] := by unfold splitL; rw [splitFrom_index, if_pos hi]; rfl
    rw [hs, if_neg (by omega)]
    simp only
    cases readN l <;> rfl
  · have h0 : 0 ≤ index l [58] := by have := Go.Lib.index_ge l [58]; omega
    have hs : splitL 58 l = l.take (index l [58]).toNat :: splitL 58 (l.drop ((index l [58]).toNat + 1)) := by
      unfold splitL; rw [splitFrom_index, if_neg hi]; rfl
    rw [hs, if_pos h0]
    simp only [List.length_cons, List.length_nil, Nat.zero_add]
    generalize l.drop ((index l [58]).toNat + 1) = b
    by_cases hb : index b [58] = -1
    · have hs2 : splitL 58 b = [b] := by unfold splitL; rw [splitFrom_index, if_pos hb]; rfl
      rw [hs2]
    · have hs2 : ∃ x y r, splitL 58 b = x :: y :: r := by
        have e : splitL 58 b = b.take (index b [58]).toNat :: splitL 58 (b.drop ((index b [58]).toNat + 1)) := by unfold splitL; rw [splitFrom_index, if_neg hb]; rfl
        rw [e]
        match hq : splitL 58 (b.drop ((index b [58]).toNat + 1)) with
        | [] => exact absurd hq (splitL_ne _ _)
        | y :: r => exact ⟨_, y, r, rfl⟩
      obtain ⟨x, y, r, hs2⟩ := hs2
      rw [hs2]
      have hnb : readN b = none := by
        cases hx : readN b with
        | none => rfl
        | some v => exact absurd (index_free hb) (read_free hx)
      rw [hnb]
      cases readN (l.take (index l [58]).toNat) <;> rfl

theorem cut_len (l : Txt) : (cut l [58]).1.length ≤ l.length ∧ (cut l [58]).2.1.length ≤ l.length := by
  unfold cut
  split
  · simp only [List.length_take, List.length_drop]; omega
  · simp

end Go.Proofs.YtmdgokjeobnnaaaDoor
