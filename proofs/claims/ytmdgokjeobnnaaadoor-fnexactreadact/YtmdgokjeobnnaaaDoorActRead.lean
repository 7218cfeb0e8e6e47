/- Contract of the program's ReadAct: it answers what the lists say and writes into no memory that was there. Conditions: the text is no longer than 2^20; the library's variables hold what the calls ask. -/
import Derived.Test.YtmdgokjeobnnaaaDoorActForms
import Derived.Test.YtmdgokjeobnnaaaDoorReadNum
import Derived.Test.YtmdgokjeobnnaaaDoorTxtSplit
import Derived.Lib.QuietBelow
import Derived.BigRegion
namespace Go.Proofs.YtmdgokjeobnnaaaDoor
open Go.ChangeShapes Go.WideShapes Go.ChangeAt Go.RowKit Go.Sort
open Go.Lib (decDigits itoa join joinTail)
set_option linter.unusedVariables false
set_option linter.unusedSimpArgs false
set_option maxRecDepth 100000

def actRes : Option ActV → Value
  | none => .tuple #[.agg #[.int .i64 0, .int .i64 0, .int .i64 0, .int .i64 0], .bool false]
  | some a => .tuple #[.agg #[.int .i64 a.1, .int .i64 a.2.1, .int .i64 a.2.2.1, .int .i64 a.2.2.2], .bool true]
/-- Texts lie there, a piece of a row. -/
def TxtsAt (w : World) (v : Value) (r : List Txt) : Prop := ∃ a cap, v = .slice a r.length cap ∧ ∀ i, i < r.length → ∃ b off, a = some ⟨b, off, none⟩ ∧ b < w.heap.size ∧ w.cell? ⟨b, off + i, none⟩ = some (.string (bs (r.getD i [])))
theorem nums_len : ∀ (r : List Txt) (t : List Nat) (a x : ActV), readNums r t a = some x → r.length = t.length
  | [], [], _, _, _ => rfl
  | [], _ :: _, _, _, h => by cases h
  | _ :: _, [], _, _, h => by cases h
  | y :: r, i :: t, a, x, h => by
    simp only [readNums] at h
    cases hy : readN y with
    | none => rw [hy] at h; cases h
    | some n => rw [hy] at h; simp only [List.length_cons]; rw [nums_len r t _ x h]
theorem nums_differ {r : List Txt} {t : List Nat} {a : ActV} (h : r.length ≠ t.length) : readNums r t a = none := by
  cases hx : readNums r t a with
  | none => rfl
  | some x => exact absurd (nums_len r t a x hx) h
theorem nums_step {r : List Txt} {t : List Nat} {a : ActV} {j : Nat} (hr : j < r.length) (ht : j < t.length) : readNums (r.drop j) (t.drop j) a = (readN (r.getD j [])).bind fun n => readNums (r.drop (j + 1)) (t.drop (j + 1)) (putA a (t.getD j 0) n) := by
  rw [List.drop_eq_getElem_cons hr, List.drop_eq_getElem_cons ht]
  simp [readNums, List.getD, hr, ht]
theorem word_first {w : Txt} : ∀ (l : List Txt) (k j : Nat), (∀ q, q < j → l.getD q [] ≠ w) → j < l.length → l.getD j [] = w → wordFrom w l k = some (k + j)
  | [], k, j, _, h, _ => by simp at h
  | x :: r, k, 0, _, _, h => by
    have : x = w := by simpa using h
    unfold wordFrom; rw [if_pos this]; rfl
  | x :: r, k, j + 1, hn, hl, h => by
    have h0 : x ≠ w := by simpa using hn 0 (by omega)
    unfold wordFrom
    rw [if_neg h0, word_first r (k + 1) j (fun q hq => by simpa using hn (q + 1) (by omega)) (by simpa using hl) (by simpa using h)]
    congr 1; omega
theorem word_none {w : Txt} : ∀ (l : List Txt) (k : Nat), (∀ q, q < l.length → l.getD q [] ≠ w) → wordFrom w l k = none
  | [], _, _ => rfl
  | x :: r, k, hn => by
    have h0 : x ≠ w := by simpa using hn 0 (by simp)
    unfold wordFrom
    rw [if_neg h0]
    exact word_none r (k + 1) (fun q hq => by simpa using hn (q + 1) (by simpa using hq))
theorem bs_ne {a b : Txt} (h : a ≠ b) : ((bs a).toList == (bs b).toList) = false := by
  rw [ByteArray.toList_eq, ByteArray.toList_eq, bs_data, bs_data]; exact beq_eq_false_iff_ne.2 h
theorem bs_eq {a b : Txt} (h : a = b) : ((bs a).toList == (bs b).toList) = true := by rw [h]; simp
set_option maxHeartbeats 8000000 in
theorem read_any {w : World} {v rv : Value} {t : List Nat} {r : List Txt} (k : Int) (wd : Txt) (h : PartsAt w v t) (hr : TxtsAt w rv r) (ht : ∀ i ∈ t, i ≤ 2) (hn : t.length ≤ 3) (hs : ∀ p ∈ r, p.length ≤ 1048576) (he : Env w) :
    Calls Tryd.prog 21 #[.agg #[.int .i64 k, .string (bs wd), v], rv] w fun e w' => e = .returned (actRes (readNums r t (k, 0, 0, 0))) ∧ Below w.heap.size w w' := by
  obtain ⟨Q, hQ⟩ : ∃ q, readNums r t (k, 0, 0, 0) = q := ⟨_, rfl⟩
  rw [hQ]
  have HQ := hide hQ
  obtain ⟨b, cap, rfl, hp⟩ := h
  obtain ⟨c, rcap, rfl, hq⟩ := hr
  have Hp := hide hp
  have Hq := hide hq
  have He := hide he
  have Ht := hide ht
  have Hs := hide hs
  clear hp hq he ht hs hQ
  go_enter Tryd.func21, Tryd.ntmps21
  go_upto_region 1 with fail
  have W1 : Hid (Below w.heap.size w ((w.alloc (.cells #[.int .i64 k, .string (bs wd), .slice b t.length cap] 43)).alloc (.cells #[.int .i64 0, .int .i64 0, .int .i64 0, .int .i64 0] 25))) := hide (((Below.refl _ _).alloc (Nat.le_refl _) _).alloc (by simp) _)
  have k1 : Hid (Blk ((w.alloc (.cells #[.int .i64 k, .string (bs wd), .slice b t.length cap] 43)).alloc (.cells #[.int .i64 0, .int .i64 0, .int .i64 0, .int .i64 0] 25)) w.heap.size 43 #[.int .i64 k, .string (bs wd), .slice b t.length cap]) := hide ((Blk.new w _ _).alloc _)
  have k2 : Hid (Blk ((w.alloc (.cells #[.int .i64 k, .string (bs wd), .slice b t.length cap] 43)).alloc (.cells #[.int .i64 0, .int .i64 0, .int .i64 0, .int .i64 0] 25)) (w.heap.size + 1) 25 #[.int .i64 0, .int .i64 0, .int .i64 0, .int .i64 0]) := hide (by
    have := Blk.new (w.alloc (.cells #[.int .i64 k, .string (bs wd), .slice b t.length cap] 43)) 25 #[.int .i64 0, .int .i64 0, .int .i64 0, .int .i64 0]
    rw [World.size_alloc] at this
    exact this)
  generalize (w.alloc (.cells #[.int .i64 k, .string (bs wd), .slice b t.length cap] 43)).alloc (.cells #[.int .i64 0, .int .i64 0, .int .i64 0, .int .i64 0] 25) = W at *
  have hzW := (unhide W1).size
  have x0 := (unhide k1).cell (i := 0) (v := .int .i64 k) rfl
  have x1 := (unhide k1).cell (i := 1) (v := .string (bs wd)) rfl
  have x2 := (unhide k1).cell (i := 2) (v := .slice b t.length cap) rfl
  by_cases hl : r.length = t.length
  · have n1 : ((r.length : Int) != (t.length : Int)) = false := by simp [hl]
    have n2 : decide ((r.length : Int) = (t.length : Int)) = true := by simp [hl]
    have Hl := hide hl
    clear hl
    go_upto_region 4 with fail
    have hba : Below W.heap.size W (W.alloc (.cells #[.int .i64 k, .int .i64 0, .int .i64 0, .int .i64 0] 25)) := (Below.refl _ _).alloc (Nat.le_refl _) _
    have k3 : Hid (Blk (W.alloc (.cells #[.int .i64 k, .int .i64 0, .int .i64 0, .int .i64 0] 25)) W.heap.size 25 #[.int .i64 k, .int .i64 0, .int .i64 0, .int .i64 0]) := hide (Blk.new W _ _)
    have hl2 : w.heap.size + 1 < W.heap.size := (unhide k2).lt
    replace k1 := bl k1 hba
    replace k2 := bl k2 hba
    replace W1 := hide ((unhide W1).trans (hba.mono hzW))
    clear hba x0 x1 x2 n1 n2
    generalize W.alloc (.cells #[.int .i64 k, .int .i64 0, .int .i64 0, .int .i64 0] 25) = W3 at *
    generalize W.heap.size = ab at *
    have x2 := (unhide k1).cell (i := 2) (v := .slice b t.length cap) rfl
    go_wp2_with fail
    clear x2
    go_loopw [24] (fun i wr => ∃ (j : Nat) (a : ActV), j ≤ t.length ∧ i = .int .i64 j ∧ readNums (r.drop j) (t.drop j) a = Q ∧ Hid (Blk wr ab 25 #[.int .i64 a.1, .int .i64 a.2.1, .int .i64 a.2.2.1, .int .i64 a.2.2.2]) ∧ Hid (Blk wr (w.heap.size + 1) 25 #[.int .i64 0, .int .i64 0, .int .i64 0, .int .i64 0]) ∧ Hid (Below w.heap.size w wr)) (fun i _ => t.length - (intOf i).toNat)
    case atStart => exact ⟨0, (k, 0, 0, 0), Nat.zero_le _, rfl, unhide HQ, k3, k2, W1⟩
    case round =>
      obtain ⟨j, a, hj, rfl, hr, k3, k2, W1⟩ := hrel
      have HR := hide hr
      clear hr HQ
      by_cases hlt : j < t.length
      · have hltr : j < r.length := by rw [unhide Hl]; exact hlt
        have hlt1 : (j : Int) < (t.length : Int) := by omega
        have hlt2 : (j : Int) < (r.length : Int) := by omega
        obtain ⟨g, rfl, hg, hc⟩ := unhide Hp j hlt
        obtain ⟨g2, of, rfl, hg2, hc2⟩ := unhide Hq j hltr
        have y1 := ((unhide W1).cell (p := ⟨g, j, none⟩) hg).trans hc
        have y2 := ((unhide W1).cell (p := ⟨g2, of + j, none⟩) hg2).trans hc2
        have hti := unhide Ht _ (show t.getD j 0 ∈ t by simp [List.getD, hlt])
        have hsl := unhide Hs (r.getD j []) (by simp [List.getD, hltr])
        have hstep := nums_step (a := a) hltr hlt
        rw [unhide HR] at hstep
        have HN := hide hstep
        have hE := (unhide He).below (unhide W1)
        clear hc hc2 hstep HR
        generalize t.getD j 0 = ti at *
        generalize r.getD j [] = lj at *
        have hcall := readNumber_any lj wr hE hsl
        cases hx : readN lj with
        | none =>
          rw [readV_none hx] at hcall
          have hQn : Q = none := by rw [unhide HN, hx]; rfl
          have HQn := hide hQn
          have HC := hide hcall
          clear hcall hQn hx
          go_wp2_with fail
          refine (unhide HC).mono ?_
          rintro e w2 ⟨rfl, hb⟩
          replace k2 := bl k2 hb
          replace W1 := hide ((unhide W1).trans (hb.mono (unhide W1).size))
          clear hb y1 y2 HC
          have z0 := (unhide k2).cell (i := 0) (v := .int .i64 0) rfl
          have z1 := (unhide k2).cell (i := 1) (v := .int .i64 0) rfl
          have z2 := (unhide k2).cell (i := 2) (v := .int .i64 0) rfl
          have z3 := (unhide k2).cell (i := 3) (v := .int .i64 0) rfl
          have f0 := (unhide k2).free 0
          have f1 := (unhide k2).free 1
          have f2 := (unhide k2).free 2
          have f3 := (unhide k2).free 3
          go_wp2_with fail
          refine bodyPost_ret (v := .tuple #[.agg #[.int .i64 0, .int .i64 0, .int .i64 0, .int .i64 0], .bool false]) (by simp [results, Tryd.results21, go_sem, *]) rfl ⟨by rw [unhide HQn]; rfl, ?_⟩
          iterate 4 (refine Below.setCell ?_ (by show _ ≤ w.heap.size + 1; omega) _)
          exact unhide W1
        | some n =>
          rw [readV_some hx] at hcall
          have hQs : readNums (r.drop (j + 1)) (t.drop (j + 1)) (putA a ti n) = Q := by rw [unhide HN, hx]; rfl
          have HQs := hide hQs
          have HC := hide hcall
          clear hcall hQs hx
          go_wp2_with fail
          refine (unhide HC).mono ?_
          rintro e w2 ⟨rfl, hb⟩
          replace k2 := bl k2 hb
          replace k3 := bl k3 hb
          replace W1 := hide ((unhide W1).trans (hb.mono (unhide W1).size))
          clear hb y1 y2 HC
          obtain ⟨a0, a1, a2, a3⟩ := a
          have HQt := HQs
          generalize hpa : putA (a0, a1, a2, a3) ti n = pa at *
          have Hpa := hide hpa
          clear hpa HQs
          have z0 := (unhide k3).cell (i := 0) (v := .int .i64 a0) rfl
          have z1 := (unhide k3).cell (i := 1) (v := .int .i64 a1) rfl
          have z2 := (unhide k3).cell (i := 2) (v := .int .i64 a2) rfl
          have z3 := (unhide k3).cell (i := 3) (v := .int .i64 a3) rfl
          go_wp2_with fail
          refine (withNumber_any (a0, a1, a2, a3) ti hti n w2).mono ?_
          rw [unhide Hpa]
          rintro e w3 ⟨rfl, hb⟩
          replace k2 := bl k2 hb
          replace k3 := bl k3 hb
          replace W1 := hide ((unhide W1).trans (hb.mono (unhide W1).size))
          clear hb z0 z1 z2 z3
          obtain ⟨b0, b1, b2, b3⟩ := pa
          have z0 := (unhide k3).cell (i := 0) (v := .int .i64 a0) rfl
          have z1 := (unhide k3).cell (i := 1) (v := .int .i64 a1) rfl
          have z2 := (unhide k3).cell (i := 2) (v := .int .i64 a2) rfl
          have z3 := (unhide k3).cell (i := 3) (v := .int .i64 a3) rfl
          have f0 := (unhide k3).free 0
          have f1 := (unhide k3).free 1
          have f2 := (unhide k3).free 2
          have f3 := (unhide k3).free 3
          have hk4 := ((((unhide k3).set 0 (.int .i64 b0)).set 1 (.int .i64 b1)).set 2 (.int .i64 b2)).set 3 (.int .i64 b3)
          have hk2 := ((((unhide k2).other (a := ⟨ab, 0, none⟩) (show w.heap.size + 1 ≠ ab by omega) (.int .i64 b0)).other (a := ⟨ab, 1, none⟩) (show w.heap.size + 1 ≠ ab by omega) (.int .i64 b1)).other (a := ⟨ab, 2, none⟩) (show w.heap.size + 1 ≠ ab by omega) (.int .i64 b2)).other (a := ⟨ab, 3, none⟩) (show w.heap.size + 1 ≠ ab by omega) (.int .i64 b3)
          have hwb : Below w.heap.size w ((((w3.setCell ⟨ab, 0, none⟩ (.int .i64 b0)).setCell ⟨ab, 1, none⟩ (.int .i64 b1)).setCell ⟨ab, 2, none⟩ (.int .i64 b2)).setCell ⟨ab, 3, none⟩ (.int .i64 b3)) := by
            iterate 4 (refine Below.setCell ?_ (by show _ ≤ ab; omega) _)
            exact unhide W1
          have HK4 := hide hk4
          have HK2 := hide hk2
          have HWb := hide hwb
          clear hk4 hk2 hwb k2 k3 W1
          go_wp2_with fail
          go_roundw
          case rel => exact ⟨j + 1, (b0, b1, b2, b3), by omega, by go_num, unhide HQt, HK4, HK2, HWb⟩
          case measure => simp [intOf]; omega
      · obtain rfl : j = t.length := by omega
        have hQs : Q = some a := by
          rw [← unhide HR, List.drop_length, ← unhide Hl, List.drop_length]; rfl
        have HQs := hide hQs
        clear hQs HR
        obtain ⟨a0, a1, a2, a3⟩ := a
        have z0 := (unhide k3).cell (i := 0) (v := .int .i64 a0) rfl
        have z1 := (unhide k3).cell (i := 1) (v := .int .i64 a1) rfl
        have z2 := (unhide k3).cell (i := 2) (v := .int .i64 a2) rfl
        have z3 := (unhide k3).cell (i := 3) (v := .int .i64 a3) rfl
        have y0 := (unhide k2).cell (i := 0) (v := .int .i64 0) rfl
        have y1 := (unhide k2).cell (i := 1) (v := .int .i64 0) rfl
        have y2 := (unhide k2).cell (i := 2) (v := .int .i64 0) rfl
        have y3 := (unhide k2).cell (i := 3) (v := .int .i64 0) rfl
        have f0 := (unhide k2).free 0
        have f1 := (unhide k2).free 1
        have f2 := (unhide k2).free 2
        have f3 := (unhide k2).free 3
        go_wp2_with fail
        refine bodyPost_ret (v := .tuple #[.agg #[.int .i64 a0, .int .i64 a1, .int .i64 a2, .int .i64 a3], .bool true]) (by simp [results, Tryd.results21, go_sem, *]) rfl ⟨by rw [unhide HQs]; rfl, ?_⟩
        iterate 4 (refine Below.setCell ?_ (by show _ ≤ w.heap.size + 1; omega) _)
        exact unhide W1
  · have hn : Q = none := by rw [← unhide HQ]; exact nums_differ hl
    subst hn
    have n1 : ((r.length : Int) != (t.length : Int)) = true := by rw [bne_iff_ne]; omega
    have n2 : decide ((r.length : Int) = (t.length : Int)) = false := decide_eq_false (by omega)
    have z0 := (unhide k2).cell (i := 0) (v := .int .i64 0) rfl
    have z1 := (unhide k2).cell (i := 1) (v := .int .i64 0) rfl
    have z2 := (unhide k2).cell (i := 2) (v := .int .i64 0) rfl
    have z3 := (unhide k2).cell (i := 3) (v := .int .i64 0) rfl
    have f0 := (unhide k2).free 0
    have f1 := (unhide k2).free 1
    have f2 := (unhide k2).free 2
    have f3 := (unhide k2).free 3
    clear hl
    go_wp2_with fail
    refine bodyPost_ret (v := .tuple #[.agg #[.int .i64 0, .int .i64 0, .int .i64 0, .int .i64 0], .bool false]) (by simp [results, Tryd.results21, go_sem, *]) rfl ⟨rfl, ?_⟩
    iterate 4 (refine Below.setCell ?_ (by show _ ≤ w.heap.size + 1; omega) _)
    exact unhide W1

end Go.Proofs.YtmdgokjeobnnaaaDoor
