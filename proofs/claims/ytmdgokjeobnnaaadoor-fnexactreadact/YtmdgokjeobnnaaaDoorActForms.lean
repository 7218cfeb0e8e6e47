/- Contracts of the program's formsOfActs, numberOf and withNumber, and of the model's lists of words. Conditions: those that each theorem names. -/
import Derived.Test.YtmdgokjeobnnaaaDoorActText
import Derived.Test.YtmdgokjeobnnaaaDoorTxtSpec
import Derived.Test.YtmdgokjeobnnaaaDoorOwnKit
import Derived.Test.YtmdgokjeobnnaaaDoorBoxKit
namespace Go.Proofs.YtmdgokjeobnnaaaDoor
open Go.ChangeShapes Go.WideShapes Go.ChangeAt Go.RowKit Go.Sort
set_option linter.unusedVariables false
set_option linter.unusedSimpArgs false
set_option maxRecDepth 100000

/-- A list of which numbers are told lies there. -/
def PartsAt (w : World) (v : Value) (t : List Nat) : Prop := ∃ a cap, v = .slice a t.length cap ∧ ∀ i, i < t.length → ∃ b, a = some ⟨b, 0, none⟩ ∧ b < w.heap.size ∧ w.cell? ⟨b, i, none⟩ = some (.int .i64 ((t.getD i 0 : Nat) : Int))
theorem PartsAt.below {w w' : World} {v : Value} {t : List Nat} (h : PartsAt w v t) (hb : Below w.heap.size w w') : PartsAt w' v t := by
  obtain ⟨a, cap, rfl, h⟩ := h
  refine ⟨a, cap, rfl, fun i hi => ?_⟩
  obtain ⟨b, e, hl, hc⟩ := h i hi
  exact ⟨b, e, Nat.lt_of_lt_of_le hl hb.size, (hb.cell (p := ⟨b, i, none⟩) hl).trans hc⟩
/-- The forms lie there. -/
structure FormsAt (w : World) (g : Nat) : Prop where
  lt : g < w.heap.size
  kind : ∀ j, j < 14 → w.cell? ⟨g, j * 3, none⟩ = some (.int .i64 ((j : Int) + 1))
  word : ∀ j, j < 14 → w.cell? ⟨g, j * 3 + 1, none⟩ = some (.string (bs (wordsL.getD j [])))
  part : ∀ j, j < 14 → ∃ v, w.cell? ⟨g, j * 3 + 2, none⟩ = some v ∧ PartsAt w v (tellsL.getD j [])
theorem FormsAt.below {w w' : World} {g : Nat} (h : FormsAt w g) (hb : Below w.heap.size w w') : FormsAt w' g :=
  ⟨Nat.lt_of_lt_of_le h.lt hb.size, fun j hj => (hb.cell (p := ⟨g, j * 3, none⟩) h.lt).trans (h.kind j hj), fun j hj => (hb.cell (p := ⟨g, j * 3 + 1, none⟩) h.lt).trans (h.word j hj), fun j hj => by
    obtain ⟨v, h1, h2⟩ := h.part j hj
    exact ⟨v, (hb.cell (p := ⟨g, j * 3 + 2, none⟩) h.lt).trans h1, h2.below hb⟩⟩
theorem parts_nil {w : World} {a : Option Addr} {cap : Nat} : PartsAt w (.slice a 0 cap) [] := ⟨a, cap, rfl, fun i hi => by simp at hi⟩
theorem parts_1 {w : World} {b cap x : Nat} (hl : b < w.heap.size) (h0 : w.cell? ⟨b, 0, none⟩ = some (.int .i64 (x : Int))) : PartsAt w (.slice (some ⟨b, 0, none⟩) 1 cap) [x] := by
  refine ⟨_, cap, rfl, fun i hi => ⟨b, rfl, hl, ?_⟩⟩
  have : i = 0 := by simp at hi; omega
  subst this
  exact h0
theorem parts_2 {w : World} {b cap x y : Nat} (hl : b < w.heap.size) (h0 : w.cell? ⟨b, 0, none⟩ = some (.int .i64 (x : Int))) (h1 : w.cell? ⟨b, 1, none⟩ = some (.int .i64 (y : Int))) : PartsAt w (.slice (some ⟨b, 0, none⟩) 2 cap) [x, y] := by
  refine ⟨_, cap, rfl, fun i hi => ⟨b, rfl, hl, ?_⟩⟩
  simp only [List.length_cons, List.length_nil] at hi
  rcases (show i = 0 ∨ i = 1 by omega) with rfl | rfl
  · exact h0
  · exact h1
theorem parts_3 {w : World} {b cap x y z : Nat} (hl : b < w.heap.size) (h0 : w.cell? ⟨b, 0, none⟩ = some (.int .i64 (x : Int))) (h1 : w.cell? ⟨b, 1, none⟩ = some (.int .i64 (y : Int))) (h2 : w.cell? ⟨b, 2, none⟩ = some (.int .i64 (z : Int))) : PartsAt w (.slice (some ⟨b, 0, none⟩) 3 cap) [x, y, z] := by
  refine ⟨_, cap, rfl, fun i hi => ⟨b, rfl, hl, ?_⟩⟩
  simp only [List.length_cons, List.length_nil] at hi
  rcases (show i = 0 ∨ i = 1 ∨ i = 2 by omega) with rfl | rfl | rfl
  · exact h0
  · exact h1
  · exact h2
theorem below14 {P : Nat → Prop} (h0 : P 0) (h1 : P 1) (h2 : P 2) (h3 : P 3) (h4 : P 4) (h5 : P 5) (h6 : P 6) (h7 : P 7) (h8 : P 8) (h9 : P 9) (h10 : P 10) (h11 : P 11) (h12 : P 12) (h13 : P 13) : ∀ j, j < 14 → P j := by
  intro j hj
  rcases (show j = 0 ∨ j = 1 ∨ j = 2 ∨ j = 3 ∨ j = 4 ∨ j = 5 ∨ j = 6 ∨ j = 7 ∨ j = 8 ∨ j = 9 ∨ j = 10 ∨ j = 11 ∨ j = 12 ∨ j = 13 by omega) with rfl | rfl | rfl | rfl | rfl | rfl | rfl | rfl | rfl | rfl | rfl | rfl | rfl | rfl <;> assumption
theorem new_block (w : World) (t : TypeId) (cs : Array Value) : ∃ W, w.alloc (.cells cs t) = W ∧ Blk W w.heap.size t cs ∧ W.heap.size = w.heap.size + 1 ∧ ∀ {R : Nat} {t2 : TypeId} {c2 : Array Value}, Blk w R t2 c2 → Blk W R t2 c2 := ⟨_, rfl, Blk.new _ _ _, by simp, fun h => h.alloc _⟩
set_option maxHeartbeats 8000000 in
theorem forms_any (w : World) : Calls Tryd.prog 15 #[] w fun e w' => ∃ g, e = .returned (.slice (some ⟨g, 0, none⟩) 14 14) ∧ FormsAt w' g ∧ Below w.heap.size w w' := by
  go_enter Tryd.func15, Tryd.ntmps15
  go_wp2_with fail
  go_ret
  have B0 : Below w.heap.size w w := Below.refl _ _
  have s0 : w.heap.size = w.heap.size := rfl
  obtain ⟨W1, e1, b1, s1, f1⟩ := new_block w 52 #[.int .i64 1, .int .i64 2]
  rw [e1]
  have B1 : Below w.heap.size w W1 := by rw [← e1]; exact B0.alloc B0.size _
  clear e1 B0
  obtain ⟨W2, e2, b2, s2, f2⟩ := new_block W1 52 #[.int .i64 0]
  rw [e2]
  have B2 : Below w.heap.size w W2 := by rw [← e2]; exact B1.alloc B1.size _
  clear e2 B1
  obtain ⟨W3, e3, b3, s3, f3⟩ := new_block W2 52 #[.int .i64 0]
  rw [e3]
  have B3 : Below w.heap.size w W3 := by rw [← e3]; exact B2.alloc B2.size _
  clear e3 B2
  obtain ⟨W4, e4, b4, s4, f4⟩ := new_block W3 52 #[.int .i64 0]
  rw [e4]
  have B4 : Below w.heap.size w W4 := by rw [← e4]; exact B3.alloc B3.size _
  clear e4 B3
  obtain ⟨W5, e5, b5, s5, f5⟩ := new_block W4 52 #[.int .i64 0, .int .i64 1]
  rw [e5]
  have B5 : Below w.heap.size w W5 := by rw [← e5]; exact B4.alloc B4.size _
  clear e5 B4
  obtain ⟨W6, e6, b6, s6, f6⟩ := new_block W5 52 #[.int .i64 0, .int .i64 1]
  rw [e6]
  have B6 : Below w.heap.size w W6 := by rw [← e6]; exact B5.alloc B5.size _
  clear e6 B5
  obtain ⟨W7, e7, b7, s7, f7⟩ := new_block W6 52 #[.int .i64 0, .int .i64 1, .int .i64 2]
  rw [e7]
  have B7 : Below w.heap.size w W7 := by rw [← e7]; exact B6.alloc B6.size _
  clear e7 B6
  obtain ⟨W8, e8, b8, s8, f8⟩ := new_block W7 52 #[.int .i64 1]
  rw [e8]
  have B8 : Below w.heap.size w W8 := by rw [← e8]; exact B7.alloc B7.size _
  clear e8 B7
  obtain ⟨W9, e9, b9, s9, f9⟩ := new_block W8 52 #[.int .i64 1]
  rw [e9]
  have B9 : Below w.heap.size w W9 := by rw [← e9]; exact B8.alloc B8.size _
  clear e9 B8
  obtain ⟨W10, e10, b10, s10, f10⟩ := new_block W9 52 #[.int .i64 1]
  rw [e10]
  have B10 : Below w.heap.size w W10 := by rw [← e10]; exact B9.alloc B9.size _
  clear e10 B9
  obtain ⟨W11, e11, b11, s11, f11⟩ := new_block W10 52 #[.int .i64 1, .int .i64 2]
  rw [e11]
  have B11 : Below w.heap.size w W11 := by rw [← e11]; exact B10.alloc B10.size _
  clear e11 B10
  obtain ⟨W12, e12, b12, s12, f12⟩ := new_block W11 52 #[.int .i64 0, .int .i64 1]
  rw [e12]
  have B12 : Below w.heap.size w W12 := by rw [← e12]; exact B11.alloc B11.size _
  clear e12 B11
  obtain ⟨W, e, b, s, f⟩ := new_block W12 43 #[.int .i64 1, .string ⟨#[99, 111, 109, 101]⟩, .slice (some ⟨w.heap.size, 0, none⟩) 2 2, .int .i64 2, .string ⟨#[114, 101, 115, 116]⟩, .slice (some ⟨w.heap.size + 1, 0, none⟩) 1 1, .int .i64 3, .string ⟨#[119, 97, 107, 101]⟩, .slice (some ⟨w.heap.size + 1 + 1, 0, none⟩) 1 1, .int .i64 4, .string ⟨#[108, 101, 97, 118, 101]⟩, .slice (some ⟨w.heap.size + 1 + 1 + 1, 0, none⟩) 1 1, .int .i64 5, .string ⟨#[114, 97, 110, 107]⟩, .slice (some ⟨w.heap.size + 1 + 1 + 1 + 1, 0, none⟩) 2 2, .int .i64 6, .string ⟨#[97, 108, 108, 111, 119]⟩, .slice (some ⟨w.heap.size + 1 + 1 + 1 + 1 + 1, 0, none⟩) 2 2, .int .i64 7, .string ⟨#[108, 105, 109, 105, 116]⟩, .slice (some ⟨w.heap.size + 1 + 1 + 1 + 1 + 1 + 1, 0, none⟩) 3 3, .int .i64 8, .string ⟨#[99, 108, 111, 115, 101]⟩, .slice (some ⟨w.heap.size + 1 + 1 + 1 + 1 + 1 + 1 + 1, 0, none⟩) 1 1, .int .i64 9, .string ⟨#[111, 112, 101, 110]⟩, .slice (some ⟨w.heap.size + 1 + 1 + 1 + 1 + 1 + 1 + 1 + 1, 0, none⟩) 1 1, .int .i64 10, .string ⟨#[116, 105, 99, 107]⟩, .slice (some ⟨w.heap.size + 1 + 1 + 1 + 1 + 1 + 1 + 1 + 1 + 1, 0, none⟩) 1 1, .int .i64 11, .string ⟨#[103, 114, 97, 110, 116]⟩, .slice (some ⟨w.heap.size + 1 + 1 + 1 + 1 + 1 + 1 + 1 + 1 + 1 + 1, 0, none⟩) 2 2, .int .i64 12, .string ⟨#[97, 115, 107]⟩, .slice none 0 0, .int .i64 13, .string ⟨#[108, 101, 118, 101, 108]⟩, .slice none 0 0, .int .i64 14, .string ⟨#[106, 111, 105, 110]⟩, .slice (some ⟨w.heap.size + 1 + 1 + 1 + 1 + 1 + 1 + 1 + 1 + 1 + 1 + 1, 0, none⟩) 2 2]
  rw [e]
  have B : Below w.heap.size w W := by rw [← e]; exact B12.alloc B12.size _
  clear e
  have k1 := f (f12 (f11 (f10 (f9 (f8 (f7 (f6 (f5 (f4 (f3 (f2 (b1))))))))))))
  have k2 := f (f12 (f11 (f10 (f9 (f8 (f7 (f6 (f5 (f4 (f3 (b2)))))))))))
  have k3 := f (f12 (f11 (f10 (f9 (f8 (f7 (f6 (f5 (f4 (b3))))))))))
  have k4 := f (f12 (f11 (f10 (f9 (f8 (f7 (f6 (f5 (b4)))))))))
  have k5 := f (f12 (f11 (f10 (f9 (f8 (f7 (f6 (b5))))))))
  have k6 := f (f12 (f11 (f10 (f9 (f8 (f7 (b6)))))))
  have k7 := f (f12 (f11 (f10 (f9 (f8 (b7))))))
  have k8 := f (f12 (f11 (f10 (f9 (b8)))))
  have k9 := f (f12 (f11 (f10 (b9))))
  have k10 := f (f12 (f11 (b10)))
  have k11 := f (f12 (b11))
  have k12 := f (b12)
  rw [s12, s11, s10, s9, s8, s7, s6, s5, s4, s3, s2, s1] at b
  rw [s1] at k2
  rw [s2, s1] at k3
  rw [s3, s2, s1] at k4
  rw [s4, s3, s2, s1] at k5
  rw [s5, s4, s3, s2, s1] at k6
  rw [s6, s5, s4, s3, s2, s1] at k7
  rw [s7, s6, s5, s4, s3, s2, s1] at k8
  rw [s8, s7, s6, s5, s4, s3, s2, s1] at k9
  rw [s9, s8, s7, s6, s5, s4, s3, s2, s1] at k10
  rw [s10, s9, s8, s7, s6, s5, s4, s3, s2, s1] at k11
  rw [s11, s10, s9, s8, s7, s6, s5, s4, s3, s2, s1] at k12
  exact ⟨_, rfl, ⟨b.lt, below14 (b.cell (i := 0) rfl) (b.cell (i := 3) rfl) (b.cell (i := 6) rfl) (b.cell (i := 9) rfl) (b.cell (i := 12) rfl) (b.cell (i := 15) rfl) (b.cell (i := 18) rfl) (b.cell (i := 21) rfl) (b.cell (i := 24) rfl) (b.cell (i := 27) rfl) (b.cell (i := 30) rfl) (b.cell (i := 33) rfl) (b.cell (i := 36) rfl) (b.cell (i := 39) rfl), below14 (b.cell (i := 1) rfl) (b.cell (i := 4) rfl) (b.cell (i := 7) rfl) (b.cell (i := 10) rfl) (b.cell (i := 13) rfl) (b.cell (i := 16) rfl) (b.cell (i := 19) rfl) (b.cell (i := 22) rfl) (b.cell (i := 25) rfl) (b.cell (i := 28) rfl) (b.cell (i := 31) rfl) (b.cell (i := 34) rfl) (b.cell (i := 37) rfl) (b.cell (i := 40) rfl), below14 (⟨_, b.cell (i := 2) rfl, parts_2 k1.lt (k1.cell (i := 0) rfl) (k1.cell (i := 1) rfl)⟩) (⟨_, b.cell (i := 5) rfl, parts_1 k2.lt (k2.cell (i := 0) rfl)⟩) (⟨_, b.cell (i := 8) rfl, parts_1 k3.lt (k3.cell (i := 0) rfl)⟩) (⟨_, b.cell (i := 11) rfl, parts_1 k4.lt (k4.cell (i := 0) rfl)⟩) (⟨_, b.cell (i := 14) rfl, parts_2 k5.lt (k5.cell (i := 0) rfl) (k5.cell (i := 1) rfl)⟩) (⟨_, b.cell (i := 17) rfl, parts_2 k6.lt (k6.cell (i := 0) rfl) (k6.cell (i := 1) rfl)⟩) (⟨_, b.cell (i := 20) rfl, parts_3 k7.lt (k7.cell (i := 0) rfl) (k7.cell (i := 1) rfl) (k7.cell (i := 2) rfl)⟩) (⟨_, b.cell (i := 23) rfl, parts_1 k8.lt (k8.cell (i := 0) rfl)⟩) (⟨_, b.cell (i := 26) rfl, parts_1 k9.lt (k9.cell (i := 0) rfl)⟩) (⟨_, b.cell (i := 29) rfl, parts_1 k10.lt (k10.cell (i := 0) rfl)⟩) (⟨_, b.cell (i := 32) rfl, parts_2 k11.lt (k11.cell (i := 0) rfl) (k11.cell (i := 1) rfl)⟩) (⟨_, b.cell (i := 35) rfl, parts_nil⟩) (⟨_, b.cell (i := 38) rfl, parts_nil⟩) (⟨_, b.cell (i := 41) rfl, parts_2 k12.lt (k12.cell (i := 0) rfl) (k12.cell (i := 1) rfl)⟩)⟩, B⟩
theorem numberOf_any (a : ActV) (i : Nat) (hi : i ≤ 2) (w : World) : Calls Tryd.prog 23 #[.agg #[.int .i64 a.1, .int .i64 a.2.1, .int .i64 a.2.2.1, .int .i64 a.2.2.2], .int .i64 (i : Int)] w fun e w' => e = .returned (.int .i64 (numA a i)) ∧ Below w.heap.size w w' := by
  obtain ⟨a0, a1, a2, a3⟩ := a
  rcases (show i = 0 ∨ i = 1 ∨ i = 2 by omega) with rfl | rfl | rfl
  all_goals
    go_enter Tryd.func23, Tryd.ntmps23
    go_wp2_with fail
    go_ret
    exact ⟨rfl, (Below.refl _ _).alloc (Nat.le_refl _) _⟩
theorem withNumber_any (a : ActV) (i : Nat) (hi : i ≤ 2) (n : Int) (w : World) : Calls Tryd.prog 27 #[.agg #[.int .i64 a.1, .int .i64 a.2.1, .int .i64 a.2.2.1, .int .i64 a.2.2.2], .int .i64 (i : Int), .int .i64 n] w fun e w' => e = .returned (.agg #[.int .i64 (putA a i n).1, .int .i64 (putA a i n).2.1, .int .i64 (putA a i n).2.2.1, .int .i64 (putA a i n).2.2.2]) ∧ Below w.heap.size w w' := by
  obtain ⟨a0, a1, a2, a3⟩ := a
  have hb : ∀ o1 o2, Below w.heap.size w ((w.alloc o1).alloc o2) := fun o1 o2 => ((Below.refl _ _).alloc (Nat.le_refl _) _).alloc (by simp) _
  rcases (show i = 0 ∨ i = 1 ∨ i = 2 by omega) with rfl | rfl | rfl
  all_goals
    go_enter Tryd.func27, Tryd.ntmps27
    go_wp2_with fail
    refine bodyPost_ret (v := .agg #[_, _, _, _]) (by simp [results, Tryd.results27, go_sem, *]; exact ⟨rfl, rfl, rfl, rfl⟩) rfl ⟨rfl, hb _ _⟩

end Go.Proofs.YtmdgokjeobnnaaaDoor
