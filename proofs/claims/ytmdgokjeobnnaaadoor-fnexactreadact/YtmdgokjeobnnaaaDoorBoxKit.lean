/- A block of cells that a variable lies in: what it holds, that it stays, and what it holds when one cell is written. No condition but those that a theorem names. -/
import Derived.Test.YtmdgokjeobnnaaaDoorOwnKit
namespace Go.Proofs.YtmdgokjeobnnaaaDoor
open Go.ChangeShapes Go.WideShapes Go.ChangeAt Go.RowKit Go.Sort
set_option linter.unusedVariables false

/-- Block R is a variable's own: its cells are cs. -/
abbrev E11 : Array Value := #[.int .i64 0, .int .i64 0, .int .i64 0, .int .i64 0, .int .i64 0, .int .i64 0, .int .i64 0, .int .i64 0, .int .i64 0, .int .i64 0, .int .i64 0]
abbrev I11 (a b c d e f g h i j k : Int) : Array Value := #[.int .i64 a, .int .i64 b, .int .i64 c, .int .i64 d, .int .i64 e, .int .i64 f, .int .i64 g, .int .i64 h, .int .i64 i, .int .i64 j, .int .i64 k]
def Blk (w : World) (R : Nat) (t : TypeId) (cs : Array Value) : Prop := w.heap[R]? = some (.cells cs t (0, 0))
section
variable {w w' : World} {R B : Nat} {t : TypeId} {cs : Array Value}
theorem Blk.lt (h : Blk w R t cs) : R < w.heap.size := (Array.getElem?_eq_some_iff.1 h).1
theorem Blk.cell (h : Blk w R t cs) {i : Nat} {v : Value} (hi : cs[i]? = some v) : w.cell? ⟨R, i, none⟩ = some v := by simp [World.cell?, show w.heap[R]? = _ from h, hi]
theorem Blk.free (h : Blk w R t cs) (i : Nat) : w.frozen? ⟨R, i, none⟩ = false := frozen_of_row w R i cs t h
theorem Blk.new (w : World) (t : TypeId) (cs : Array Value) : Blk (w.alloc (.cells cs t)) w.heap.size t cs := by show (w.heap.push _)[w.heap.size]? = _; simp
theorem Blk.same (h : Blk w R t cs) (hs : w'.heap[R]? = w.heap[R]?) : Blk w' R t cs := hs.trans h
theorem Blk.below (h : Blk w R t cs) (hb : Below B w w') (hR : R < B) : Blk w' R t cs := h.same (hb.block R hR)
theorem Blk.alloc (h : Blk w R t cs) (o : Obj) : Blk (w.alloc o) R t cs := h.below ((Below.refl w.heap.size w).alloc (Nat.le_refl _) o) h.lt
theorem Blk.set (h : Blk w R t cs) (i : Nat) (v : Value) : Blk (w.setCell ⟨R, i, none⟩ v) R t (cs.setIfInBounds i v) := heap_setCell_same w R i cs t v h
theorem Blk.other (h : Blk w R t cs) {a : Addr} (ha : R ≠ a.block) (v : Value) : Blk (w.setCell a v) R t cs := h.same (heap_setCell_other w a R v ha)
theorem Blk.drewN (h : Blk w R t cs) (n : Nat) : Blk (w.drewN n) R t cs := h
end
theorem cell_new (w : World) {t : TypeId} {cs : Array Value} {i : Nat} {v : Value} (hi : cs[i]? = some v) : (w.alloc (.cells cs t)).cell? ⟨w.heap.size, i, none⟩ = some v := (Blk.new w t cs).cell hi

theorem Blk.c2 {w : World} {R : Nat} {t : TypeId} {v0 v1 : Value} (h : Blk w R t #[v0, v1]) : w.cell? ⟨R, 0, none⟩ = some v0 ∧ w.cell? ⟨R, 1, none⟩ = some v1 := ⟨h.cell rfl, h.cell rfl⟩
theorem Blk.c3 {w : World} {R : Nat} {t : TypeId} {v0 v1 v2 : Value} (h : Blk w R t #[v0, v1, v2]) : w.cell? ⟨R, 0, none⟩ = some v0 ∧ w.cell? ⟨R, 1, none⟩ = some v1 ∧ w.cell? ⟨R, 2, none⟩ = some v2 := ⟨h.cell rfl, h.cell rfl, h.cell rfl⟩
theorem Blk.c4 {w : World} {R : Nat} {t : TypeId} {v0 v1 v2 v3 : Value} (h : Blk w R t #[v0, v1, v2, v3]) : w.cell? ⟨R, 0, none⟩ = some v0 ∧ w.cell? ⟨R, 1, none⟩ = some v1 ∧ w.cell? ⟨R, 2, none⟩ = some v2 ∧ w.cell? ⟨R, 3, none⟩ = some v3 := ⟨h.cell rfl, h.cell rfl, h.cell rfl, h.cell rfl⟩
theorem Blk.c6 {w : World} {R : Nat} {t : TypeId} {v0 v1 v2 v3 v4 v5 : Value} (h : Blk w R t #[v0, v1, v2, v3, v4, v5]) : w.cell? ⟨R, 0, none⟩ = some v0 ∧ w.cell? ⟨R, 1, none⟩ = some v1 ∧ w.cell? ⟨R, 2, none⟩ = some v2 ∧ w.cell? ⟨R, 3, none⟩ = some v3 ∧ w.cell? ⟨R, 4, none⟩ = some v4 ∧ w.cell? ⟨R, 5, none⟩ = some v5 := ⟨h.cell rfl, h.cell rfl, h.cell rfl, h.cell rfl, h.cell rfl, h.cell rfl⟩
theorem Blk.c11 {w : World} {R : Nat} {t : TypeId} {v0 v1 v2 v3 v4 v5 v6 v7 v8 v9 v10 : Value} (h : Blk w R t #[v0, v1, v2, v3, v4, v5, v6, v7, v8, v9, v10]) : w.cell? ⟨R, 0, none⟩ = some v0 ∧ w.cell? ⟨R, 1, none⟩ = some v1 ∧ w.cell? ⟨R, 2, none⟩ = some v2 ∧ w.cell? ⟨R, 3, none⟩ = some v3 ∧ w.cell? ⟨R, 4, none⟩ = some v4 ∧ w.cell? ⟨R, 5, none⟩ = some v5 ∧ w.cell? ⟨R, 6, none⟩ = some v6 ∧ w.cell? ⟨R, 7, none⟩ = some v7 ∧ w.cell? ⟨R, 8, none⟩ = some v8 ∧ w.cell? ⟨R, 9, none⟩ = some v9 ∧ w.cell? ⟨R, 10, none⟩ = some v10 := ⟨h.cell rfl, h.cell rfl, h.cell rfl, h.cell rfl, h.cell rfl, h.cell rfl, h.cell rfl, h.cell rfl, h.cell rfl, h.cell rfl, h.cell rfl⟩
theorem bl {w w' : World} {R : Nat} {t : TypeId} {cs : Array Value} (h : Hid (Blk w R t cs)) (hb : Below w.heap.size w w') : Hid (Blk w' R t cs) := hide ((unhide h).below hb (unhide h).lt)
theorem bt {w a b : World} (h : Hid (Below w.heap.size w a)) (hb : Below a.heap.size a b) : Hid (Below w.heap.size w b) := hide ((unhide h).trans (hb.mono (unhide h).size))
theorem Blk.f3 {w : World} {R : Nat} {t : TypeId} {cs : Array Value} (h : Blk w R t cs) : w.frozen? ⟨R, 0, none⟩ = false ∧ w.frozen? ⟨R, 1, none⟩ = false ∧ w.frozen? ⟨R, 2, none⟩ = false := ⟨h.free 0, h.free 1, h.free 2⟩
theorem Blk.f4 {w : World} {R : Nat} {t : TypeId} {cs : Array Value} (h : Blk w R t cs) : w.frozen? ⟨R, 0, none⟩ = false ∧ w.frozen? ⟨R, 1, none⟩ = false ∧ w.frozen? ⟨R, 2, none⟩ = false ∧ w.frozen? ⟨R, 3, none⟩ = false := ⟨h.free 0, h.free 1, h.free 2, h.free 3⟩
theorem Blk.f6 {w : World} {R : Nat} {t : TypeId} {cs : Array Value} (h : Blk w R t cs) : w.frozen? ⟨R, 0, none⟩ = false ∧ w.frozen? ⟨R, 1, none⟩ = false ∧ w.frozen? ⟨R, 2, none⟩ = false ∧ w.frozen? ⟨R, 3, none⟩ = false ∧ w.frozen? ⟨R, 4, none⟩ = false ∧ w.frozen? ⟨R, 5, none⟩ = false := ⟨h.free 0, h.free 1, h.free 2, h.free 3, h.free 4, h.free 5⟩
theorem Blk.f11 {w : World} {R : Nat} {t : TypeId} {cs : Array Value} (h : Blk w R t cs) : w.frozen? ⟨R, 0, none⟩ = false ∧ w.frozen? ⟨R, 1, none⟩ = false ∧ w.frozen? ⟨R, 2, none⟩ = false ∧ w.frozen? ⟨R, 3, none⟩ = false ∧ w.frozen? ⟨R, 4, none⟩ = false ∧ w.frozen? ⟨R, 5, none⟩ = false ∧ w.frozen? ⟨R, 6, none⟩ = false ∧ w.frozen? ⟨R, 7, none⟩ = false ∧ w.frozen? ⟨R, 8, none⟩ = false ∧ w.frozen? ⟨R, 9, none⟩ = false ∧ w.frozen? ⟨R, 10, none⟩ = false := ⟨h.free 0, h.free 1, h.free 2, h.free 3, h.free 4, h.free 5, h.free 6, h.free 7, h.free 8, h.free 9, h.free 10⟩
theorem two_boxes (w : World) (t : TypeId) (cs : Array Value) (u : TypeId) (ds : Array Value) : ∃ W, (w.alloc (.cells cs t)).alloc (.cells ds u) = W ∧ Hid (Blk W w.heap.size t cs) ∧ Hid (Blk W (w.heap.size + 1) u ds) ∧ Hid (Below w.heap.size w W) := by
  refine ⟨_, rfl, hide ((Blk.new w _ _).alloc _), hide ?_, hide (((Below.refl _ _).alloc (Nat.le_refl _) _).alloc (by simp) _)⟩
  have k := Blk.new (w.alloc (.cells cs t)) u ds
  rw [World.size_alloc] at k
  exact k
theorem three_boxes (w : World) (t : TypeId) (cs : Array Value) (u : TypeId) (ds : Array Value) (v : TypeId) (es : Array Value) : ∃ W, ((w.alloc (.cells cs t)).alloc (.cells ds u)).alloc (.cells es v) = W ∧ Hid (Blk W w.heap.size t cs) ∧ Hid (Blk W (w.heap.size + 1) u ds) ∧ Hid (Blk W (w.heap.size + 1 + 1) v es) ∧ Hid (Below w.heap.size w W) := by
  refine ⟨_, rfl, hide (((Blk.new w _ _).alloc _).alloc _), hide ?_, hide ?_, hide ((((Below.refl _ _).alloc (Nat.le_refl _) _).alloc (by simp) _).alloc (by simp; omega) _)⟩
  · have k := (Blk.new (w.alloc (.cells cs t)) u ds).alloc (.cells es v)
    rw [World.size_alloc] at k
    exact k
  · have k := Blk.new ((w.alloc (.cells cs t)).alloc (.cells ds u)) v es
    rw [World.size_alloc, World.size_alloc] at k
    exact k
theorem one_boxH (w : World) (t : TypeId) (cs : Array Value) : ∃ W, w.alloc (.cells cs t) = W ∧ Hid (Below w.heap.size w W) ∧ Hid (Blk W w.heap.size t cs) := ⟨_, rfl, hide ((Below.refl _ _).alloc (Nat.le_refl _) _), hide (Blk.new _ _ _)⟩
theorem one_box0 (w : World) (t : TypeId) (cs : Array Value) : Hid (Below w.heap.size w (w.alloc (.cells cs t))) ∧ Hid (Blk (w.alloc (.cells cs t)) w.heap.size t cs) := ⟨hide ((Below.refl _ _).alloc (Nat.le_refl _) _), hide (Blk.new _ _ _)⟩
theorem one_box (w : World) (t : TypeId) (cs : Array Value) : ∃ W, w.alloc (.cells cs t) = W ∧ Below w.heap.size w W ∧ Hid (Blk W w.heap.size t cs) := ⟨_, rfl, (Below.refl _ _).alloc (Nat.le_refl _) _, hide (Blk.new _ _ _)⟩
/-- All eleven cells are written. -/
theorem Blk.fill11 {w₀ w : World} {B R : Nat} {t : TypeId} {u0 u1 u2 u3 u4 u5 u6 u7 u8 u9 u10 : Value} (v0 v1 v2 v3 v4 v5 v6 v7 v8 v9 v10 : Value) (h : Blk w R t #[u0, u1, u2, u3, u4, u5, u6, u7, u8, u9, u10]) (hb : Below B w₀ w) (hR : B ≤ R) : ∃ Y, ((((((((((w.setCell ⟨R, 0, none⟩ v0).setCell ⟨R, 1, none⟩ v1).setCell ⟨R, 2, none⟩ v2).setCell ⟨R, 3, none⟩ v3).setCell ⟨R, 4, none⟩ v4).setCell ⟨R, 5, none⟩ v5).setCell ⟨R, 6, none⟩ v6).setCell ⟨R, 7, none⟩ v7).setCell ⟨R, 8, none⟩ v8).setCell ⟨R, 9, none⟩ v9).setCell ⟨R, 10, none⟩ v10 = Y ∧ Blk Y R t #[v0, v1, v2, v3, v4, v5, v6, v7, v8, v9, v10] ∧ Below B w₀ Y := by
  have h0 : Blk _ R t #[v0, u1, u2, u3, u4, u5, u6, u7, u8, u9, u10] := h.set 0 v0
  have h1 : Blk _ R t #[v0, v1, u2, u3, u4, u5, u6, u7, u8, u9, u10] := h0.set 1 v1
  have h2 : Blk _ R t #[v0, v1, v2, u3, u4, u5, u6, u7, u8, u9, u10] := h1.set 2 v2
  have h3 : Blk _ R t #[v0, v1, v2, v3, u4, u5, u6, u7, u8, u9, u10] := h2.set 3 v3
  have h4 : Blk _ R t #[v0, v1, v2, v3, v4, u5, u6, u7, u8, u9, u10] := h3.set 4 v4
  have h5 : Blk _ R t #[v0, v1, v2, v3, v4, v5, u6, u7, u8, u9, u10] := h4.set 5 v5
  have h6 : Blk _ R t #[v0, v1, v2, v3, v4, v5, v6, u7, u8, u9, u10] := h5.set 6 v6
  have h7 : Blk _ R t #[v0, v1, v2, v3, v4, v5, v6, v7, u8, u9, u10] := h6.set 7 v7
  have h8 : Blk _ R t #[v0, v1, v2, v3, v4, v5, v6, v7, v8, u9, u10] := h7.set 8 v8
  have h9 : Blk _ R t #[v0, v1, v2, v3, v4, v5, v6, v7, v8, v9, u10] := h8.set 9 v9
  have h10 : Blk _ R t #[v0, v1, v2, v3, v4, v5, v6, v7, v8, v9, v10] := h9.set 10 v10
  refine ⟨_, rfl, h10, ?_⟩
  iterate 11 (refine Below.setCell ?_ hR _)
  exact hb

end Go.Proofs.YtmdgokjeobnnaaaDoor
