/- The cursor of the draws: that it stays, and boxes of two cells beside it. No condition but those that a theorem names. -/
import Derived.Test.YtkagjopogihnbaaOwnKit
import Derived.Test.YtkagjopogihnbaaDraw
namespace Go.Proofs.Ytkagjopogihnbaa
open Go.ChangeShapes Go.WideShapes Go.ChangeAt Go.RowKit Go.Sort
open Draw (St Off Row Cur)
set_option linter.unusedVariables false

/-- The cursor is as it was wherever its block and the older ones are. -/
theorem st_below {a : Option Addr} {len cap bc : Nat} {w w' : World} (h : St a len cap bc w) (hb : Below (bc + 1) w w') : St a len cap bc w' := by
  obtain ⟨⟨hlt, i, x, h0, h1, c0, c1, c2, f1, f2⟩, hr⟩ := h
  have hc : ∀ o, w'.cell? ⟨bc, o, none⟩ = w.cell? ⟨bc, o, none⟩ := fun o => hb.cell (p := ⟨bc, o, none⟩) (Nat.lt_succ_self bc)
  have hf : ∀ o, w'.frozen? ⟨bc, o, none⟩ = w.frozen? ⟨bc, o, none⟩ := fun o => hb.frozen (p := ⟨bc, o, none⟩) (Nat.lt_succ_self bc)
  refine ⟨⟨Nat.lt_of_lt_of_le hlt hb.size, i, x, h0, h1, (hc 0).trans c0, (hc 1).trans c1, (hc 2).trans c2, (hf 1).trans f1, (hf 2).trans f2⟩, Draw.row_below hr (hb.mono (Nat.le_succ bc))⟩
theorem st_lt {a : Option Addr} {len cap bc : Nat} {w : World} (h : St a len cap bc w) : bc < w.heap.size := h.cur.1
theorem off_below {bc : Nat} {a b c : World} (h : Off bc a b) (k : Below a.heap.size b c) : Off bc a c :=
  ⟨k.os.trans h.os, k.tape.trans h.tape, k.output.trans h.output, Nat.le_trans h.size k.size, fun i hi hn => (k.block i hi).trans (h.block i hi hn)⟩
theorem off_but {bc : Nat} {w w' : World} (h : Off bc w w') : But bc w w' := ⟨h.os, h.tape, h.output, h.size, h.block⟩
theorem but_off {bc : Nat} {w w' : World} (h : But bc w w') : Off bc w w' := ⟨h.os, h.tape, h.output, h.size, h.block⟩
theorem off_drew {bc : Nat} {w w' : World} (h : Off bc w.drew w') : Off bc w w' := ⟨h.os, h.tape, h.output, h.size, h.block⟩
theorem st_drew {a : Option Addr} {len cap bc : Nat} {w : World} (h : St a len cap bc w) : St a len cap bc w.drew := ⟨h.cur, h.row⟩

/-- Two cells of a block that may be written. -/
def Res (w : World) (R : Nat) (u u' : Value) : Prop :=
  w.cell? ⟨R, 0, none⟩ = some u ∧ w.cell? ⟨R, 1, none⟩ = some u' ∧ w.frozen? ⟨R, 0, none⟩ = false ∧ w.frozen? ⟨R, 1, none⟩ = false
theorem Res.below {w w' : World} {B R : Nat} {u u' : Value} (h : Res w R u u') (hb : Below B w w') (hlt : R < B) : Res w' R u u' :=
  ⟨(hb.cell (p := ⟨R, 0, none⟩) hlt).trans h.1, (hb.cell (p := ⟨R, 1, none⟩) hlt).trans h.2.1, (hb.frozen (p := ⟨R, 0, none⟩) hlt).trans h.2.2.1, (hb.frozen (p := ⟨R, 1, none⟩) hlt).trans h.2.2.2⟩
theorem Res.off {w w' : World} {bc R : Nat} {u u' : Value} (h : Res w R u u') (ho : Off bc w w') (hlt : R < w.heap.size) (hne : R ≠ bc) : Res w' R u u' :=
  ⟨(ho.cell (p := ⟨R, 0, none⟩) hlt hne).trans h.1, (ho.cell (p := ⟨R, 1, none⟩) hlt hne).trans h.2.1,
    (World.frozen?_of_block (w := w) (w' := w') (ho.block R hlt hne)).trans h.2.2.1, (World.frozen?_of_block (w := w) (w' := w') (ho.block R hlt hne)).trans h.2.2.2⟩
theorem Res.new (w : World) (u u' : Value) (t : TypeId) : Res (w.alloc (.cells #[u, u'] t)) w.heap.size u u' :=
  ⟨by simp, by simp, by rw [frozen?_alloc_cells]; exact frozen_far (Nat.le_refl _), by rw [frozen?_alloc_cells]; exact frozen_far (Nat.le_refl _)⟩
theorem Res.alloc {w : World} {R : Nat} {u u' : Value} (h : Res w R u u') (hlt : R < w.heap.size) (o : Obj) : Res (w.alloc o) R u u' :=
  h.below ((Below.refl _ _).alloc (Nat.le_refl _) _) hlt

end Go.Proofs.Ytkagjopogihnbaa
