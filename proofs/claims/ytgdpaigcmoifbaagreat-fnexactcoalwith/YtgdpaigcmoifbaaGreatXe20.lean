/- Part 20 of what the proof rests on. No condition but those that a theorem names. -/
import Derived.Test.YtgdpaigcmoifbaaGreatXe12
namespace Go.Proofs.YtgdpaigcmoifbaaGreat
open Go.ChangeShapes Go.WideShapes Go.ChangeAt Go.RowKit Go.Sort
set_option linter.unusedVariables false
structure Bx (w W : World) (R : Nat) (a0 : Option Addr) (p0 : Nat) (a1 : Option Addr) (p1 : Nat) (a2 : Option Addr) (p2 : Nat) (a3 : Option Addr) (p3 : Nat) (a4 : Option Addr) (p4 : Nat) (m : SmyV) : Prop where
 smy : Smy W (.slice a0 m.rooms.length p0) (.slice a1 m.guilds.length p1) (.slice a2 m.smiths.length p2) (.slice a3 m.desks.length p3) (.slice a4 m.paces.length p4) m
 blk : Blk W R 32 (S6 a0 p0 a1 p1 a2 p2 a3 p3 a4 p4 m)
 bb : Below w.heap.size w W
section
variable {w W X : World} {R : Nat} {a0 a1 a2 a3 a4 : Option Addr} {p0 p1 p2 p3 p4 : Nat} {m : SmyV}
theorem Bx.next (h : Bx w W R a0 p0 a1 p1 a2 p2 a3 p3 a4 p4 m) (hb : Below W.heap.size W X) : Bx w X R a0 p0 a1 p1 a2 p2 a3 p3 a4 p4 m := ⟨h.smy.below hb, h.blk.below hb h.blk.lt, h.bb.trans (hb.mono h.bb.size)⟩
theorem Bx.alloc (h : Bx w W R a0 p0 a1 p1 a2 p2 a3 p3 a4 p4 m) (o : Obj) : Bx w (W.alloc o) R a0 p0 a1 p1 a2 p2 a3 p3 a4 p4 m := h.next ((ba _ _))
theorem Bx.drew (h : Bx w W R a0 p0 a1 p1 a2 p2 a3 p3 a4 p4 m) : Bx w W.drew R a0 p0 a1 p1 a2 p2 a3 p3 a4 p4 m := h.next (alBrf _ _).drew
theorem Bx.cells (h : Bx w W R a0 p0 a1 p1 a2 p2 a3 p3 a4 p4 m) : W.cell? ⟨R, 0, none⟩ = some (.slice a0 m.rooms.length p0) ∧ W.cell? ⟨R, 1, none⟩ = some (.slice a1 m.guilds.length p1) ∧ W.cell? ⟨R, 2, none⟩ = some (.slice a2 m.smiths.length p2) ∧ W.cell? ⟨R, 3, none⟩ = some (.slice a3 m.desks.length p3) ∧ W.cell? ⟨R, 4, none⟩ = some (.slice a4 m.paces.length p4) ∧ W.cell? ⟨R, 5, none⟩ = some (.int .i64 m.now) := h.blk.c6
end
theorem Bx.new {w : World} {v0 v1 v2 v3 v4 : Value} {m : SmyV} (h : Smy w v0 v1 v2 v3 v4 m) : ∃ a0 p0 a1 p1 a2 p2 a3 p3 a4 p4, v0 = .slice a0 m.rooms.length p0 ∧ v1 = .slice a1 m.guilds.length p1 ∧ v2 = .slice a2 m.smiths.length p2 ∧ v3 = .slice a3 m.desks.length p3 ∧ v4 = .slice a4 m.paces.length p4 ∧ Bx w (w.alloc (.cells (S6 a0 p0 a1 p1 a2 p2 a3 p3 a4 p4 m) 32)) w.heap.size a0 p0 a1 p1 a2 p2 a3 p3 a4 p4 m := by
 obtain ⟨a0, p0, a1, p1, a2, p2, a3, p3, a4, p4, rfl, rfl, rfl, rfl, rfl, _⟩ := h.five
 exact ⟨a0, p0, a1, p1, a2, p2, a3, p3, a4, p4, rfl, rfl, rfl, rfl, rfl, h.alloc _, Blk.new _ _ _, (ba _ _)⟩
theorem Bx.grown {w W X : World} {R : Nat} {a0 a1 a2 a3 a4 : Option Addr} {p0 p1 p2 p3 p4 : Nat} {m : SmyV} {r : Option Nat} (h : Bx w W R a0 p0 a1 p1 a2 p2 a3 p3 a4 p4 m) (hs : Smy w (.slice a0 m.rooms.length p0) (.slice a1 m.guilds.length p1) (.slice a2 m.smiths.length p2) (.slice a3 m.desks.length p3) (.slice a4 m.paces.length p4) m) (hg : W.grownBy X r) (hr : ∀ k, r = some k → w.heap.size ≤ k ∧ k ≠ R) : Bx w X R a0 p0 a1 p1 a2 p2 a3 p3 a4 p4 m := by
 have hb : Below w.heap.size w X := h.bb.grown hg h.bb.size (fun k e => (hr k e).1)
 exact ⟨hs.below hb, (hg.block _ h.blk.lt (fun e => (hr R e.symm).2 rfl)).trans h.blk, hb⟩
end Go.Proofs.YtgdpaigcmoifbaaGreat
