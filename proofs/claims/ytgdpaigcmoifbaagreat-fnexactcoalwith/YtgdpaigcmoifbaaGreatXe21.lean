/- Part 21 of what the proof rests on. No condition but those that a theorem names. -/
import Derived.Test.YtgdpaigcmoifbaaGreatXe12
import Derived.Test.YtgdpaigcmoifbaaGreatXe16
namespace Go.Proofs.YtgdpaigcmoifbaaGreat
open Go.ChangeShapes Go.WideShapes Go.ChangeAt Go.RowKit Go.Deep Go.Proofs.Tryz
set_option linter.unusedVariables false
set_option maxRecDepth 100000 in
theorem open_smithy {H : Type} {enc : TypeId × Value → H} {W : World} {spare : Nat → Bool} {held : Bool} {r : Reach} {b0 : Nat} {v : Value} {d : DataW H} {p : List MemPlace}
  (hv : Value.okWide prog W r b0 64 v) (h : DataW.Trod enc prog W 0 spare held 64 v d p) : ∃ v0 v1 v2 v3 v4 m, v = .agg #[v0, v1, v2, v3, v4, .int .i64 m.now] ∧ Smy W v0 v1 v2 v3 v4 m := by
 obtain ⟨cs, rfl, hsz⟩ := okWide_struct underlying64 hv
 have h1 : cs.size = 6 := hsz.trans (by kernel_rfl)
 obtain ⟨l⟩ := cs
 match l, h1 with
 | [c0, c1, c2, c3, c4, c5], _ =>
  obtain ⟨fuel, hf⟩ := h
  obtain ⟨xs, n, _, _, hl, hxl, hF⟩ := DataW.trod_struct underlying64 hf
  have k1 : prog.cellsOf 59 = 1 := by kernel_rfl
  have k2 : prog.cellsOf 60 = 1 := by kernel_rfl
  have k3 : prog.cellsOf 61 = 1 := by kernel_rfl
  have k4 : prog.cellsOf 62 = 1 := by kernel_rfl
  have k5 : prog.cellsOf 30 = 1 := by kernel_rfl
  have k6 : prog.cellsOf 2 = 1 := by kernel_rfl
  match xs, hxl with
  | [y0, y1, y2, y3, y4, y5], _ =>
   have g0 := hF 0 _ rfl
   have g1 := hF 1 _ rfl
   have g2 := hF 2 _ rfl
   have g3 := hF 3 _ rfl
   have g4 := hF 4 _ rfl
   have g5 := hF 5 _ rfl
   simp [Value.cells, k1] at g0
   simp [Value.cells, k2] at g1
   simp [Value.cells, k3] at g2
   simp [Value.cells, k4] at g3
   simp [Value.cells, k5] at g4
   simp [Value.cells, k6] at g5
   obtain ⟨z0, n', _, _, h0⟩ := trod_struct1 underlying59 g0
   have kr : prog.cellsOf 57 = 1 := by kernel_rfl
   obtain ⟨rs, hr⟩ := open_rooms (v := c0) (by simpa [kr] using h0)
   obtain ⟨gs, hg⟩ := trod_guilds g1
   obtain ⟨ss, hs⟩ := trod_smiths g2
   obtain ⟨ds, hd⟩ := trod_desks g3
   obtain ⟨ps, hp⟩ := open_nums g4
   obtain ⟨now, e, _⟩ := DataW.trod_int underlying2 g5
   cases e
   exact ⟨c0, c1, c2, c3, c4, ⟨rs, gs, ss, ds, ps, now⟩, rfl, ⟨hr, hg, hs, hd, hp⟩⟩
end Go.Proofs.YtgdpaigcmoifbaaGreat
