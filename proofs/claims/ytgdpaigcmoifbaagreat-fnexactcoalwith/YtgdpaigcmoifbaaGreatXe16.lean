/- Part 16 of what the proof rests on. No condition but those that a theorem names. -/
import Derived.Test.YtgdpaigcmoifbaaGreatXe07
import Derived.Test.YtgdpaigcmoifbaaGreatXe09
import Derived.Test.YtgdpaigcmoifbaaGreatXe10
import Derived.Test.YtgdpaigcmoifbaaGreatXe11
namespace Go.Proofs.YtgdpaigcmoifbaaGreat
open Go.ChangeShapes Go.WideShapes Go.ChangeAt Go.RowKit Go.Sort
set_option linter.unusedVariables false
theorem bits_mem {lo hi b : Int} (h0 : 0 ≤ lo) (h1 : lo ≤ hi) (h2 : hi ≤ 8) (hb0 : -1 ≤ b) (hb1 : b ≤ 8) : memB (bitsV lo hi) b = decide (lo ≤ b ∧ b < hi) := by
 have key : ∀ b : Fin 10, ∀ hi : Fin 9, ∀ lo : Fin 9, lo.val ≤ hi.val → memB (bitsV lo.val hi.val) ((b.val : Int) - 1) = decide ((lo.val : Int) ≤ (b.val : Int) - 1 ∧ (b.val : Int) - 1 < hi.val) := by decide +kernel
 have := key ⟨(b + 1).toNat, by omega⟩ ⟨hi.toNat, by omega⟩ ⟨lo.toNat, by omega⟩ (by show lo.toNat ≤ hi.toNat; omega)
 simp only [show ((lo.toNat : Nat) : Int) = lo by omega, show ((hi.toNat : Nat) : Int) = hi by omega, show (((b + 1).toNat : Nat) : Int) - 1 = b by omega] at this
 exact this
open Go.ChangeShapes Go.WideShapes Go.ChangeAt Go.RowKit Go.Deep Go.Proofs.Tryz
set_option maxRecDepth 100000 in
theorem trod_desks {H : Type} {enc : TypeId × Value → H} {W : World} {spare : Nat → Bool} {held : Bool} {n : Nat} {v : Value} {y : DataW H × List MemPlace}
  (h : DataW.trod enc prog W 0 spare held n 62 [v] = some y) : ∃ ps, IsDesks W v ps := by
 refine open_recs (k := 3) (enc := encDesk) underlying62 underlying151 (by kernel_rfl) rfl (by kernel_rfl) (by omega) ?_ h
 intro cs hl hc
 match cs, hl with
 | [c0, c1, c2], _ =>
  obtain ⟨u0, n0, y0, e0, t0⟩ := hc 0 _ rfl
  obtain ⟨u1, n1, y1, e1, t1⟩ := hc 1 _ rfl
  obtain ⟨u2, n2, y2, e2, t2⟩ := hc 2 _ rfl
  obtain ⟨z0, q0, _⟩ := DataW.trod_bool underlying4 t0
  obtain ⟨z1, q1, _⟩ := DataW.trod_int underlying2 t1
  obtain ⟨z2, q2, _⟩ := DataW.trod_int underlying2 t2
  cases e0; cases e1; cases e2; cases q0; cases q1; cases q2
  exact ⟨(z0, z1, z2), rfl⟩
end Go.Proofs.YtgdpaigcmoifbaaGreat
