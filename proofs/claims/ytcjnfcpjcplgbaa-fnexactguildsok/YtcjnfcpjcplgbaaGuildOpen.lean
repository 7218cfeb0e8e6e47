/- A list of guilds that is handed in, opened: what it reads as. No condition. -/
import Derived.Test.YtcjnfcpjcplgbaaGuildRec
import Derived.Test.YtcjnfcpjcplgbaaRecOpen
namespace Go.Proofs.Ytcjnfcpjcplgbaa
open Go.ChangeShapes Go.WideShapes Go.ChangeAt Go.RowKit Go.Deep
set_option linter.unusedVariables false

set_option maxRecDepth 100000 in
theorem open_guilds {H : Type} {enc : TypeId × Value → H} {W : World} {spare : Nat → Bool} {held : Bool} {r : Reach} {b0 : Nat} {v : Value} {d : DataW H} {p : List MemPlace}
    (hv : Value.okWide Try.prog W r b0 35 v) (h : DataW.Trod enc Try.prog W 0 spare held 35 v d p) : ∃ ps, IsGuilds W v ps := by
  obtain ⟨a, len, cap, rfl⟩ := okWide_slice Try.underlying35 hv
  obtain ⟨fuel, hf⟩ := h
  have hf' : DataW.trod enc Try.prog W 0 spare held fuel 35 [.slice a len cap] = some (d, p) := by simpa [Value.cells] using hf
  refine open_recs (k := 3) (enc := encGuild) Try.underlying35 Try.underlying55 (by kernel_rfl) rfl (by kernel_rfl) (by omega) ?_ hf'
  intro cs hl hc
  match cs, hl with
  | [c0, c1, c2], _ =>
    obtain ⟨u0, n0, y0, e0, t0⟩ := hc 0 _ rfl
    obtain ⟨u1, n1, y1, e1, t1⟩ := hc 1 _ rfl
    obtain ⟨u2, n2, y2, e2, t2⟩ := hc 2 _ rfl
    obtain ⟨z0, q0, _⟩ := DataW.trod_int Try.underlying2 t0
    obtain ⟨z1, q1, _⟩ := DataW.trod_int Try.underlying2 t1
    obtain ⟨z2, q2, _⟩ := DataW.trod_int Try.underlying2 t2
    cases e0; cases e1; cases e2; cases q0; cases q1; cases q2
    exact ⟨(z0, z1, z2), rfl⟩

end Go.Proofs.Ytcjnfcpjcplgbaa
