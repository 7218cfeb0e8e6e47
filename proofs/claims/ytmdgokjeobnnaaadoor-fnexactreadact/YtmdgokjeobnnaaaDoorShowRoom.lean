/- Contracts of the program's showNumber and showRoom: each returns the text that the lists say and writes into no memory that was there. Conditions: the library's table of powers of ten lies as its text lays it; the room is right. -/
import Derived.Test.YtmdgokjeobnnaaaDoorShowInt
import Derived.Test.YtmdgokjeobnnaaaDoorShelf
import Derived.Lib.AppendIntMem
import Derived.WalkSmall
import Derived.Deep.RegionHeld3
import Derived.Deep.DrawnRows
namespace Go.Proofs.YtmdgokjeobnnaaaDoor
open Go.ChangeShapes Go.WideShapes Go.ChangeAt Go.RowKit Go.Sort
open Go.Lib (decDigits itoa join joinTail IsBuilder BuilderAt byteCells strCells)
set_option linter.unusedVariables false
attribute [local go_sem ↓] Go.wp_at_zero Go.wp_at_succ

/-- The library's table of powers of ten lies as its text lays it. -/
def Tab (w : World) : Prop := Go.Lib.TabIs Tryd.prog w "internal/strconv.uint64pow10" .u64 Go.Lib.pow10Tab
theorem gTab : Tryd.prog.globalNamed "internal/strconv.uint64pow10" = some 1 := by kernel_rfl
theorem Tab.lt {w : World} (h : Tab w) : 1 < w.heap.size := World.block_lt_of_cell? _ _ (Go.Lib.TabIs.cell h gTab 0 (by decide))
theorem Tab.below {w w' : World} (h : Tab w) (hb : Below w.heap.size w w') : Tab w' := var?_below hb gTab h.lt h

theorem laysW : Go.Proofs.Lays.n166 Tryd.prog Tryd.lays156_ren :=
  { mixed := Tryd.lays156.mixed, f166 := Tryd.lays156.f166, f240 := Tryd.lays156.f240, f276 := Tryd.lays156.f276
    t0 := Tryd.lays156.t0, a0 := Tryd.lays156.a0, z0 := Tryd.lays156.z0, v0 := Tryd.lays156.v0
    t3 := Tryd.lays156.t3, a3 := Tryd.lays156.a3, z3 := Tryd.lays156.z3, v3 := Tryd.lays156.v3
    t4 := Tryd.lays156.t4, a4 := Tryd.lays156.a4, z4 := Tryd.lays156.z4, v4 := Tryd.lays156.v4
    t9 := Tryd.lays156.t9, a9 := Tryd.lays156.a9, z9 := Tryd.lays156.z9, v9 := Tryd.lays156.v9
    t20 := Tryd.lays156.t20, a20 := Tryd.lays156.a20, z20 := Tryd.lays156.z20, v20 := Tryd.lays156.v20
    t37 := Tryd.lays156.t37, a37 := Tryd.lays156.a37, z37 := Tryd.lays156.z37, v37 := Tryd.lays156.v37
    t70 := Tryd.lays156.t70, a70 := Tryd.lays156.a70, z70 := Tryd.lays156.z70, v70 := Tryd.lays156.v70
    t72 := Tryd.lays156.t72, a72 := Tryd.lays156.a72, z72 := Tryd.lays156.z72, v72 := Tryd.lays156.v72
    t75 := Tryd.lays156.t75, a75 := Tryd.lays156.a75, z75 := Tryd.lays156.z75, v75 := Tryd.lays156.v75
    t164 := Tryd.lays156.t164, a164 := Tryd.lays156.a164, z164 := Tryd.lays156.z164, v164 := Tryd.lays156.v164 }
theorem writeString_any (B b : Nat) (cs : List Value) (s : ByteArray) (w : World) (h : IsBuilder 60 5 B b cs w) (hlen : cs.length + s.size ≤ 140737488355328) (hBw : B ≤ w.heap.size) :
    Calls Tryd.prog 30 #[.pointer (some ⟨b, 0, none⟩), .string s] w fun e w' => e = .returned (.tuple #[.int .i64 s.size, .nilIface]) ∧ (BuilderAt 60 5 B b (.pointer (some ⟨b, 0, none⟩)) (cs ++ strCells s) w' ∧ Below B w w') :=
  Any.Builder_WriteString laysW Tryd.Builder_Extra_156 B b cs s w h hlen hBw

theorem showNumber_any (n : Int) (h0 : -9223372036854775808 ≤ n) (h1 : n ≤ 9223372036854775807) (w : World) (ht : Tab w) :
    Calls Tryd.prog 22 #[.int .i64 n] w fun e w' => e = .returned (.string (bs (itoa n))) ∧ Below w.heap.size w w' := by
  have Ht := hide ht
  clear ht
  go_enter Tryd.func22, Tryd.ntmps22
  go_wp2_with fail
  refine (Tryd.strconv_FormatInt_10 n h0 h1 _ (unhide Ht)).mono ?_
  rintro e w1 ⟨rfl, k, os, rfl⟩
  go_wp2_with fail
  go_ret
  exact ⟨rfl, Go.Lib.below_grow _ _ (Nat.le_refl _) _ _⟩

theorem IsBuilder.below {T e B b : Nat} {cs : List Value} {w w' : World} (h : IsBuilder T e B b cs w) (hb : Below w.heap.size w w') : IsBuilder T e B b cs w' := by
  have key : ∀ p, BuilderAt T e B b p cs w → BuilderAt T e B b p cs w' := fun p hp => by
    have hlt := hp.lt
    obtain ⟨h1, v, h2, h3, h4⟩ := hp
    refine ⟨h1, v, (hb.block b hlt).trans h2, ?_, h4⟩
    obtain ⟨hl, h0 | ⟨g, cap, cur, hv, hB, hh, r⟩⟩ := h3
    · exact ⟨hl, .inl h0⟩
    · exact ⟨hl, .inr ⟨g, cap, cur, hv, hB, (hb.block g (Array.getElem?_eq_some_iff.1 hh).1).trans hh, r⟩⟩
  rcases h with h | h
  · exact .inl (key _ h)
  · exact .inr (key _ h)
theorem cells_bs (l : Txt) : strCells (bs l) = byteCells l := by simp [strCells, byteCells, bs]
theorem cells_app (a b : Txt) : byteCells a ++ byteCells b = byteCells (a ++ b) := by simp [byteCells]
theorem cells_len (a : Txt) : (byteCells a).length = a.length := by simp [byteCells]

end Go.Proofs.YtmdgokjeobnnaaaDoor
