/- What the proof rests on, part 3: lists and numbers, how they lie in memory, and contracts of the calls. No condition but those that a theorem names. -/
import Derived.Test.YtnponpamjddpjabGreatXc01
import Derived.Test.YtnponpamjddpjabGreatXc02
import Derived.Lib.QuietBelow
import Derived.Deep.RegionWith
import Derived.Deep.QuietTactic
import Derived.BigQuiet
import Derived.WalkKit
import Derived.ProofKit
import Derived.OpenShut
import Derived.Outline
import Derived.Laws.OwnMore
import Derived.OwnWalk
import Derived.Maps.AppendAt
import Derived.Lib.SmallJoins
import Derived.Deep.Fields
import Derived.Deep.Slices
/- Lists of int64: what they read as, and contracts of the laws' own helpers over them: how many, copies in memory of their own, that two that read alike are alike; one that is handed in, opened. Conditions: the slices can be read; what is copied is no longer than 2^20. -/
namespace Go.Proofs.YtnponpamjddpjabGreat
open Go.ChangeShapes Go.WideShapes Go.ChangeAt Go.RowKit Go.Sort Go.Deep
set_option linter.unusedVariables false

def encNum (z : Int) : List Value := [.int .i64 z]
theorem encNum_len (z : Int) : (encNum z).length = 1 := rfl
abbrev IsNums (w : World) (v : Value) (zs : List Int) : Prop := IsRec 1 encNum w v zs
abbrev NumsAt (n₀ : Nat) (w : World) (v : Value) (zs : List Int) : Prop := RecAt 2 1 encNum n₀ w v zs
theorem infoNum : (Tryz.prog.info? 2).map (fun i => (i.zero, i.size, i.bytes)) = some (some (.int .i64 0), 1, 8) := by kernel_rfl
theorem NumsAt.list {n₀ : Nat} {w : World} {v : Value} {zs : List Int} (h : NumsAt n₀ w v zs) : IsNums w v zs := RecAt.recs encNum_len (by omega) h
theorem num_cell {w : World} {b off : Nat} {zs : List Int} (h : ∀ j, j < zs.length → ∀ i u, (encNum (recAt zs j))[i]? = some u → w.cell? ⟨b, off + j * 1 + i, none⟩ = some u) {j : Nat} (hj : j < zs.length) :
    w.cell? ⟨b, off + j, none⟩ = some (.int .i64 (recAt zs j)) := by
  have := h j hj 0 _ rfl
  simpa using this

theorem szInt64S_any (a : Option Addr) (n cap : Nat) (left : Int) (hn : n ≤ 9223372036854775807) (h0 : 0 ≤ left) (h1 : left ≤ 1048576) (w : World) :
    Calls Tryz.prog 22 #[.slice a n cap, .int .i64 left] w fun e w' => e = .returned (.int .i64 (szV n left)) ∧ w' = w := by
  by_cases h : left - n < 0
  all_goals
    go_enter Tryz.func22, Tryz.ntmps22
    go_wp2
    go_ret
    exact ⟨ret_int (by first | exact (szV_f (by omega)).symm | exact (szV_t (by omega)).symm), rfl⟩

set_option maxRecDepth 100000 in
set_option maxHeartbeats 2000000 in
theorem toInt64S_any {w : World} {v : Value} {zs : List Int} (h : IsNums w v zs) (hs : zs.length ≤ 1048576) :
    Calls Tryz.prog 30 #[v] w fun e w' => ∃ v', e = .returned v' ∧ NumsAt w.heap.size w' v' zs ∧ Below w.heap.size w w' := by
  obtain ⟨a, cap, rfl, hc, hm, hr⟩ := h
  have Hr := hide hr
  clear hr
  obtain ⟨i0, hi, hz0, hz1, hz2⟩ := info_parts infoNum
  go_enter Tryz.func30, Tryz.ntmps30
  go_wp2_with (at_make; refine wpList_make_full _ rfl _ _ 28 rfl w.heap.size 2 i0 (.int .i64 0) 1 Tryz.underlying28 hi hz0 hz1 _ _ _ _ zs.length rfl rfl rfl rfl (by rw [hz2]; omega) (by unfold maxLen; omega) (Nat.le_refl _) ?_; intro w0 hown hgrow)
  have Hown : Hid (NumsAt w.heap.size w0 (.slice (some ⟨w.heap.size, 0, none⟩) zs.length zs.length) (fillL zs 0 0)) := hide (by
    rw [made_flat encNum_len (by omega) (0 : Int) (Value.int .i64 0).cells rfl zs.length] at hown
    rw [fillL_zero]
    show w0.ownsRow _ _ _ _ (List.replicate zs.length _).length _
    rw [List.length_replicate]
    exact hown)
  have Hgr := hide hgrow
  clear hown hgrow
  go_loopw [4] (fun i wr => ∃ k : Nat, k ≤ zs.length ∧ i = .int .i64 k ∧ NumsAt w.heap.size wr (.slice (some ⟨w.heap.size, 0, none⟩) zs.length zs.length) (fillL zs 0 k) ∧ Below w.heap.size w wr) (fun i _ => zs.length - (intOf i).toNat)
  case atStart => exact ⟨0, Nat.zero_le _, rfl, unhide Hown, (Below.refl _ _).grown (unhide Hgr) (Nat.le_refl _) (fun k e => by cases e)⟩
  case round =>
    obtain ⟨k, hk, rfl, hown, hb⟩ := hrel
    have Hb := hide hb
    by_cases hlt : k < zs.length
    · rcases unhide Hr with h0 | ⟨b, off, rfl, hbw, hcl⟩
      · rw [h0] at hlt; simp at hlt
      have c0 := num_cell hcl hlt
      rw [← hb.cell (p := ⟨b, off + k, none⟩) hbw] at c0
      have HS := hide (fillL_set (z := (0 : Int)) hlt)
      have hfl := fillL_len (z := (0 : Int)) hk
      obtain ⟨g, hg, _, _, hcells, hfz⟩ := RecAt.view encNum_len (by omega) hown hfl.symm (by omega)
      cases hg
      have o0 := hcells k (by omega) 0 _ rfl
      have f0 := hfz (k * 1)
      simp only [Nat.mul_one, Nat.add_zero] at o0 f0
      have Hp2 := hide (RecAt.put encNum_len (by omega) hown hfl.symm (j := k) (by omega) (recAt zs k))
      generalize recAt zs k = z at *
      clear hcl hb hown hcells hfz hfl
      go_wp2_with fail
      go_roundw
      case rel => exact ⟨k + 1, by omega, by go_num, by have h9 := (unhide Hp2).1; rw [unhide HS] at h9; simpa [setW, encNum] using h9, (unhide Hb).trans (below_grown (by have h9 := (unhide Hp2).2; simpa [setW, encNum] using h9) (Nat.le_refl _) (by have := (unhide Hb).size; omega))⟩
      case measure => simp [intOf]; omega
    · obtain rfl : k = zs.length := by omega
      rw [fillL_all] at hown
      go_wp2_with fail
      go_ret
      exact ⟨_, rfl, hown, hb⟩

set_option maxHeartbeats 2000000 in
theorem eqNums_yes {w : World} {v u : Value} {zs : List Int} (hv : IsNums w v zs) (hu : IsNums w u zs) :
    Calls Tryz.prog 38 #[v, u] w fun e w' => e = .returned (.bool true) ∧ Below w.heap.size w w' := by
  obtain ⟨a, cap, rfl, hc, hm, hr⟩ := hv
  obtain ⟨a', cap', rfl, hc', hm', hr'⟩ := hu
  have Hr := hide hr
  have Hr' := hide hr'
  clear hr hr'
  go_enter Tryz.func38, Tryz.ntmps38
  go_wp2_with fail
  go_loopw [5] (fun i wr => ∃ k : Nat, k ≤ zs.length ∧ i = .int .i64 k ∧ Below w.heap.size w wr) (fun i _ => zs.length - (intOf i).toNat)
  case atStart => exact ⟨0, Nat.zero_le _, rfl, Below.refl _ _⟩
  case round =>
    obtain ⟨k, hk, rfl, hb⟩ := hrel
    have Hb := hide hb
    by_cases hlt : k < zs.length
    · rcases unhide Hr with h0 | ⟨b, off, rfl, hbw, hcl⟩
      · rw [h0] at hlt; simp at hlt
      rcases unhide Hr' with h0 | ⟨b', off', rfl, hbw', hcl'⟩
      · rw [h0] at hlt; simp at hlt
      have c0 := num_cell hcl hlt
      have d0 := num_cell hcl' hlt
      rw [← hb.cell (p := ⟨b, off + k, none⟩) hbw] at c0
      rw [← hb.cell (p := ⟨b', off' + k, none⟩) hbw'] at d0
      generalize recAt zs k = z at *
      clear hcl hcl' hb
      go_wp2_with fail
      go_quiet (fail)
      go_wp2_with fail
      go_roundw
      case rel => exact ⟨k + 1, by omega, by go_num, ⟨(unhide Hb).os, (unhide Hb).tape, (unhide Hb).output, (unhide Hb).size, (unhide Hb).block⟩⟩
      case measure => simp [intOf]; omega
    · go_wp2_with fail
      go_ret
      exact ⟨rfl, hb⟩

def w1cell (W : World) (a : Addr) (i : Nat) (q : Int) : Prop := W.cell? (a.add i) = some (.int .i64 q)
/-- A slice of int64 that is handed in. -/
theorem open_nums {H : Type} {enc : TypeId × Value → H} {W : World} {spare : Nat → Bool} {held : Bool} {n : Nat} {v : Value} {y : DataW H × List MemPlace}
    (h : DataW.trod enc Tryz.prog W 0 spare held n 28 [v] = some y) : ∃ zs, IsNums W v zs := by
  rcases open_slice Tryz.underlying28 h with ⟨hv, _⟩ | ⟨a, len, cap, m, n', D, Pl, hv, _, hl, hm, hmm, _, hx⟩
  · cases hv
    exact ⟨[], none, 0, rfl, Nat.le_refl _, by omega, .inl rfl⟩
  · cases hv
    have hlm : len ≤ m := by rw [hmm]; split <;> omega
    have ce : Tryz.prog.cellsOf 2 = 1 := by kernel_rfl
    have each : ∀ i, i < len → ∃ q : Int, w1cell W a i q := by
      intro i hi
      obtain ⟨cs, h1, h2⟩ := hx i (by omega)
      rw [ce] at h1
      obtain ⟨_, hlen, hcell⟩ := World.cells?_some h1
      obtain ⟨c, rfl⟩ : ∃ c, cs = [c] := by
        match cs, hlen with
        | [c], _ => exact ⟨c, rfl⟩
      obtain ⟨z, hz, _⟩ := DataW.trod_int Tryz.underlying2 h2
      cases hz
      have := hcell 0 (by omega)
      exact ⟨z, by simpa [w1cell, Addr.add] using this⟩
    obtain ⟨F, hF⟩ := choose_lt each
    have hlen : ((List.range len).map F).length = len := by simp
    refine ⟨(List.range len).map F, some a, cap, by rw [hlen], by rw [hlen]; exact hl, by unfold maxLen at hm; omega, ?_⟩
    by_cases hz : len = 0
    · exact .inl (by simp [hz])
    · have h0 : W.cell? (a.add 0) = some (.int .i64 (F 0)) := by simpa [w1cell] using hF 0 (by omega)
      have sp := World.cell?_spot h0
      have hlt := World.block_lt_of_cell? _ _ h0
      obtain ⟨b, off, spot⟩ := a
      have hspot : spot = none := by simpa [Addr.add] using sp
      subst hspot
      refine .inr ⟨b, off, rfl, by simpa [Addr.add] using hlt, fun j hj i u hu => ?_⟩
      rw [hlen] at hj
      have hat : recAt ((List.range len).map F) j = F j := by unfold recAt; simp [List.getD, hj]
      rw [hat] at hu
      have hi : i = 0 := by
        rcases Nat.eq_zero_or_pos i with h | h
        · exact h
        · rw [List.getElem?_eq_none (by unfold encNum; simp; omega)] at hu; cases hu
      subst hi
      have hj2 := hF j hj
      unfold w1cell at hj2
      rw [add_plain] at hj2
      simp only [encNum, List.getElem?_cons_zero, Option.some.injEq] at hu
      subst hu
      simpa using hj2

end Go.Proofs.YtnponpamjddpjabGreat

/- A block of cells that a variable lies in: what it holds, that it stays, and what it holds when one cell is written. No condition but those that a theorem names. -/
namespace Go.Proofs.YtnponpamjddpjabGreat
open Go.ChangeShapes Go.WideShapes Go.ChangeAt Go.RowKit Go.Sort
set_option linter.unusedVariables false

/-- Block R is a variable's own: its cells are cs. -/
def Blk (w : World) (R : Nat) (t : TypeId) (cs : Array Value) : Prop := w.heap[R]? = some (.cells cs t (0, 0))
section
variable {w w' : World} {R B : Nat} {t : TypeId} {cs : Array Value}
theorem Blk.lt (h : Blk w R t cs) : R < w.heap.size := (Array.getElem?_eq_some_iff.1 h).1
theorem Blk.cell (h : Blk w R t cs) {i : Nat} {v : Value} (hi : cs[i]? = some v) : w.cell? ⟨R, i, none⟩ = some v := by simp [World.cell?, show w.heap[R]? = _ from h, hi]
theorem Blk.free (h : Blk w R t cs) (i : Nat) : w.frozen? ⟨R, i, none⟩ = false := frozen_of_row w R i cs t h
theorem Blk.new (w : World) (t : TypeId) (cs : Array Value) : Blk (w.alloc (.cells cs t)) w.heap.size t cs := by show (w.heap.push _)[w.heap.size]? = _; simp
theorem Blk.same (h : Blk w R t cs) (hs : w'.heap[R]? = w.heap[R]?) : Blk w' R t cs := hs.trans h
theorem Blk.below (h : Blk w R t cs) (hb : Below B w w') (hR : R < B) : Blk w' R t cs := h.same (hb.block R hR)
theorem Blk.alloc (h : Blk w R t cs) (o : Obj) : Blk (w.alloc o) R t cs := h.below ((Below.refl w.heap.size w).alloc (Nat.le_refl _) o) h.lt
theorem Blk.set (h : Blk w R t cs) (i : Nat) (v : Value) : Blk (w.setCell ⟨R, i, none⟩ v) R t (cs.setIfInBounds i v) := heap_setCell_same w R i cs t v h
theorem Blk.other (h : Blk w R t cs) {a : Addr} (ha : R ≠ a.block) (v : Value) : Blk (w.setCell a v) R t cs := h.same (heap_setCell_other w a R v ha)
theorem Blk.drewN (h : Blk w R t cs) (n : Nat) : Blk (w.drewN n) R t cs := h
end
theorem cell_new (w : World) {t : TypeId} {cs : Array Value} {i : Nat} {v : Value} (hi : cs[i]? = some v) : (w.alloc (.cells cs t)).cell? ⟨w.heap.size, i, none⟩ = some v := (Blk.new w t cs).cell hi

theorem Blk.c6 {w : World} {R : Nat} {t : TypeId} {v0 v1 v2 v3 v4 v5 : Value} (h : Blk w R t #[v0, v1, v2, v3, v4, v5]) : w.cell? ⟨R, 0, none⟩ = some v0 ∧ w.cell? ⟨R, 1, none⟩ = some v1 ∧ w.cell? ⟨R, 2, none⟩ = some v2 ∧ w.cell? ⟨R, 3, none⟩ = some v3 ∧ w.cell? ⟨R, 4, none⟩ = some v4 ∧ w.cell? ⟨R, 5, none⟩ = some v5 := ⟨h.cell rfl, h.cell rfl, h.cell rfl, h.cell rfl, h.cell rfl, h.cell rfl⟩
theorem bl {w w' : World} {R : Nat} {t : TypeId} {cs : Array Value} (h : Hid (Blk w R t cs)) (hb : Below w.heap.size w w') : Hid (Blk w' R t cs) := hide ((unhide h).below hb (unhide h).lt)
theorem bt {w a b : World} (h : Hid (Below w.heap.size w a)) (hb : Below a.heap.size a b) : Hid (Below w.heap.size w b) := hide ((unhide h).trans (hb.mono (unhide h).size))
theorem Blk.f6 {w : World} {R : Nat} {t : TypeId} {cs : Array Value} (h : Blk w R t cs) : w.frozen? ⟨R, 0, none⟩ = false ∧ w.frozen? ⟨R, 1, none⟩ = false ∧ w.frozen? ⟨R, 2, none⟩ = false ∧ w.frozen? ⟨R, 3, none⟩ = false ∧ w.frozen? ⟨R, 4, none⟩ = false ∧ w.frozen? ⟨R, 5, none⟩ = false := ⟨h.free 0, h.free 1, h.free 2, h.free 3, h.free 4, h.free 5⟩
theorem two_boxes (w : World) (t : TypeId) (cs : Array Value) (u : TypeId) (ds : Array Value) : ∃ W, (w.alloc (.cells cs t)).alloc (.cells ds u) = W ∧ Hid (Blk W w.heap.size t cs) ∧ Hid (Blk W (w.heap.size + 1) u ds) ∧ Hid (Below w.heap.size w W) := by
  refine ⟨_, rfl, hide ((Blk.new w _ _).alloc _), hide ?_, hide (((Below.refl _ _).alloc (Nat.le_refl _) _).alloc (by simp) _)⟩
  have k := Blk.new (w.alloc (.cells cs t)) u ds
  rw [World.size_alloc] at k
  exact k
end Go.Proofs.YtnponpamjddpjabGreat

/- A smithy in memory: what it reads as, and one that the call itself made. No condition but those that a theorem names. -/
namespace Go.Proofs.YtnponpamjddpjabGreat
open Go.ChangeShapes Go.WideShapes Go.ChangeAt Go.RowKit Go.Sort
set_option linter.unusedVariables false

structure SmyV where
  rooms : List RoomV
  guilds : List GuildV
  smiths : List SmithV
  desks : List DeskV
  paces : List Int
  now : Int

/-- The five slices read as the smithy's lists. -/
structure Smy (w : World) (v0 v1 v2 v3 v4 : Value) (m : SmyV) : Prop where
  rooms : IsRooms w v0 m.rooms
  guilds : IsGuilds w v1 m.guilds
  smiths : IsSmiths w v2 m.smiths
  desks : IsDesks w v3 m.desks
  paces : IsNums w v4 m.paces
theorem Smy.below {w w' : World} {v0 v1 v2 v3 v4 : Value} {m : SmyV} (h : Smy w v0 v1 v2 v3 v4 m) (hb : Below w.heap.size w w') : Smy w' v0 v1 v2 v3 v4 m :=
  ⟨h.rooms.below hb, h.guilds.below hb, h.smiths.below hb, h.desks.below hb, h.paces.below hb⟩
theorem Smy.alloc {w : World} {v0 v1 v2 v3 v4 : Value} {m : SmyV} (h : Smy w v0 v1 v2 v3 v4 m) (o : Obj) : Smy (w.alloc o) v0 v1 v2 v3 v4 m := h.below ((Below.refl _ _).alloc (Nat.le_refl _) _)

/-- Nothing in it is longer than 2^20. -/
structure SmySmall (m : SmyV) : Prop where
  rooms : Small m.rooms
  guilds : m.guilds.length ≤ 1048576
  smiths : m.smiths.length ≤ 1048576
  desks : m.desks.length ≤ 1048576
  paces : m.paces.length ≤ 1048576

theorem RoomsFrom.below {n₀ : Nat} {w w' : World} {v : Value} {rs : List RoomV} (h : RoomsFrom n₀ w v rs) (hb : Below w.heap.size w w') : RoomsFrom n₀ w' v rs := by
  obtain ⟨a, cap, hv, hc, hm, hr⟩ := h
  refine ⟨a, cap, hv, hc, hm, ?_⟩
  rcases hr with hr | ⟨b, off, ha, h0, hlt, hcl⟩
  · exact .inl hr
  · have hs := hb.size
    refine .inr ⟨b, off, ha, h0, by omega, fun k hk => ?_⟩
    obtain ⟨c0, pv, c1, hp, hj⟩ := hcl k hk
    exact ⟨(hb.cell (p := ⟨b, off + k * 2, none⟩) hlt).trans c0, pv, (hb.cell (p := ⟨b, off + k * 2 + 1, none⟩) hlt).trans c1, hp.below hb, hj⟩
theorem RoomsFrom.mono {n₀ n₁ : Nat} {w : World} {v : Value} {rs : List RoomV} (h : RoomsFrom n₀ w v rs) (hn : n₁ ≤ n₀) : RoomsFrom n₁ w v rs := by
  obtain ⟨a, cap, hv, hc, hm, hr⟩ := h
  refine ⟨a, cap, hv, hc, hm, ?_⟩
  rcases hr with hr | ⟨b, off, ha, h0, hlt, hcl⟩
  · exact .inl hr
  · refine .inr ⟨b, off, ha, by omega, hlt, fun k hk => ?_⟩
    obtain ⟨c0, pv, c1, hp, hj⟩ := hcl k hk
    exact ⟨c0, pv, c1, hp, fun j e => by have := hj j e; omega⟩
theorem RecAt.set_old {α : Type} {t k : Nat} {enc : α → List Value} {n₀ : Nat} {w : World} {v : Value} {xs : List α} (h : RecAt t k enc n₀ w v xs) (g o : Nat) (u : Value) (hg : g < n₀) : RecAt t k enc n₀ (w.setCell ⟨g, o, none⟩ u) v xs :=
  h.same fun i hi => heap_setCell_other w _ i u (by have := (h.lt hi).1; show i ≠ g; omega)

/-- A smithy in memory that the call made: all of it lies in blocks from n₀ on. -/
structure OwnSmy (n₀ : Nat) (w : World) (v0 v1 v2 v3 v4 : Value) (m : SmyV) : Prop where
  rooms : RoomsFrom n₀ w v0 m.rooms
  guilds : GuildsAt n₀ w v1 m.guilds
  smiths : SmithsAt n₀ w v2 m.smiths
  desks : DesksAt n₀ w v3 m.desks
  paces : NumsAt n₀ w v4 m.paces
theorem OwnSmy.smy {n₀ : Nat} {w : World} {v0 v1 v2 v3 v4 : Value} {m : SmyV} (h : OwnSmy n₀ w v0 v1 v2 v3 v4 m) : Smy w v0 v1 v2 v3 v4 m := ⟨h.rooms.rooms, h.guilds.list, h.smiths.list, h.desks.list, h.paces.list⟩
theorem OwnSmy.mono {n₀ n₁ : Nat} {w : World} {v0 v1 v2 v3 v4 : Value} {m : SmyV} (h : OwnSmy n₀ w v0 v1 v2 v3 v4 m) (hn : n₁ ≤ n₀) : OwnSmy n₁ w v0 v1 v2 v3 v4 m :=
  ⟨h.rooms.mono hn, RecAt.mono h.guilds hn, RecAt.mono h.smiths hn, RecAt.mono h.desks hn, RecAt.mono h.paces hn⟩
theorem OwnSmy.set {n₀ : Nat} {w : World} {v0 v1 v2 v3 v4 : Value} {m : SmyV} (h : OwnSmy n₀ w v0 v1 v2 v3 v4 m) (g o : Nat) (u : Value) (hg : g < n₀) : OwnSmy n₀ (w.setCell ⟨g, o, none⟩ u) v0 v1 v2 v3 v4 m :=
  ⟨h.rooms.set g o u hg, RecAt.set_old h.guilds g o u hg, RecAt.set_old h.smiths g o u hg, RecAt.set_old h.desks g o u hg, RecAt.set_old h.paces g o u hg⟩

theorem Smy.five {w : World} {v0 v1 v2 v3 v4 : Value} {m : SmyV} (h : Smy w v0 v1 v2 v3 v4 m) : ∃ a0 p0 a1 p1 a2 p2 a3 p3 a4 p4, v0 = .slice a0 m.rooms.length p0 ∧ v1 = .slice a1 m.guilds.length p1 ∧ v2 = .slice a2 m.smiths.length p2 ∧ v3 = .slice a3 m.desks.length p3 ∧ v4 = .slice a4 m.paces.length p4 ∧ m.rooms.length ≤ p0 ∧ p0 ≤ 9223372036854775807 ∧ m.guilds.length ≤ p1 ∧ p1 ≤ 9223372036854775807 ∧ m.smiths.length ≤ p2 ∧ p2 ≤ 9223372036854775807 ∧ m.desks.length ≤ p3 ∧ p3 ≤ 9223372036854775807 ∧ m.paces.length ≤ p4 ∧ p4 ≤ 9223372036854775807 := by
  obtain ⟨a0, p0, e0, x0, y0, _⟩ := h.rooms
  obtain ⟨a1, p1, e1, x1, y1, _⟩ := h.guilds
  obtain ⟨a2, p2, e2, x2, y2, _⟩ := h.smiths
  obtain ⟨a3, p3, e3, x3, y3, _⟩ := h.desks
  obtain ⟨a4, p4, e4, x4, y4, _⟩ := h.paces
  exact ⟨a0, p0, a1, p1, a2, p2, a3, p3, a4, p4, e0, e1, e2, e3, e4, x0, y0, x1, y1, x2, y2, x3, y3, x4, y4⟩

end Go.Proofs.YtnponpamjddpjabGreat

/- Contracts of chapter 3's functions and of their models: each returns the plain number that is defined here, at every argument of type int64; nothing in memory is changed. -/
namespace Go.Proofs.YtnponpamjddpjabGreat
open Go.ChangeShapes Go.WideShapes Go.ChangeAt Go.RowKit
set_option linter.unusedVariables false

/-- The weight of the rank that is k above 0. -/
def lightT (k : Nat) : Int := [1024, 819, 655, 524, 419, 335].getD k 0
/-- The weight of the rank that is k below 0. -/
def heavyT (k : Nat) : Int := [1024, 1280, 1600, 2000, 2500, 3125].getD k 0
def weightV (r : Int) : Int := if inB r (-5) 5 then (if 0 ≤ r then lightT r.toNat else heavyT (-r).toNat) else 0

theorem lightT_all : ∀ k : Fin 5, lightT (k.val + 1) = lightT k.val * 4 / 5 ∧ 0 ≤ lightT k.val ∧ lightT k.val ≤ 1024 := by decide
theorem heavyT_all : ∀ k : Fin 5, heavyT (k.val + 1) = heavyT k.val * 5 / 4 ∧ 0 ≤ heavyT k.val ∧ heavyT k.val ≤ 3125 := by decide
theorem lightT_step {k : Nat} (h : k < 5) : lightT (k + 1) = lightT k * 4 / 5 ∧ 0 ≤ lightT k ∧ lightT k ≤ 1024 := lightT_all ⟨k, h⟩
theorem heavyT_step {k : Nat} (h : k < 5) : heavyT (k + 1) = heavyT k * 5 / 4 ∧ 0 ≤ heavyT k ∧ heavyT k ≤ 3125 := heavyT_all ⟨k, h⟩

theorem ranks {r : Int} (h : inB r (-5) 5 = true) : r = -5 ∨ r = -4 ∨ r = -3 ∨ r = -2 ∨ r = -1 ∨ r = 0 ∨ r = 1 ∨ r = 2 ∨ r = 3 ∨ r = 4 ∨ r = 5 := by
  have := inB_of h
  omega
theorem weightV_none {r : Int} (h : inB r (-5) 5 = false) : weightV r = 0 := by unfold weightV; simp [h]
theorem weightV_up {r : Int} (h : inB r (-5) 5 = true) (h0 : 0 ≤ r) : weightV r = lightT r.toNat := by unfold weightV; simp [h, h0]
theorem weightV_down {r : Int} (h : inB r (-5) 5 = true) (h0 : ¬ 0 ≤ r) : weightV r = heavyT (-r).toNat := by unfold weightV; simp [h, h0]

theorem l3Rank_any (x : Int) (w : World) : Calls Tryz.prog 115 #[.int .i64 x] w fun e w' => e = .returned (.bool (inB x (-5) 5)) ∧ w' = w := by
  go_enter Tryz.func115, Tryz.ntmps115
  go_wp2_with (go_at_call 52; refine (l1In_any _ _ _ _).mono ?_; rintro e w' ⟨rfl, rfl⟩)
  go_ret
  exact ⟨rfl, rfl⟩

set_option maxHeartbeats 400000 in
theorem specWeightOf_any (r : Int) (w : World) : Calls Tryz.prog 117 #[.int .i64 r] w fun e w' => e = .returned (.int .i64 (weightV r)) ∧ w' = w := by
  cases hb : inB r (-5) 5
  · rw [weightV_none hb]
    go_enter Tryz.func117, Tryz.ntmps117
    go_wp2_with (go_at_call 115; refine (l3Rank_any _ _).mono ?_; rintro e w' ⟨rfl, rfl⟩)
    go_ret
    exact ⟨rfl, rfl⟩
  · obtain ⟨r0, r1⟩ := inB_of hb
    by_cases h0 : 0 ≤ r
    · rw [weightV_up hb h0]
      obtain ⟨n, rfl⟩ := Int.eq_ofNat_of_zero_le h0
      rw [Int.toNat_natCast]
      go_enter Tryz.func117, Tryz.ntmps117
      go_wp2_with (go_at_call 115; refine (l3Rank_any _ _).mono ?_; rintro e w' ⟨rfl, rfl⟩)
      go_loop [0, 3] (fun i s => ∃ k : Nat, k ≤ n ∧ i = .int .i64 ((n : Int) - k) ∧ s = .int .i64 (lightT k)) (fun i _ => (intOf i).toNat)
      case atStart => exact ⟨0, Nat.zero_le _, by simp, rfl⟩
      case round =>
        obtain ⟨k, hk, rfl, rfl⟩ := hrel
        by_cases hlt : k < n
        · obtain ⟨hs, f1, f2⟩ := lightT_step (k := k) (by omega)
          have Hs := hide hs
          clear hs
          generalize lightT k = z at *
          go_wp2_with fail
          go_round
          case rel => exact ⟨k + 1, by omega, by go_num, by rw [unhide Hs]⟩
          case measure => simp [intOf]; omega
        · obtain rfl : k = n := by omega
          go_wp2_with fail
          go_loop [0, 3] (fun i s => i = .int .i64 0 ∧ s = .int .i64 (lightT k)) (fun _ _ => 0)
          case atStart => exact ⟨by simp, rfl⟩
          case round =>
            obtain ⟨rfl, rfl⟩ := hrel
            go_wp2_with fail
            go_ret
            exact ⟨rfl, rfl⟩
    · rw [weightV_down hb h0]
      obtain ⟨n, hn⟩ := Int.eq_ofNat_of_zero_le (show 0 ≤ -r by omega)
      obtain rfl : r = -(n : Int) := by omega
      rw [show (-(-(n : Int))).toNat = n by omega]
      clear hn
      go_enter Tryz.func117, Tryz.ntmps117
      go_wp2_with (go_at_call 115; refine (l3Rank_any _ _).mono ?_; rintro e w' ⟨rfl, rfl⟩)
      go_loop [0, 3] (fun i s => i = .int .i64 (-(n : Int)) ∧ s = .int .i64 1024) (fun _ _ => 0)
      case atStart => exact ⟨rfl, rfl⟩
      case round =>
        obtain ⟨rfl, rfl⟩ := hrel
        go_wp2_with fail
        go_loop [0, 3] (fun i s => ∃ k : Nat, k ≤ n ∧ i = .int .i64 ((k : Int) - n) ∧ s = .int .i64 (heavyT k)) (fun i _ => (-(intOf i)).toNat)
        case atStart => exact ⟨0, Nat.zero_le _, by simp, rfl⟩
        case round =>
          obtain ⟨k, hk, rfl, rfl⟩ := hrel
          by_cases hlt : k < n
          · obtain ⟨hs, f1, f2⟩ := heavyT_step (k := k) (by omega)
            have Hs := hide hs
            clear hs
            generalize heavyT k = z at *
            go_wp2_with fail
            go_round
            case rel => exact ⟨k + 1, by omega, by go_num, by rw [unhide Hs]⟩
            case measure => simp [intOf]; omega
          · obtain rfl : k = n := by omega
            go_wp2_with fail
            go_ret
            exact ⟨rfl, rfl⟩

theorem heavier_any {x y : Int} (h0 : 0 ≤ x) (h1 : x ≤ 100000) (h : x * 5 / 4 = y) (w : World) : Calls Tryz.prog 186 #[.int .i64 x] w fun e w' => e = .returned (.int .i64 y) ∧ w' = w := by
  subst h
  go_enter Tryz.func186, Tryz.ntmps186
  go_wp2
  go_ret
  exact ⟨rfl, rfl⟩
theorem lighter_any {x y : Int} (h0 : 0 ≤ x) (h1 : x ≤ 100000) (h : x * 4 / 5 = y) (w : World) : Calls Tryz.prog 187 #[.int .i64 x] w fun e w' => e = .returned (.int .i64 y) ∧ w' = w := by
  subst h
  go_enter Tryz.func187, Tryz.ntmps187
  go_wp2
  go_ret
  exact ⟨rfl, rfl⟩

set_option maxHeartbeats 2000000 in
theorem implWeightOf_any (r : Int) (w : World) : Calls Tryz.prog 185 #[.int .i64 r] w fun e w' => e = .returned (.int .i64 (weightV r)) ∧ w' = w := by
  cases hb : inB r (-5) 5
  · rw [weightV_none hb]
    have hr : r < -5 ∨ 5 < r := by
      by_cases h1 : -5 ≤ r
      · by_cases h2 : r ≤ 5
        · rw [inB_t h1 h2] at hb; cases hb
        · omega
      · omega
    have e1 : ¬ r = -5 := by omega
    have e2 : ¬ r = -4 := by omega
    have e3 : ¬ r = -3 := by omega
    have e4 : ¬ r = -2 := by omega
    have e5 : ¬ r = -1 := by omega
    have e6 : ¬ r = 0 := by omega
    have e7 : ¬ r = 5 := by omega
    have e8 : ¬ r = 4 := by omega
    have e9 : ¬ r = 3 := by omega
    have e10 : ¬ r = 2 := by omega
    have e11 : ¬ r = 1 := by omega
    clear hb hr
    go_enter Tryz.func185, Tryz.ntmps185
    go_wp2_with fail
    go_ret
    exact ⟨rfl, rfl⟩
  · rcases ranks hb with rfl | rfl | rfl | rfl | rfl | rfl | rfl | rfl | rfl | rfl | rfl
    all_goals
      clear hb
      go_enter Tryz.func185, Tryz.ntmps185
      go_wp2_with (first
        | (go_at_call 186; refine (heavier_any (by decide) (by decide) rfl _).mono ?_; rintro e w' ⟨rfl, rfl⟩)
        | (go_at_call 187; refine (lighter_any (by decide) (by decide) rfl _).mono ?_; rintro e w' ⟨rfl, rfl⟩))
      go_ret
      exact ⟨rfl, rfl⟩

end Go.Proofs.YtnponpamjddpjabGreat

/- Guilds as plain lists of numbers: which are right, their bounds, what lies within them. Lists and numbers alone; no condition but those that a theorem names. -/
namespace Go.Proofs.YtnponpamjddpjabGreat
open Go.ChangeShapes Go.WideShapes Go.ChangeAt Go.RowKit Go.Sort
set_option linter.unusedVariables false

def pairB (lo hi : Int) : Bool := inB lo 0 1024 && inB hi 0 1024 && decide (lo ≤ hi)
theorem pairB_of {lo hi : Int} (h : pairB lo hi = true) : 0 ≤ lo ∧ lo ≤ 1024 ∧ 0 ≤ hi ∧ hi ≤ 1024 ∧ lo ≤ hi := by
  unfold pairB at h
  simp only [Bool.and_eq_true, decide_eq_true_eq] at h
  obtain ⟨⟨h1, h2⟩, h3⟩ := h
  exact ⟨(inB_of h1).1, (inB_of h1).2, (inB_of h2).1, (inB_of h2).2, h3⟩
def guildB (g : GuildV) (n : Int) : Bool := inB g.1 (-1) (n - 1) && pairB g.2.1 g.2.2
theorem guildB_of {g : GuildV} {n : Int} (h : guildB g n = true) : -1 ≤ g.1 ∧ g.1 ≤ n - 1 ∧ pairB g.2.1 g.2.2 = true := by
  unfold guildB at h
  simp only [Bool.and_eq_true] at h
  exact ⟨(inB_of h.1).1, (inB_of h.1).2, h.2⟩
/-- The first k of them are right. -/
def upToB (ps : List GuildV) (k : Nat) : Bool := (List.range k).all fun i => guildB (recAt ps i) i
theorem upToB_succ (ps : List GuildV) (k : Nat) : upToB ps (k + 1) = (upToB ps k && guildB (recAt ps k) k) := by unfold upToB; rw [List.range_succ, List.all_append]; simp
theorem upToB_f {ps : List GuildV} {k n : Nat} (hk : k < n) (h : guildB (recAt ps k) k = false) : upToB ps n = false := by
  unfold upToB
  rw [List.all_eq_false]
  exact ⟨k, List.mem_range.2 hk, by simp [h]⟩
theorem upToB_at {ps : List GuildV} {k n : Nat} (h : upToB ps n = true) (hk : k < n) : guildB (recAt ps k) k = true := by
  unfold upToB at h
  exact List.all_eq_true.1 h k (List.mem_range.2 hk)
def guildsB (ps : List GuildV) : Bool := upToB ps ps.length && decide (ps.length ≤ 6)
theorem guildsB_of {ps : List GuildV} (h : guildsB ps = true) : upToB ps ps.length = true ∧ ps.length ≤ 6 := by
  unfold guildsB at h
  simpa using h
theorem guildsB_f {ps : List GuildV} {k : Nat} (hk : k < ps.length) (h : guildB (recAt ps k) k = false) : guildsB ps = false := by unfold guildsB; rw [upToB_f hk h]; rfl
theorem guildsB_long {ps : List GuildV} (h : 6 < ps.length) : guildsB ps = false := by unfold guildsB; simp; omega
theorem guildsB_at {ps : List GuildV} (h : guildsB ps = true) {g : Int} (h0 : 0 ≤ g) (h1 : g < ps.length) : -1 ≤ (recAt ps g.toNat).1 ∧ (recAt ps g.toNat).1 ≤ g - 1 ∧ pairB (recAt ps g.toNat).2.1 (recAt ps g.toNat).2.2 = true := by
  have := guildB_of (upToB_at (guildsB_of h).1 (k := g.toNat) (by omega))
  rw [show ((g.toNat : Nat) : Int) = g by omega] at this
  exact this

/-- low and high, each clamped to what is left. -/
def narV (b : Int × Int) (lo hi : Int) : Int × Int := (min (max lo b.1) b.2, min (max hi (min (max lo b.1) b.2)) b.2)
def bndN (ps : List GuildV) : Nat → Int → Int × Int
  | 0, _ => (0, 1024)
  | n + 1, g => if g < 0 then (0, 1024) else narV (bndN ps n (recAt ps g.toNat).1) (recAt ps g.toNat).2.1 (recAt ps g.toNat).2.2
def bnd (ps : List GuildV) (g : Int) : Int × Int := bndN ps (g + 1).toNat g
theorem narV_bd {b : Int × Int} {lo hi : Int} (h0 : 0 ≤ b.1) (h1 : b.1 ≤ b.2) (h2 : b.2 ≤ 1024) : b.1 ≤ (narV b lo hi).1 ∧ (narV b lo hi).1 ≤ (narV b lo hi).2 ∧ (narV b lo hi).2 ≤ b.2 := by
  unfold narV
  refine ⟨?_, ?_, ?_⟩ <;> simp only <;> omega
theorem bndN_bd (ps : List GuildV) : ∀ (n : Nat) (g : Int), 0 ≤ (bndN ps n g).1 ∧ (bndN ps n g).1 ≤ (bndN ps n g).2 ∧ (bndN ps n g).2 ≤ 1024
  | 0, g => by unfold bndN; simp
  | n + 1, g => by
    unfold bndN
    split
    · simp
    · obtain ⟨h0, h1, h2⟩ := bndN_bd ps n (recAt ps g.toNat).1
      obtain ⟨h3, h4, h5⟩ := narV_bd (lo := (recAt ps g.toNat).2.1) (hi := (recAt ps g.toNat).2.2) h0 h1 h2
      exact ⟨by omega, h4, by omega⟩
theorem bnd_bd (ps : List GuildV) (g : Int) : 0 ≤ (bnd ps g).1 ∧ (bnd ps g).1 ≤ (bnd ps g).2 ∧ (bnd ps g).2 ≤ 1024 := bndN_bd ps _ g
theorem bndN_more {ps : List GuildV} (h : guildsB ps = true) : ∀ (n m : Nat) (g : Int), g < n → g < m → g < ps.length → bndN ps n g = bndN ps m g
  | 0, 0, g, _, _, _ => rfl
  | 0, m + 1, g, h1, h2, h3 => by unfold bndN; rw [if_pos (by omega)]
  | n + 1, 0, g, h1, h2, h3 => by unfold bndN; rw [if_pos (by omega)]
  | n + 1, m + 1, g, h1, h2, h3 => by
    unfold bndN
    by_cases h0 : g < 0
    · rw [if_pos h0, if_pos h0]
    · rw [if_neg h0, if_neg h0]
      obtain ⟨a0, a1, _⟩ := guildsB_at h (g := g) (by omega) h3
      rw [bndN_more h n m (recAt ps g.toNat).1 (by omega) (by omega) (by omega)]
theorem bnd_none (ps : List GuildV) {g : Int} (h : g < 0) : bnd ps g = (0, 1024) := by
  unfold bnd
  rw [show (g + 1).toNat = 0 by omega]; rfl
theorem bnd_step {ps : List GuildV} (h : guildsB ps = true) {g : Int} (h0 : 0 ≤ g) (h1 : g < ps.length) : bnd ps g = narV (bnd ps (recAt ps g.toNat).1) (recAt ps g.toNat).2.1 (recAt ps g.toNat).2.2 := by
  obtain ⟨a0, a1, _⟩ := guildsB_at h h0 h1
  unfold bnd
  rw [show (g + 1).toNat = g.toNat + 1 by omega]
  show (if g < 0 then (0, 1024) else _) = _
  rw [if_neg (by omega), bndN_more h g.toNat ((recAt ps g.toNat).1 + 1).toNat _ (by omega) (by omega) (by omega)]
def isB (ps : List GuildV) (g : Int) : Bool := guildsB ps && inB g (-1) ((ps.length : Int) - 1)
def withinV (ps : List GuildV) (g lo hi : Int) : Int × Int := if isB ps g && pairB lo hi then narV (bnd ps g) lo hi else (-1, -1)
theorem withinV_f {ps : List GuildV} {g lo hi : Int} (h : (isB ps g && pairB lo hi) = false) : withinV ps g lo hi = (-1, -1) := by unfold withinV; rw [h]; rfl
theorem withinV_t {ps : List GuildV} {g lo hi : Int} (h : isB ps g = true) (h' : pairB lo hi = true) : withinV ps g lo hi = narV (bnd ps g) lo hi := by unfold withinV; rw [h, h']; rfl
end Go.Proofs.YtnponpamjddpjabGreat

/- Contracts of chapter 8's functions and of their models: each returns what the plain lists say and writes into no memory that was there. Condition: the slices can be read, and what a theorem names. -/
namespace Go.Proofs.YtnponpamjddpjabGreat
open Go.ChangeShapes Go.WideShapes Go.ChangeAt Go.RowKit Go.Sort
set_option linter.unusedVariables false

theorem pairB_t {lo hi : Int} (h0 : 0 ≤ lo) (h1 : lo ≤ hi) (h2 : hi ≤ 1024) : pairB lo hi = true := by unfold pairB; rw [inB_t h0 (by omega), inB_t (by omega) h2]; simp; omega
theorem pairB_f {lo hi : Int} (h : lo < 0 ∨ hi < lo ∨ 1024 < hi) : pairB lo hi = false := by
  cases e : pairB lo hi
  · rfl
  · have := pairB_of e; omega

theorem areBounds_any (lo hi : Int) (w : World) : Calls Tryz.prog 172 #[.int .i64 lo, .int .i64 hi] w fun e w' => e = .returned (.bool (pairB lo hi)) ∧ w' = w := by
  by_cases h1 : 0 ≤ lo
  · by_cases h2 : lo ≤ hi
    · by_cases h3 : hi ≤ 1024
      all_goals
        go_enter Tryz.func172, Tryz.ntmps172
        go_wp2
        go_ret
        exact ⟨ret_bool (by first | exact (pairB_t h1 h2 h3).symm | exact (pairB_f (by omega)).symm), rfl⟩
    · go_enter Tryz.func172, Tryz.ntmps172
      go_wp2
      go_ret
      exact ⟨ret_bool (pairB_f (by omega)).symm, rfl⟩
  · go_enter Tryz.func172, Tryz.ntmps172
    go_wp2
    go_ret
    exact ⟨ret_bool (pairB_f (by omega)).symm, rfl⟩

theorem guildOk_any (a lo hi n : Int) (w : World) : Calls Tryz.prog 144 #[.agg #[.int .i64 a, .int .i64 lo, .int .i64 hi], .int .i64 n] w fun e w' => e = .returned (.bool (guildB (a, lo, hi) n)) ∧ Below w.heap.size w w' := by
  by_cases h1 : -1 ≤ a
  · by_cases h2 : a < n
    · have hg : guildB (a, lo, hi) n = pairB lo hi := by unfold guildB; rw [inB_t h1 (by omega)]; rfl
      rw [hg]; clear hg
      go_enter Tryz.func144, Tryz.ntmps144
      go_wp2_with (go_at_call 172; refine (areBounds_any _ _ _).mono ?_; rintro e w' ⟨rfl, rfl⟩)
      go_ret
      exact ⟨rfl, (Below.refl _ _).alloc (Nat.le_refl _) _⟩
    · have hg : guildB (a, lo, hi) n = false := by unfold guildB; rw [inB_f (.inr (by omega))]; rfl
      rw [hg]; clear hg
      go_enter Tryz.func144, Tryz.ntmps144
      go_wp2_with fail
      go_ret
      exact ⟨rfl, (Below.refl _ _).alloc (Nat.le_refl _) _⟩
  · have hg : guildB (a, lo, hi) n = false := by unfold guildB; rw [inB_f (.inl (by omega))]; rfl
    rw [hg]; clear hg
    go_enter Tryz.func144, Tryz.ntmps144
    go_wp2_with fail
    go_ret
    exact ⟨rfl, (Below.refl _ _).alloc (Nat.le_refl _) _⟩

set_option maxHeartbeats 2000000 in
theorem implGuildsOk_any {w : World} {v : Value} {ps : List GuildV} (h : IsGuilds w v ps) :
    Calls Tryz.prog 123 #[v] w fun e w' => e = .returned (.bool (guildsB ps)) ∧ Below w.heap.size w w' := by
  obtain ⟨a, cap, rfl, hc, hm, hr⟩ := h
  have Hr := hide hr
  clear hr
  by_cases hbig : 6 < ps.length
  · go_enter Tryz.func123, Tryz.ntmps123
    go_wp2_with fail
    go_ret
    exact ⟨ret_bool (guildsB_long hbig).symm, Below.refl _ _⟩
  go_enter Tryz.func123, Tryz.ntmps123
  go_wp2_with fail
  go_loopw [10] (fun i wr => ∃ k : Nat, k ≤ ps.length ∧ i = .int .i64 k ∧ upToB ps k = true ∧ Below w.heap.size w wr) (fun i _ => ps.length - (intOf i).toNat)
  case atStart => exact ⟨0, Nat.zero_le _, rfl, rfl, Below.refl _ _⟩
  case round =>
    obtain ⟨k, hk, rfl, hst, hb⟩ := hrel
    have Hst := hide hst
    have Hb := hide hb
    clear hst
    by_cases hlt : k < ps.length
    · rcases unhide Hr with h0 | ⟨b, off, rfl, hbw, hcl⟩
      · rw [h0] at hlt; simp at hlt
      have hbr : b < wr.heap.size := Nat.lt_of_lt_of_le hbw hb.size
      obtain ⟨c0, c1, c2⟩ := guild_cells hcl hlt
      rw [← hb.cell (p := ⟨b, off + k * 3, none⟩) hbw] at c0
      rw [← hb.cell (p := ⟨b, off + k * 3 + 1, none⟩) hbw] at c1
      rw [← hb.cell (p := ⟨b, off + k * 3 + 2, none⟩) hbw] at c2
      generalize hp : recAt ps k = p at c0 c1 c2
      have Hp := hide hp
      clear hp
      obtain ⟨x0, x1, x2⟩ := p
      simp only at c0 c1 c2
      have hsz := hb.size
      clear hcl hb
      go_wp2_with fail
      refine (guildOk_any _ _ _ _ _).mono ?_
      rintro e w1 ⟨rfl, hb1⟩
      have Hb1 := hide ((unhide Hb).trans (((Below.refl _ _).alloc hsz _).trans (hb1.mono (by simp; omega))))
      clear hb1
      cases hg : guildB (x0, x1, x2) k
      · go_wp2_with fail
        go_ret
        exact ⟨ret_bool (guildsB_f hlt (by rw [unhide Hp]; exact hg)).symm, unhide Hb1⟩
      · go_wp2_with fail
        go_roundw
        case rel => exact ⟨k + 1, by omega, by go_num, by rw [upToB_succ, unhide Hst, unhide Hp, hg]; rfl, unhide Hb1⟩
        case measure => simp [intOf]; omega
    · obtain rfl : k = ps.length := by omega
      go_wp2_with fail
      go_ret
      exact ⟨ret_bool (by unfold guildsB; rw [unhide Hst]; simp; omega), hb⟩

theorem narrowed_any (a lo hi l h : Int) (w : World) : Calls Tryz.prog 146 #[.agg #[.int .i64 a, .int .i64 lo, .int .i64 hi], .int .i64 l, .int .i64 h] w
    fun e w' => e = .returned (.tuple #[.int .i64 (narV (lo, hi) l h).1, .int .i64 (narV (lo, hi) l h).2]) ∧ Below w.heap.size w w' := by
  unfold narV
  go_enter Tryz.func146, Tryz.ntmps146
  go_wp2_with (go_at_call 111; refine (implClamped_any _ _ _ _).mono ?_; rintro e w' ⟨rfl, rfl⟩)
  go_ret2
  exact ⟨rfl, (Below.refl _ _).alloc (Nat.le_refl _) _⟩

set_option maxHeartbeats 1000000 in
theorem settled_any (a lo hi a' l h : Int) (w : World) : Calls Tryz.prog 173 #[.agg #[.int .i64 a, .int .i64 lo, .int .i64 hi, .int .i64 a', .int .i64 l, .int .i64 h]] w
    fun e w' => e = .returned (.agg #[.int .i64 a', .int .i64 (narV (lo, hi) l h).1, .int .i64 (narV (lo, hi) l h).2]) ∧ Below w.heap.size w w' := by
  go_enter Tryz.func173, Tryz.ntmps173
  go_wp2_with fail
  refine (narrowed_any _ _ _ _ _ _).mono ?_
  rintro e w1 ⟨rfl, hb1⟩
  have hz : w.heap.size + 1 < w1.heap.size := by have := hb1.size; simp at this; omega
  have Hb1 := hide hb1
  obtain ⟨hc, hf⟩ := bcell hb1
  clear hb1
  go_wp2_with fail
  exact bodyPost_ret (v := .agg #[.int .i64 a', .int .i64 (narV (lo, hi) l h).1, .int .i64 (narV (lo, hi) l h).2]) (by simp [results, Tryz.results173, go_sem, hc]) rfl
    ⟨rfl, ((((((Below.refl _ _).alloc (Nat.le_refl _) _).alloc (by simp) _).trans ((unhide Hb1).mono (by simp; omega))).setCell (by simp) _).setCell (by simp) _).setCell (by simp) _⟩

set_option maxRecDepth 100000 in
set_option maxHeartbeats 4000000 in
theorem settledAt_any {ps : List GuildV} (hg : guildsB ps = true) : ∀ (n : Nat) (g : Int) {w : World} {v : Value}, IsGuilds w v ps → -1 ≤ g → g < n → g < ps.length →
    Calls Tryz.prog 145 #[v, .int .i64 g] w fun e w' => ∃ x, e = .returned (.agg #[.int .i64 x, .int .i64 (bnd ps g).1, .int .i64 (bnd ps g).2]) ∧ Below w.heap.size w w' := by
  intro n
  induction n with
  | zero =>
    intro g w v h h0 h1 h2
    obtain rfl : g = -1 := by omega
    rw [bnd_none ps (by omega)]
    obtain ⟨a, cap, rfl, _⟩ := h
    go_enter Tryz.func145, Tryz.ntmps145
    go_wp2_with fail
    exact bodyPost_ret (v := .agg #[.int .i64 (-1), .int .i64 0, .int .i64 1024]) (by simp [results, Tryz.results145, go_sem]) rfl ⟨-1, rfl, (Below.refl _ _).alloc (Nat.le_refl _) _⟩
  | succ n ih =>
    intro g w v h h0 h1 h2
    by_cases hg0 : g = -1
    · subst hg0
      rw [bnd_none ps (by omega)]
      obtain ⟨a, cap, rfl, _⟩ := h
      go_enter Tryz.func145, Tryz.ntmps145
      go_wp2_with fail
      exact bodyPost_ret (v := .agg #[.int .i64 (-1), .int .i64 0, .int .i64 1024]) (by simp [results, Tryz.results145, go_sem]) rfl ⟨-1, rfl, (Below.refl _ _).alloc (Nat.le_refl _) _⟩
    · obtain ⟨k, rfl⟩ : ∃ k : Nat, g = k := ⟨g.toNat, by omega⟩
      have hlt : k < ps.length := by omega
      obtain ⟨a0, a1, _⟩ := guildsB_at hg (g := (k : Int)) (by omega) h2
      have hs := bnd_step hg (g := (k : Int)) (by omega) h2
      rw [show ((k : Int)).toNat = k by omega] at a0 a1 hs
      rw [hs]
      clear hs
      have Hi := hide h
      obtain ⟨a, cap, rfl, hc, hm, hr⟩ := h
      rcases hr with hz | ⟨b, off, rfl, hbw, hcl⟩
      · rw [hz] at hlt; simp at hlt
      obtain ⟨c0, c1, c2⟩ := guild_cells hcl hlt
      clear hcl
      generalize hW : w.alloc (.cells #[.int .i64 0, .int .i64 0, .int .i64 0] 82) = W
      have HB : Hid (Below w.heap.size w W) := hide (by rw [← hW]; exact (Below.refl _ _).alloc (Nat.le_refl _) _)
      have hsz : w.heap.size < W.heap.size := by rw [← hW]; simp
      have hbW : b < W.heap.size := by omega
      rw [← (unhide HB).cell (p := ⟨b, off + k * 3, none⟩) hbw] at c0
      rw [← (unhide HB).cell (p := ⟨b, off + k * 3 + 1, none⟩) hbw] at c1
      rw [← (unhide HB).cell (p := ⟨b, off + k * 3 + 2, none⟩) hbw] at c2
      have D : Hid ((∃ u, W.cell? ⟨w.heap.size, 0, none⟩ = some u) ∧ (∃ u, W.cell? ⟨w.heap.size, 1, none⟩ = some u) ∧ (∃ u, W.cell? ⟨w.heap.size, 2, none⟩ = some u) ∧ W.frozen? ⟨w.heap.size, 0, none⟩ = false ∧ W.frozen? ⟨w.heap.size, 1, none⟩ = false ∧ W.frozen? ⟨w.heap.size, 2, none⟩ = false) :=
        hide (by rw [← hW]; exact ⟨⟨_, by simp; rfl⟩, ⟨_, by simp; rfl⟩, ⟨_, by simp; rfl⟩, by simp, by simp, by simp⟩)
      have HW := hide hW
      clear hW
      have Hc := hide (And.intro c0 (And.intro c1 c2))
      generalize hp : recAt ps k = p at *
      obtain ⟨x0, x1, x2⟩ := p
      simp only at c0 c1 c2 a0 a1
      have ih' := fun (w : World) (v : Value) (h : IsGuilds w v ps) => ih x0 h a0 (by omega) (by omega)
      have Ih := hide ih'
      clear ih ih' hp
      go_enter Tryz.func145, Tryz.ntmps145
      go_wp2_with fail
      rw [unhide HW]
      go_region_with (first
        | (go_at_call 145; refine (unhide Ih _ _ ?_).mono ?_; (first | exact (unhide Hi).below (unhide HB) | exact ((unhide Hi).below (unhide HB)).below ((Below.refl _ _).drew)); rintro e w1 ⟨y, rfl, hb1⟩; have B1 : Hid (Below W.heap.size W w1) := hide (by first | exact hb1 | exact ((Below.refl _ _).drew).trans (hb1.mono (by simp))); have e0 := ((unhide B1).cell (p := ⟨b, off + k * 3, none⟩) hbW).trans (unhide Hc).1; have e1 := ((unhide B1).cell (p := ⟨b, off + k * 3 + 1, none⟩) hbW).trans (unhide Hc).2.1; have e2 := ((unhide B1).cell (p := ⟨b, off + k * 3 + 2, none⟩) hbW).trans (unhide Hc).2.2; clear hb1)
        | (go_at_call 173; refine (settled_any _ _ _ _ _ _ _).mono ?_; rintro e w2 ⟨rfl, hb2⟩; have B2 : Hid (Below W.heap.size W w2) := hide ((unhide B1).trans (hb2.mono (unhide B1).size)); obtain ⟨⟨u0, q0⟩, ⟨u1, q1⟩, ⟨u2, q2⟩, f0, f1, f2⟩ := unhide D; have d0 := ((unhide B2).cell (p := ⟨w.heap.size, 0, none⟩) hsz).trans q0; have d1 := ((unhide B2).cell (p := ⟨w.heap.size, 1, none⟩) hsz).trans q1; have d2 := ((unhide B2).cell (p := ⟨w.heap.size, 2, none⟩) hsz).trans q2; have z0 := ((unhide B2).frozen (p := ⟨w.heap.size, 0, none⟩) hsz).trans f0; have z1 := ((unhide B2).frozen (p := ⟨w.heap.size, 1, none⟩) hsz).trans f1; have z2 := ((unhide B2).frozen (p := ⟨w.heap.size, 2, none⟩) hsz).trans f2; clear hb2 q0 q1 q2 f0 f1 f2))
      all_goals
        go_wp2_with fail
        exact bodyPost_ret (v := .agg #[.int .i64 x0, .int .i64 (narV (bnd ps x0) x1 x2).1, .int .i64 (narV (bnd ps x0) x1 x2).2]) (by simp [results, Tryz.results145, go_sem, d0, d1, d2]) rfl
          ⟨x0, rfl, ((((unhide HB).trans ((unhide B2).mono (by omega))).setCell (Nat.le_refl _) _).setCell (Nat.le_refl _) _).setCell (Nat.le_refl _) _⟩

set_option maxHeartbeats 2000000 in
theorem implWithin_any {w : World} {v : Value} {ps : List GuildV} (g lo hi : Int) (h : IsGuilds w v ps) :
    Calls Tryz.prog 110 #[v, .int .i64 g, .int .i64 lo, .int .i64 hi] w fun e w' => e = .returned (.tuple #[.int .i64 (withinV ps g lo hi).1, .int .i64 (withinV ps g lo hi).2]) ∧ Below w.heap.size w w' := by
  have Hi := hide h
  obtain ⟨a, cap, rfl, hc, hm, hr⟩ := h
  clear hr
  generalize hW : w.alloc (.cells #[.int .i64 g, .int .i64 lo, .int .i64 hi] 82) = W
  have HB : Hid (Below w.heap.size w W) := hide (by rw [← hW]; exact (Below.refl _ _).alloc (Nat.le_refl _) _)
  have hsz : w.heap.size < W.heap.size := by rw [← hW]; simp
  have D : Hid (W.cell? ⟨w.heap.size, 0, none⟩ = some (.int .i64 g) ∧ W.cell? ⟨w.heap.size, 1, none⟩ = some (.int .i64 lo) ∧ W.cell? ⟨w.heap.size, 2, none⟩ = some (.int .i64 hi)) := hide (by rw [← hW]; simp)
  have HW := hide hW
  clear hW
  have hsv : (guildsB ps && guildB (g, lo, hi) ps.length) = (isB ps g && pairB lo hi) := by unfold guildB isB; rw [Bool.and_assoc]
  cases hG : guildsB ps
  · rw [withinV_f (by rw [← hsv, hG]; rfl)]
    clear hsv
    go_enter Tryz.func110, Tryz.ntmps110
    go_wp2_with fail
    rw [unhide HW]
    refine (implGuildsOk_any ((unhide Hi).below (unhide HB))).mono ?_
    rw [hG]
    rintro e w1 ⟨rfl, hb1⟩
    have B1 := hide ((unhide HB).trans (hb1.mono (by omega)))
    clear hb1
    go_wp2_with fail
    go_ret2
    exact ⟨rfl, unhide B1⟩
  · cases hQ : guildB (g, lo, hi) ps.length
    · rw [withinV_f (by rw [← hsv, hG, hQ]; rfl)]
      clear hsv
      go_enter Tryz.func110, Tryz.ntmps110
      go_wp2_with fail
      rw [unhide HW]
      refine (implGuildsOk_any ((unhide Hi).below (unhide HB))).mono ?_
      rw [hG]
      rintro e w1 ⟨rfl, hb1⟩
      have d0 := (hb1.cell (p := ⟨w.heap.size, 0, none⟩) hsz).trans (unhide D).1
      have d1 := (hb1.cell (p := ⟨w.heap.size, 1, none⟩) hsz).trans (unhide D).2.1
      have d2 := (hb1.cell (p := ⟨w.heap.size, 2, none⟩) hsz).trans (unhide D).2.2
      have B1 := hide ((unhide HB).trans (hb1.mono (by omega)))
      clear hb1
      go_wp2_with fail
      refine (guildOk_any _ _ _ _ _).mono ?_
      rw [hQ]
      rintro e w2 ⟨rfl, hb2⟩
      have B2 := hide ((unhide B1).trans (hb2.mono (unhide B1).size))
      clear hb2
      go_wp2_with fail
      go_ret2
      exact ⟨rfl, unhide B2⟩
    · obtain ⟨g0, g1, g2⟩ := guildB_of hQ
      have hisB : isB ps g = true := by unfold isB; rw [hG, inB_t g0 (by simpa using g1)]; rfl
      rw [withinV_t hisB g2]
      clear hsv hisB
      have hlt : g < ps.length := by simp only at g1; omega
      simp only at g0
      go_enter Tryz.func110, Tryz.ntmps110
      go_wp2_with fail
      rw [unhide HW]
      refine (implGuildsOk_any ((unhide Hi).below (unhide HB))).mono ?_
      rw [hG]
      rintro e w1 ⟨rfl, hb1⟩
      have d0 := (hb1.cell (p := ⟨w.heap.size, 0, none⟩) hsz).trans (unhide D).1
      have d1 := (hb1.cell (p := ⟨w.heap.size, 1, none⟩) hsz).trans (unhide D).2.1
      have d2 := (hb1.cell (p := ⟨w.heap.size, 2, none⟩) hsz).trans (unhide D).2.2
      have B1 := hide ((unhide HB).trans (hb1.mono (by omega)))
      clear hb1
      go_wp2_with fail
      refine (guildOk_any _ _ _ _ _).mono ?_
      rw [hQ]
      rintro e w2 ⟨rfl, hb2⟩
      have B2 := hide ((unhide B1).trans (hb2.mono (unhide B1).size))
      clear hb2
      go_wp2_with fail
      refine (settledAt_any hG (g + 1).toNat g ((unhide Hi).below (unhide B2)) g0 (by omega) hlt).mono ?_
      rintro e w3 ⟨x, rfl, hb3⟩
      have B3 := hide ((unhide B2).trans (hb3.mono (unhide B2).size))
      clear hb3
      go_wp2_with fail
      refine (narrowed_any _ _ _ _ _ _).mono ?_
      rintro e w4 ⟨rfl, hb4⟩
      have B4 := hide ((unhide B3).trans (hb4.mono (unhide B3).size))
      clear hb4
      go_wp2_with fail
      go_ret2
      exact ⟨rfl, unhide B4⟩

end Go.Proofs.YtnponpamjddpjabGreat

/- Contracts of chapter 8's models: each returns what the plain lists say and writes into no memory that was there. Condition: the slices can be read, and what a theorem names. -/
namespace Go.Proofs.YtnponpamjddpjabGreat
open Go.ChangeShapes Go.WideShapes Go.ChangeAt Go.RowKit Go.Sort
set_option linter.unusedVariables false

theorem drewN_below {B : Nat} {w w' : World} (h : Below B w w') (n : Nat) : Below B w (w'.drewN n) := ⟨h.os, h.tape, h.output, h.size, h.block⟩

theorem guildForce_any (x : Int) (w : World) : Calls Tryz.prog 118 #[.int .i64 x] w fun e w' => e = .returned (.bool (inB x 0 1024)) ∧ w' = w := by
  go_enter Tryz.func118, Tryz.ntmps118
  go_wp2_with (go_at_call 52; refine (l1In_any _ _ _ _).mono ?_; rintro e w' ⟨rfl, rfl⟩)
  go_ret
  exact ⟨rfl, rfl⟩

theorem l8Pair_any (lo hi : Int) (w : World) : Calls Tryz.prog 114 #[.int .i64 lo, .int .i64 hi] w fun e w' => e = .returned (.bool (pairB lo hi)) ∧ w' = w := by
  cases h1 : inB lo 0 1024
  · have hp : pairB lo hi = false := by unfold pairB; rw [h1]; rfl
    rw [hp]; clear hp
    go_enter Tryz.func114, Tryz.ntmps114
    go_wp2_with (go_at_call 118; refine (guildForce_any _ _).mono ?_; rintro e w' ⟨rfl, rfl⟩)
    go_ret
    exact ⟨rfl, rfl⟩
  · cases h2 : inB hi 0 1024
    · have hp : pairB lo hi = false := by unfold pairB; rw [h1, h2]; rfl
      rw [hp]; clear hp
      go_enter Tryz.func114, Tryz.ntmps114
      go_wp2_with (go_at_call 118; refine (guildForce_any _ _).mono ?_; rintro e w' ⟨rfl, rfl⟩)
      go_ret
      exact ⟨rfl, rfl⟩
    · have hp : pairB lo hi = decide (lo ≤ hi) := by unfold pairB; rw [h1, h2]; rfl
      rw [hp]; clear hp
      by_cases h3 : lo ≤ hi
      all_goals
        go_enter Tryz.func114, Tryz.ntmps114
        go_wp2_with (go_at_call 118; refine (guildForce_any _ _).mono ?_; rintro e w' ⟨rfl, rfl⟩)
        go_ret
        exact ⟨ret_bool (by first | (simp; done) | (simp; omega)), rfl⟩

set_option maxHeartbeats 2000000 in
theorem specGuildsOk_any {w : World} {v : Value} {ps : List GuildV} (h : IsGuilds w v ps) :
    Calls Tryz.prog 85 #[v] w fun e w' => e = .returned (.bool (guildsB ps)) ∧ Below w.heap.size w w' := by
  obtain ⟨a, cap, rfl, hc, hm, hr⟩ := h
  have Hr := hide hr
  clear hr
  go_enter Tryz.func85, Tryz.ntmps85
  go_wp2_with fail
  go_loopw [3] (fun i wr => ∃ k : Nat, k ≤ ps.length ∧ i = .int .i64 k ∧ upToB ps k = true ∧ Below w.heap.size w wr) (fun i _ => ps.length - (intOf i).toNat)
  case atStart => exact ⟨0, Nat.zero_le _, rfl, rfl, Below.refl _ _⟩
  case round =>
    obtain ⟨k, hk, rfl, hst, hb⟩ := hrel
    have Hst := hide hst
    have Hb := hide hb
    clear hst
    by_cases hlt : k < ps.length
    · rcases unhide Hr with h0 | ⟨b, off, rfl, hbw, hcl⟩
      · rw [h0] at hlt; simp at hlt
      obtain ⟨c0, c1, c2⟩ := guild_cells hcl hlt
      rw [← hb.cell (p := ⟨b, off + k * 3, none⟩) hbw] at c0
      rw [← hb.cell (p := ⟨b, off + k * 3 + 1, none⟩) hbw] at c1
      rw [← hb.cell (p := ⟨b, off + k * 3 + 2, none⟩) hbw] at c2
      generalize hp : recAt ps k = p at c0 c1 c2
      have Hp := hide hp
      clear hp
      obtain ⟨x0, x1, x2⟩ := p
      simp only at c0 c1 c2
      clear hcl hb
      have hg : guildB (x0, x1, x2) k = (inB x0 (-1) ((k : Int) - 1) && pairB x1 x2) := rfl
      have Hg := hide hg
      clear hg
      cases h1 : inB x0 (-1) ((k : Int) - 1)
      · go_wp2_with fail
        go_quiet (first | exact Calls.quiet_of_same (l1In_any _ _ _ _) | exact Calls.quiet_of_same (l8Pair_any _ _ _))
        go_wp2_with fail
        go_ret
        exact ⟨ret_bool (guildsB_f hlt (by rw [unhide Hp, unhide Hg, h1]; rfl)).symm, drewN_below (unhide Hb) _⟩
      cases h2 : pairB x1 x2
      · go_wp2_with fail
        go_quiet (first | exact Calls.quiet_of_same (l1In_any _ _ _ _) | exact Calls.quiet_of_same (l8Pair_any _ _ _))
        go_wp2_with fail
        go_ret
        exact ⟨ret_bool (guildsB_f hlt (by rw [unhide Hp, unhide Hg, h1, h2]; rfl)).symm, drewN_below (unhide Hb) _⟩
      · go_wp2_with fail
        go_quiet (first | exact Calls.quiet_of_same (l1In_any _ _ _ _) | exact Calls.quiet_of_same (l8Pair_any _ _ _))
        go_wp2_with fail
        go_roundw
        case rel => exact ⟨k + 1, by omega, by go_num, by rw [upToB_succ, unhide Hst, unhide Hp, unhide Hg, h1, h2]; rfl, drewN_below (unhide Hb) _⟩
        case measure => simp [intOf]; omega
    · obtain rfl : k = ps.length := by omega
      by_cases hbig : ps.length ≤ 6
      all_goals
        go_wp2_with fail
        go_ret
        exact ⟨ret_bool (by unfold guildsB; rw [unhide Hst]; simp; omega), hb⟩

set_option maxHeartbeats 2000000 in
theorem l8Within_of {ps : List GuildV} (g : Int) (lo hi : Int) {w : World} {v : Value} (h : IsGuilds w v ps)
    (hB : Calls Tryz.prog 150 #[v, .int .i64 g] w fun e w' => e = .returned (.tuple #[.int .i64 (bnd ps g).1, .int .i64 (bnd ps g).2]) ∧ Below w.heap.size w w') :
    Calls Tryz.prog 120 #[v, .int .i64 g, .int .i64 lo, .int .i64 hi] w fun e w' => e = .returned (.tuple #[.int .i64 (narV (bnd ps g) lo hi).1, .int .i64 (narV (bnd ps g) lo hi).2]) ∧ Below w.heap.size w w' := by
  have HB := hide hB
  clear hB
  obtain ⟨a, cap, rfl, _⟩ := h
  unfold narV
  go_enter Tryz.func120, Tryz.ntmps120
  go_wp2_with fail
  refine (unhide HB).mono ?_
  rintro e w1 ⟨rfl, hb1⟩
  go_wp2_with (go_at_call 121; refine (specClamped_any _ _ _ _).mono ?_; rintro e w' ⟨rfl, rfl⟩)
  go_ret2
  exact ⟨rfl, hb1⟩

set_option maxRecDepth 100000 in
set_option maxHeartbeats 4000000 in
theorem l8Bounds_any {ps : List GuildV} (hg : guildsB ps = true) : ∀ (n : Nat) (g : Int) {w : World} {v : Value}, IsGuilds w v ps → -1 ≤ g → g < n → g < ps.length →
    Calls Tryz.prog 150 #[v, .int .i64 g] w fun e w' => e = .returned (.tuple #[.int .i64 (bnd ps g).1, .int .i64 (bnd ps g).2]) ∧ Below w.heap.size w w' := by
  intro n
  induction n with
  | zero =>
    intro g w v h h0 h1 h2
    obtain rfl : g = -1 := by omega
    rw [bnd_none ps (by omega)]
    obtain ⟨a, cap, rfl, _⟩ := h
    go_enter Tryz.func150, Tryz.ntmps150
    go_wp2_with fail
    go_ret2
    exact ⟨rfl, Below.refl _ _⟩
  | succ n ih =>
    intro g w v h h0 h1 h2
    by_cases hg0 : g < 0
    · obtain rfl : g = -1 := by omega
      rw [bnd_none ps (by omega)]
      obtain ⟨a, cap, rfl, _⟩ := h
      go_enter Tryz.func150, Tryz.ntmps150
      go_wp2_with fail
      go_ret2
      exact ⟨rfl, Below.refl _ _⟩
    · obtain ⟨k, rfl⟩ : ∃ k : Nat, g = k := ⟨g.toNat, by omega⟩
      have hlt : k < ps.length := by omega
      obtain ⟨a0, a1, _⟩ := guildsB_at hg (g := (k : Int)) (by omega) h2
      have hs := bnd_step hg (g := (k : Int)) (by omega) h2
      rw [show ((k : Int)).toNat = k by omega] at a0 a1 hs
      rw [hs]
      clear hs
      have Hi := hide h
      obtain ⟨a, cap, rfl, hc, hm, hr⟩ := h
      rcases hr with hz | ⟨b, off, rfl, hbw, hcl⟩
      · rw [hz] at hlt; simp at hlt
      obtain ⟨c0, c1, c2⟩ := guild_cells hcl hlt
      clear hcl
      generalize hp : recAt ps k = p at *
      obtain ⟨x0, x1, x2⟩ := p
      simp only at c0 c1 c2 a0 a1
      have k0 := cell_regrown c0
      have k1 := cell_regrown c1
      have k2 := cell_regrown c2
      have ih' := fun (w' : World) (h : IsGuilds w' (.slice (some ⟨b, off, none⟩) ps.length cap) ps) => l8Within_of x0 x1 x2 h (ih x0 h a0 (by omega) (by omega))
      have Ih := hide ih'
      clear ih ih' hp
      go_enter Tryz.func150, Tryz.ntmps150
      go_wp2_with fail
      refine wp_region_quiet_below (by kernel_rfl) (by kernel_rfl) ?_
      repeat (go_big_quiet_step (exact Calls.regrown_of (unhide Ih _ ((unhide Hi).below (below_regrown _ _ _)))))
      refine wpQuiet_nil ?_
      intro _ hw'
      obtain ⟨⟨dq, osq⟩, hw''⟩ := hw'
      subst hw''
      go_wp2_with fail
      go_ret2
      exact ⟨rfl, below_regrown _ _ _⟩

end Go.Proofs.YtnponpamjddpjabGreat

/- Smiths as eleven plain numbers: which are right, which are gone, what they are when charged and with another rank. Numbers alone; no condition but those that a theorem names. -/
namespace Go.Proofs.YtnponpamjddpjabGreat
open Go.ChangeShapes Go.WideShapes Go.ChangeAt Go.RowKit Go.Sort
set_option linter.unusedVariables false

/-- Each number is within its limits. -/
def presB (x : SmithV) : Bool :=
  inB x.1 1 3 && (inB x.2.1 0 7 && (inB x.2.2.1 (-5) 5 && (inB x.2.2.2.1 1 255 && (inB x.2.2.2.2.1 (-1) 5 && (pairB x.2.2.2.2.2.1 x.2.2.2.2.2.2.1 && (inB x.2.2.2.2.2.2.2.1 (-1000000000000) 1000000000000 &&
    (inB x.2.2.2.2.2.2.2.2.1 0 (weightV x.2.2.1 - 1) && (inB x.2.2.2.2.2.2.2.2.2.1 0 1024 && inB x.2.2.2.2.2.2.2.2.2.2 0 100000000000))))))))
/-- All are zero. -/
def zeroS : SmithV := (0, 0, 0, 0, 0, 0, 0, 0, 0, 0, 0)
/-- Number by number alike. -/
def sameB (x y : SmithV) : Bool := x.1 == y.1 && (x.2.1 == y.2.1 && (x.2.2.1 == y.2.2.1 && (x.2.2.2.1 == y.2.2.2.1 && (x.2.2.2.2.1 == y.2.2.2.2.1 && (x.2.2.2.2.2.1 == y.2.2.2.2.2.1 && (x.2.2.2.2.2.2.1 == y.2.2.2.2.2.2.1 && (x.2.2.2.2.2.2.2.1 == y.2.2.2.2.2.2.2.1 && (x.2.2.2.2.2.2.2.2.1 == y.2.2.2.2.2.2.2.2.1 && (x.2.2.2.2.2.2.2.2.2.1 == y.2.2.2.2.2.2.2.2.2.1 && (x.2.2.2.2.2.2.2.2.2.2 == y.2.2.2.2.2.2.2.2.2.2))))))))))
theorem sameB_refl (x : SmithV) : sameB x x = true := by unfold sameB; simp
theorem sameB_of {x y : SmithV} (h : sameB x y = true) : x = y := by
  obtain ⟨x0, x1, x2, x3, x4, x5, x6, x7, x8, x9, x10⟩ := x
  obtain ⟨y0, y1, y2, y3, y4, y5, y6, y7, y8, y9, y10⟩ := y
  unfold sameB at h
  simp only [Bool.and_eq_true, beq_iff_eq] at h
  obtain ⟨rfl, rfl, rfl, rfl, rfl, rfl, rfl, rfl, rfl, rfl, rfl⟩ := h
  rfl
def goneB (x : SmithV) : Bool := sameB x zeroS
def smithB (x : SmithV) : Bool := goneB x || presB x
theorem weight_in (r : Int) : 0 ≤ weightV r ∧ weightV r ≤ 3125 := by
  cases h : inB r (-5) 5
  · rw [weightV_none h]; omega
  · rcases ranks h with rfl | rfl | rfl | rfl | rfl | rfl | rfl | rfl | rfl | rfl | rfl <;> decide
theorem presB_of {st be rk my gu lo hi hd ca ut wk : Int} (h : presB (st, be, rk, my, gu, lo, hi, hd, ca, ut, wk) = true) : (1 ≤ st ∧ st ≤ 3) ∧ (0 ≤ be ∧ be ≤ 7) ∧ inB rk (-5) 5 = true ∧ (1 ≤ my ∧ my ≤ 255) ∧ (-1 ≤ gu ∧ gu ≤ 5) ∧ pairB lo hi = true ∧ (-1000000000000 ≤ hd ∧ hd ≤ 1000000000000) ∧ (0 ≤ ca ∧ ca ≤ weightV rk - 1) ∧ (0 ≤ ut ∧ ut ≤ 1024) ∧ (0 ≤ wk ∧ wk ≤ 100000000000) := by
  unfold presB at h
  simp only [Bool.and_eq_true] at h
  obtain ⟨h0, h1, h2, h3, h4, h5, h6, h7, h8, h9⟩ := h
  exact ⟨inB_of h0, inB_of h1, h2, inB_of h3, inB_of h4, h5, inB_of h6, inB_of h7, inB_of h8, inB_of h9⟩
theorem goneB_of {x : SmithV} (h : goneB x = true) : x = zeroS := sameB_of h
theorem goneB_zero : goneB zeroS = true := sameB_refl _
theorem goneB_st {x : SmithV} (h : x.1 ≠ 0) : goneB x = false := by
  cases hg : goneB x
  · rfl
  · exact absurd (show x.1 = 0 by rw [goneB_of hg]; rfl) h
theorem presB_st {x : SmithV} (h : x.1 = 0) : presB x = false := by
  unfold presB
  rw [h]
  rfl
end Go.Proofs.YtnponpamjddpjabGreat

/- Contracts of chapter 2's small functions and of their models: whether a number is a set, and whether a bench is in it. No condition but those that a theorem names. -/
namespace Go.Proofs.YtnponpamjddpjabGreat
open Go.ChangeShapes Go.WideShapes Go.ChangeAt Go.RowKit
set_option linter.unusedVariables false

theorem implSetOk_any (s : Int) (w : World) : Calls Tryz.prog 132 #[.int .i64 s] w fun e w' => e = .returned (.bool (inB s 0 255)) ∧ w' = w := by
  by_cases h1 : 0 ≤ s
  · by_cases h2 : s ≤ 255
    all_goals
      go_enter Tryz.func132, Tryz.ntmps132
      go_wp2
      go_ret
      exact ⟨ret_bool (by first | exact (inB_t h1 h2).symm | exact (inB_f (by omega)).symm), rfl⟩
  · go_enter Tryz.func132, Tryz.ntmps132
    go_wp2
    go_ret
    exact ⟨ret_bool (inB_f (by omega)).symm, rfl⟩

theorem isBench_any (i : Int) (w : World) : Calls Tryz.prog 133 #[.int .i64 i] w fun e w' => e = .returned (.bool (inB i 0 7)) ∧ w' = w := by
  by_cases h1 : 0 ≤ i
  · by_cases h2 : i < 8
    all_goals
      go_enter Tryz.func133, Tryz.ntmps133
      go_wp2
      go_ret
      exact ⟨ret_bool (by first | exact (inB_t h1 (by omega)).symm | exact (inB_f (by omega)).symm), rfl⟩
  · go_enter Tryz.func133, Tryz.ntmps133
    go_wp2
    go_ret
    exact ⟨ret_bool (inB_f (by omega)).symm, rfl⟩

/-- Whether the bit i of s is set. -/
def bitB (s i : Int) : Bool := decide (s / 2 ^ i.toNat % 2 = 1)
/-- Whether the bench i is in the set s. -/
def memB (s i : Int) : Bool := inB s 0 255 && inB i 0 7 && bitB s i

theorem i64_and1 (n : Int) : bits .and .i64 n 1 = n % 2 := by
  have h1 : (BitVec.ofInt 64 1).toNat = 2 ^ 1 - 1 := by decide
  have key : (BitVec.ofInt 64 n &&& BitVec.ofInt 64 1).toNat = (n % ((2 ^ 64 : Nat) : Int)).toNat % 2 ^ 1 := by
    rw [BitVec.toNat_and, BitVec.toNat_ofInt, h1, Nat.and_two_pow_sub_one_eq_mod]
  show IntKind.i64.wrap ((BitVec.ofInt 64 n &&& BitVec.ofInt 64 1).toNat : Nat) = n % 2
  rw [key, IntKind.wrap_i64]
  omega
theorem bit_eq (s i : Int) : (bits .and .i64 (s / 2 ^ i.toNat) 1 == 1) = bitB s i := by rw [i64_and1]; unfold bitB; rfl
theorem memB_f {s i : Int} (h : inB s 0 255 = false ∨ inB i 0 7 = false) : memB s i = false := by unfold memB; rcases h with h | h <;> simp [h]
theorem memB_t {s i : Int} (hs : inB s 0 255 = true) (hi : inB i 0 7 = true) : memB s i = bitB s i := by unfold memB; simp [hs, hi]

theorem l2Has_any (s i : Int) (w : World) (hs : 0 ≤ s) (hs2 : s ≤ 255) (hi : 0 ≤ i) (hi2 : i ≤ 7) : Calls Tryz.prog 88 #[.int .i64 s, .int .i64 i] w fun e w' => e = .returned (.bool (bitB s i)) ∧ w' = w := by
  go_enter Tryz.func88, Tryz.ntmps88
  go_wp2
  go_ret
  exact ⟨ret_bool (bit_eq s i), rfl⟩

theorem implInSet_any (s i : Int) (w : World) : Calls Tryz.prog 99 #[.int .i64 s, .int .i64 i] w fun e w' => e = .returned (.bool (memB s i)) ∧ w' = w := by
  by_cases hb : inB s 0 255 = true
  · obtain ⟨hs, hs2⟩ := inB_of hb
    by_cases hc : inB i 0 7 = true
    · obtain ⟨hi, hi2⟩ := inB_of hc
      go_enter Tryz.func99, Tryz.ntmps99
      go_wp2_with (first | (go_at_call 132; refine (implSetOk_any _ _).mono ?_; rintro e w' ⟨rfl, rfl⟩) | (go_at_call 133; refine (isBench_any _ _).mono ?_; rintro e w' ⟨rfl, rfl⟩))
      go_ret
      exact ⟨ret_bool ((bit_eq s i).trans (memB_t hb hc).symm), rfl⟩
    · have hc' : inB i 0 7 = false := by simpa using hc
      go_enter Tryz.func99, Tryz.ntmps99
      go_wp2_with (first | (go_at_call 132; refine (implSetOk_any _ _).mono ?_; rintro e w' ⟨rfl, rfl⟩) | (go_at_call 133; refine (isBench_any _ _).mono ?_; rintro e w' ⟨rfl, rfl⟩))
      go_ret
      exact ⟨ret_bool (memB_f (.inr hc')).symm, rfl⟩
  · have hb' : inB s 0 255 = false := by simpa using hb
    go_enter Tryz.func99, Tryz.ntmps99
    go_wp2_with (first | (go_at_call 132; refine (implSetOk_any _ _).mono ?_; rintro e w' ⟨rfl, rfl⟩) | (go_at_call 133; refine (isBench_any _ _).mono ?_; rintro e w' ⟨rfl, rfl⟩))
    go_ret
    exact ⟨ret_bool (memB_f (.inl hb')).symm, rfl⟩

end Go.Proofs.YtnponpamjddpjabGreat

/- Smithies as plain lists: which are right. Lists and numbers alone; no condition but those that a theorem names. -/
namespace Go.Proofs.YtnponpamjddpjabGreat
open Go.ChangeShapes Go.WideShapes Go.ChangeAt Go.RowKit Go.Sort
set_option linter.unusedVariables false

/-- Who waits or works. -/
def presS (s : SmithV) : Bool := s.1 == 2 || s.1 == 3
def bandB (had mark : Int) : Bool := inB had (-1000000000000) 1000000000000 && (inB mark (-1000000000000) 1000000000000 && inB (had - mark) (-20000) 63000)
def deskB (d : DeskV) : Bool := inB d.2.2 (-900000000000) 900000000000
def paceInB (m : SmyV) (j : Nat) : Bool := inB (recAt m.paces j) 0 (((roomAt m.rooms j).2.length : Int) - 1)
/-- A right smith whose guild and bench are there. -/
def hereB (m : SmyV) (s : SmithV) : Bool := smithB s && (s.1 == 0 || (decide (s.2.2.2.2.1 < m.guilds.length) && decide (s.2.1 < m.desks.length)))
/-- Who waits or works is at an open bench that is in its May, and in the band. -/
def seatB (m : SmyV) (s : SmithV) : Bool := !presS s || ((recAt m.desks s.2.1.toNat).1 && (bitB s.2.2.2.1 s.2.1 && bandB s.2.2.2.2.2.2.2.1 (recAt m.desks s.2.1.toNat).2.2))
def headB (m : SmyV) : Bool := hallB m.rooms && (guildsB m.guilds && (decide (m.smiths.length ≤ 12) && (decide ((m.desks.length : Int) = benchSum m.rooms) && (decide (m.paces.length = m.rooms.length) && inB m.now 0 1000000))))
def upDesks (m : SmyV) (k : Nat) : Bool := (List.range k).all fun j => deskB (recAt m.desks j)
def upOpen (m : SmyV) (k : Nat) : Bool := (List.range k).any fun j => (recAt m.desks j).1
def upPaces (m : SmyV) (k : Nat) : Bool := (List.range k).all fun j => paceInB m j
def upSmiths (m : SmyV) (k : Nat) : Bool := (List.range k).all fun j => hereB m (recAt m.smiths j) && seatB m (recAt m.smiths j)
/-- Right, but for who works. -/
def looseB (m : SmyV) : Bool := headB m && (upDesks m m.desks.length && (upPaces m m.paces.length && (upSmiths m m.smiths.length && upOpen m m.desks.length)))

theorem all_up {p : Nat → Bool} (k : Nat) : (List.range (k + 1)).all p = ((List.range k).all p && p k) := by rw [List.range_succ, List.all_append]; simp
theorem any_up {p : Nat → Bool} (k : Nat) : (List.range (k + 1)).any p = ((List.range k).any p || p k) := by rw [List.range_succ, List.any_append]; simp
theorem all_no {p : Nat → Bool} {k n : Nat} (hk : k < n) (h : p k = false) : (List.range n).all p = false := by
  rw [List.all_eq_false]
  exact ⟨k, List.mem_range.2 hk, by simp [h]⟩
theorem all_at {p : Nat → Bool} {k n : Nat} (h : (List.range n).all p = true) (hk : k < n) : p k = true := List.all_eq_true.1 h k (List.mem_range.2 hk)
theorem looseB_head {m : SmyV} (h : headB m = false) : looseB m = false := by unfold looseB; rw [h]; rfl
theorem looseB_desk {m : SmyV} {k : Nat} (hk : k < m.desks.length) (h : deskB (recAt m.desks k) = false) : looseB m = false := by
  unfold looseB upDesks
  rw [all_no hk h]; simp
theorem looseB_pace {m : SmyV} {k : Nat} (hk : k < m.paces.length) (h : paceInB m k = false) : looseB m = false := by
  unfold looseB upPaces
  rw [all_no (p := fun j => paceInB m j) hk h]; simp
theorem looseB_smith {m : SmyV} {k : Nat} (hk : k < m.smiths.length) (h : (hereB m (recAt m.smiths k) && seatB m (recAt m.smiths k)) = false) : looseB m = false := by
  unfold looseB upSmiths
  rw [all_no (p := fun j => hereB m (recAt m.smiths j) && seatB m (recAt m.smiths j)) hk h]; simp
theorem looseB_all {m : SmyV} (h1 : headB m = true) (h2 : upDesks m m.desks.length = true) (h3 : upPaces m m.paces.length = true) (h4 : upSmiths m m.smiths.length = true) : looseB m = upOpen m m.desks.length := by
  unfold looseB; rw [h1, h2, h3, h4]; rfl
theorem hereB_of {m : SmyV} {s : SmithV} (h : hereB m s = true) (hp : presS s = true) : 0 ≤ s.2.1 ∧ s.2.1 < m.desks.length ∧ s.2.1 ≤ 7 ∧ 1 ≤ s.2.2.2.1 ∧ s.2.2.2.1 ≤ 255 ∧ s.2.2.2.2.1 < m.guilds.length := by
  obtain ⟨st, be, rk, my, gu, lo, hi, hd, ca, ut, wk⟩ := s
  have hst : st ≠ 0 := by
    intro e
    subst e
    cases hp
  unfold hereB at h
  simp only [Bool.and_eq_true, Bool.or_eq_true, decide_eq_true_eq] at h
  obtain ⟨h1, h2⟩ := h
  rcases h2 with h2 | ⟨h2, h3⟩
  · exact absurd (by simpa using h2) hst
  · have hs : smithB (st, be, rk, my, gu, lo, hi, hd, ca, ut, wk) = presB (st, be, rk, my, gu, lo, hi, hd, ca, ut, wk) := by unfold smithB; rw [goneB_st hst, Bool.false_or]
    rw [hs] at h1
    obtain ⟨_, ⟨b0, b1⟩, _, ⟨m0, m1⟩, _⟩ := presB_of h1
    exact ⟨b0, h3, b1, m0, m1, h2⟩

/-- Of the first k smiths: who works at b (-1: nobody), and whether one waits there; none where two work. -/
def scanV (ss : List SmithV) (b : Int) : Nat → Option (Int × Bool)
  | 0 => some (-1, false)
  | k + 1 => match scanV ss b k with
    | none => none
    | some (wk, wt) => if (recAt ss k).2.1 = b ∧ presS (recAt ss k) = true then (if (recAt ss k).1 = 2 then some (wk, true) else if 0 ≤ wk then none else some ((k : Int), wt)) else some (wk, wt)
def benchOkB (m : SmyV) (b : Nat) : Bool := match scanV m.smiths b m.smiths.length with
  | none => false
  | some (wk, wt) => (recAt m.desks b).2.1 == wk && !(wt && decide (wk < 0))
def smyB (m : SmyV) : Bool := looseB m && (List.range m.desks.length).all (benchOkB m)

end Go.Proofs.YtnponpamjddpjabGreat

/- Heaps and queues of pairs of numbers, as lists: the order, what a heap is and how it is mended, what queues are, how one is put in and taken out. Nothing of the program. -/
namespace Go.Proofs.YtnponpamjddpjabGreat
set_option linter.unusedVariables false

/-! ### The order of entries -/
/-- By Had, then by Who. -/
def ltB (a b : PaceV) : Bool := decide (a.1 < b.1 ∨ (a.1 = b.1 ∧ a.2 < b.2))
theorem paceAt_take {ps : List PaceV} {n k : Nat} (h : k < n) : paceAt (ps.take n) k = paceAt ps k := by unfold paceAt; simp [List.getD, h]
theorem paceAt_mem {ps : List PaceV} {k : Nat} (h : k < ps.length) : paceAt ps k ∈ ps := by unfold paceAt; simp [List.getD, h]
/-- How many are less, ahead of the first that isn't. -/
def lessN (e : PaceV) : List PaceV → Nat
  | [] => 0
  | p :: ps => if ltB p e then lessN e ps + 1 else 0
def putV (ps : List PaceV) (e : PaceV) : List PaceV := ps.take (lessN e ps) ++ e :: ps.drop (lessN e ps)
theorem lessN_le (e : PaceV) : ∀ ps : List PaceV, lessN e ps ≤ ps.length
  | [] => Nat.le_refl _
  | p :: ps => by have := lessN_le e ps; unfold lessN; split <;> simp <;> omega
theorem lessN_lt (e : PaceV) : ∀ (ps : List PaceV) (k : Nat), k < lessN e ps → ltB (paceAt ps k) e = true
  | [], k, h => by simp [lessN] at h
  | p :: ps, k, h => by
    unfold lessN at h
    split at h
    · cases k with
      | zero => simpa [paceAt] using ‹ltB p e = true›
      | succ k =>
        have := lessN_lt e ps k (by omega)
        simpa [paceAt] using this
    · omega
theorem lessN_at (e : PaceV) : ∀ (ps : List PaceV), lessN e ps < ps.length → ltB (paceAt ps (lessN e ps)) e = false
  | [], h => by simp at h
  | p :: ps, h => by
    unfold lessN at h ⊢
    by_cases hp : ltB p e = true
    · rw [if_pos hp] at h ⊢
      have := lessN_at e ps (by simpa using h)
      simpa [paceAt] using this
    · rw [if_neg hp] at h ⊢
      simpa [paceAt] using hp
theorem lessN_eq {e : PaceV} {ps : List PaceV} {k : Nat} (hk : k ≤ ps.length) (h : ∀ j, j < k → ltB (paceAt ps j) e = true) (hn : k = ps.length ∨ ltB (paceAt ps k) e = false) : lessN e ps = k := by
  rcases Nat.lt_trichotomy (lessN e ps) k with h1 | h1 | h1
  · have h2 := lessN_at e ps (by omega)
    rw [h _ h1] at h2; cases h2
  · exact h1
  · rcases hn with hn | hn
    · have := lessN_le e ps; omega
    · have := lessN_lt e ps k h1
      rw [hn] at this; cases this
theorem putV_perm (ps : List PaceV) (e : PaceV) : (putV ps e).Perm (ps ++ [e]) := by
  unfold putV
  have h1 : (ps.take (lessN e ps) ++ e :: ps.drop (lessN e ps)).Perm (e :: (ps.take (lessN e ps) ++ ps.drop (lessN e ps))) := List.perm_middle
  rw [List.take_append_drop] at h1
  exact h1.trans (List.perm_append_comm (l₁ := [e]) (l₂ := ps))
theorem putV_len (ps : List PaceV) (e : PaceV) : (putV ps e).length = ps.length + 1 := by have := (putV_perm ps e).length_eq; simpa using this
end Go.Proofs.YtnponpamjddpjabGreat

