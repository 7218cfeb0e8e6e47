/- What the proof rests on, part 16: lists and numbers, how they lie in memory, and contracts of the calls. No condition but those that a theorem names. -/
import Derived.Test.YtmhagllddhjgmaaGreatXw01
import Derived.Test.YtmhagllddhjgmaaGreatXw02
import Derived.Test.YtmhagllddhjgmaaGreatXw03
import Derived.Test.YtmhagllddhjgmaaGreatXw12
import Derived.Test.YtmhagllddhjgmaaGreatXw13
import Derived.Test.YtmhagllddhjgmaaGreatXw14
import Derived.Test.YtmhagllddhjgmaaGreatXw15
import Derived.Test.YtmhagllddhjgmaaGreatRows
import Derived.WalkKit
import Derived.ProofKit
import Derived.OpenShut
import Derived.Outline
import Derived.Deep.QuietTactic
import Derived.BigQuiet
import Derived.Deep.RegionWith
import Derived.Laws.OwnMore
import Derived.OwnWalk
import Derived.Maps.AppendAt
import Derived.Deep.DeepMust
import Derived.Lib.QuietBelow
import Derived.Lib.ItoaNum
import Derived.Lib.ItoaLen
import Derived.Lib.AtoiTie
import Derived.Lib.ParseIntBTie
import Derived.Lib.SplitLaws
import Derived.Lib.Join
/- Contracts of the cursor over a draw's bytes (its make, its bytes, its numbers): each returns a number within its bounds and writes into the cursor alone. Conditions: the bytes can be read; the cursor lies in a block of its own above them. -/
namespace Go.Proofs.YtmhagllddhjgmaaGreat.Draw
open Go.ChangeShapes Go.WideShapes Go.ChangeAt Go.RowKit
set_option linter.unusedVariables false

theorem hide {p : Prop} (h : p) : Hid p := h
theorem unhide {p : Prop} (h : Hid p) : p := h
theorem ret_int {k : IntKind} {a b : Int} (h : a = b) : Ending.returned (.int k a) = .returned (.int k b) := by rw [h]

theorem i64_and255 (n : Int) : bits .and .i64 n 255 = n % 256 := by
  have h127 : (BitVec.ofInt 64 255).toNat = 2 ^ 8 - 1 := by decide
  have key : (BitVec.ofInt 64 n &&& BitVec.ofInt 64 255).toNat = (n % ((2 ^ 64 : Nat) : Int)).toNat % 2 ^ 8 := by
    rw [BitVec.toNat_and, BitVec.toNat_ofInt, h127, Nat.and_two_pow_sub_one_eq_mod]
  show IntKind.i64.wrap ((BitVec.ofInt 64 n &&& BitVec.ofInt 64 255).toNat : Nat) = n % 256
  rw [key, IntKind.wrap_i64]
  omega

/-- Only block bc and new blocks may differ. -/
structure Off (bc : Nat) (w w' : World) : Prop where
  os : w'.os = w.os
  tape : w'.tape = w.tape
  output : w'.output = w.output
  size : w.heap.size ≤ w'.heap.size
  block : ∀ k, k < w.heap.size → k ≠ bc → w'.heap[k]? = w.heap[k]?

theorem Off.refl (bc : Nat) (w : World) : Off bc w w := ⟨rfl, rfl, rfl, Nat.le_refl _, fun _ _ _ => rfl⟩
theorem Off.trans {bc : Nat} {a b c : World} (h : Off bc a b) (k : Off bc b c) : Off bc a c :=
  ⟨k.os.trans h.os, k.tape.trans h.tape, k.output.trans h.output, Nat.le_trans h.size k.size, fun i hi hn => (k.block i (Nat.lt_of_lt_of_le hi h.size) hn).trans (h.block i hi hn)⟩
theorem Off.drewN {bc : Nat} {a w : World} (h : Off bc a w) (n : Nat) : Off bc a (w.drewN n) := ⟨h.os, h.tape, h.output, h.size, h.block⟩
theorem Off.alloc {bc : Nat} {a w : World} (h : Off bc a w) (o : Obj) : Off bc a (w.alloc o) :=
  h.trans ⟨rfl, rfl, rfl, by simp, fun k hk _ => Below.heap_alloc w o k hk⟩
theorem Off.setCell {bc : Nat} {a w : World} (h : Off bc a w) (o : Nat) (v : Value) : Off bc a (w.setCell ⟨bc, o, none⟩ v) :=
  h.trans ⟨rfl, rfl, rfl, by simp, fun k hk hn => Below.heap_setCell w ⟨bc, o, none⟩ v k hn⟩
theorem Off.below {bc : Nat} {a w : World} (h : Off bc a w) {B : Nat} (hB : B ≤ bc) (hs : B ≤ a.heap.size) : Below B a w :=
  ⟨h.os, h.tape, h.output, h.size, fun k hk => h.block k (Nat.lt_of_lt_of_le hk hs) (by omega)⟩
theorem Off.cell {bc : Nat} {w w' : World} (h : Off bc w w') {p : Addr} (hp : p.block < w.heap.size) (hn : p.block ≠ bc) : w'.cell? p = w.cell? p :=
  World.cell?_of_block (w := w) (h.block p.block hp hn)

theorem frozen_past (w : World) (o : Nat) : w.frozen? ⟨w.heap.size, o, none⟩ = false := by simp [World.frozen?]

/-- The bytes that the cursor reads: at most 4096, each below B. -/
def Row (B : Nat) (w : World) (a : Option Addr) (len : Nat) : Prop :=
  len ≤ 4096 ∧ (len = 0 ∨ ∃ b off, a = some ⟨b, off, none⟩ ∧ b < B ∧ ∀ i, i < len → ∃ n : Int, 0 ≤ n ∧ n ≤ 255 ∧ w.cell? ⟨b, off + i, none⟩ = some (.int .u8 n))

/-- The cursor in block bc. -/
def Cur (a : Option Addr) (len cap bc : Nat) (w : World) : Prop :=
  bc < w.heap.size ∧ ∃ i h : Int, 0 ≤ i ∧ i ≤ 4096 ∧ w.cell? ⟨bc, 0, none⟩ = some (.slice a len cap) ∧ w.cell? ⟨bc, 1, none⟩ = some (.int .i64 i) ∧ w.cell? ⟨bc, 2, none⟩ = some (.int .i64 h)
    ∧ w.frozen? ⟨bc, 1, none⟩ = false ∧ w.frozen? ⟨bc, 2, none⟩ = false

structure St (a : Option Addr) (len cap bc : Nat) (w : World) : Prop where
  cur : Cur a len cap bc w
  row : Row bc w a len

theorem Row.off {bc : Nat} {w w' : World} {a : Option Addr} {len : Nat} (h : Row bc w a len) (ho : Off bc w w') (hb : bc ≤ w.heap.size) : Row bc w' a len := by
  refine ⟨h.1, ?_⟩
  rcases h.2 with h0 | ⟨b, off, ha, hlt, hc⟩
  · exact .inl h0
  · refine .inr ⟨b, off, ha, hlt, fun i hi => ?_⟩
    obtain ⟨n, n0, n1, hn⟩ := hc i hi
    exact ⟨n, n0, n1, by rw [ho.cell (p := ⟨b, off + i, none⟩) (Nat.lt_of_lt_of_le hlt hb) (Nat.ne_of_lt hlt)]; exact hn⟩

theorem St.drewN {a : Option Addr} {len cap bc : Nat} {w : World} (h : St a len cap bc w) (n : Nat) : St a len cap bc (w.drewN n) := ⟨h.cur, h.row⟩
theorem St.setH {a : Option Addr} {len cap bc : Nat} {w : World} (h : St a len cap bc w) (x : Int) : St a len cap bc (w.setCell ⟨bc, 2, none⟩ (.int .i64 x)) := by
  obtain ⟨⟨hb, i, y, h0, h1, c0, c1, c2, f1, f2⟩, hr⟩ := h
  refine ⟨⟨by simpa using hb, i, x, h0, h1, ?_, ?_, ?_, ?_, ?_⟩, hr.off ((Off.refl _ _).setCell 2 _) (Nat.le_of_lt hb)⟩
  · rw [World.cell?_setCell_other _ _ _ _ (by simp)]; exact c0
  · rw [World.cell?_setCell_other _ _ _ _ (by simp)]; exact c1
  · exact World.cell?_setCell_same _ _ _ c2
  · rw [World.frozen?_setCell]; exact f1
  · rw [World.frozen?_setCell]; exact f2
theorem St.setI {a : Option Addr} {len cap bc : Nat} {w : World} (h : St a len cap bc w) (x : Int) (x0 : 0 ≤ x) (x1 : x ≤ 4096) : St a len cap bc (w.setCell ⟨bc, 1, none⟩ (.int .i64 x)) := by
  obtain ⟨⟨hb, i, y, h0, h1, c0, c1, c2, f1, f2⟩, hr⟩ := h
  refine ⟨⟨by simpa using hb, x, y, x0, x1, ?_, ?_, ?_, ?_, ?_⟩, hr.off ((Off.refl _ _).setCell 1 _) (Nat.le_of_lt hb)⟩
  · rw [World.cell?_setCell_other _ _ _ _ (by simp)]; exact c0
  · exact World.cell?_setCell_same _ _ _ c1
  · rw [World.cell?_setCell_other _ _ _ _ (by simp)]; exact c2
  · rw [World.frozen?_setCell]; exact f1
  · rw [World.frozen?_setCell]; exact f2

set_option maxHeartbeats 1000000 in
theorem byte_any (a : Option Addr) (len cap bc : Nat) (w : World) (hs : St a len cap bc w) :
    Calls Tryz.prog 136 #[.pointer (some ⟨bc, 0, none⟩)] w fun e w' => ∃ x : Int, e = .returned (.int .i64 x) ∧ 0 ≤ x ∧ x ≤ 255 ∧ St a len cap bc w' ∧ Off bc w w' := by
  have Hs := hide hs
  obtain ⟨⟨hb, i, h, h0, h1, c0, c1, c2, f1, f2⟩, hl, hr⟩ := hs
  by_cases hge : i < (len : Int)
  · have Hr := hide hr
    rcases hr with hr | ⟨b, off, rfl, hlt, hc⟩
    · omega
    obtain ⟨k, rfl⟩ := Int.eq_ofNat_of_zero_le h0
    obtain ⟨n, n0, n1, hn⟩ := hc k (by omega)
    have hneb : b ≠ bc := Nat.ne_of_lt hlt
    clear hc Hr
    go_enter Tryz.func136, Tryz.ntmps136
    go_wp2_with fail
    go_quiet (fail)
    go_wp2_with fail
    go_quiet (fail)
    go_wp2_with fail
    go_quiet (fail)
    go_wp2_with fail
    go_ret
    refine ⟨_, rfl, ?_, ?_, (((unhide Hs).setH _).drewN _).setI _ (by omega) (by omega), (((Off.refl _ _).setCell 2 _).drewN _).setCell 1 _⟩
    · rw [i64_and255]; omega
    · rw [i64_and255]; omega
  · go_enter Tryz.func136, Tryz.ntmps136
    go_wp2_with fail
    go_quiet (fail)
    go_wp2_with fail
    go_quiet (fail)
    go_wp2_with fail
    go_ret
    refine ⟨_, rfl, ?_, ?_, (((unhide Hs).setH _).drewN _).drewN _, (((Off.refl _ _).setCell 2 _).drewN _).drewN _⟩
    · rw [i64_and255]; omega
    · rw [i64_and255]; omega

set_option maxHeartbeats 1000000 in
theorem below_any (a : Option Addr) (len cap bc : Nat) (n : Int) (hn : 0 < n) (hm : n ≤ 4611686018427387904) (w : World) (hs : St a len cap bc w) :
    Calls Tryz.prog 95 #[.pointer (some ⟨bc, 0, none⟩), .int .i64 n] w fun e w' => ∃ x : Int, e = .returned (.int .i64 x) ∧ 0 ≤ x ∧ x < n ∧ St a len cap bc w' ∧ Off bc w w' := by
  have Hs := hide hs
  clear hs
  by_cases h256 : n ≤ 256
  · go_enter Tryz.func95, Tryz.ntmps95
    go_wp2_with fail
    refine (byte_any a len cap bc _ (unhide Hs)).mono ?_
    rintro e w1 ⟨x, rfl, x0, x1, s1, o1⟩
    have Hs1 := hide s1
    have Ho1 := hide o1
    clear s1 o1
    go_wp2_with fail
    go_ret
    exact ⟨_, rfl, Int.emod_nonneg _ (by omega), Int.emod_lt_of_pos _ hn, unhide Hs1, unhide Ho1⟩
  · go_enter Tryz.func95, Tryz.ntmps95
    go_wp2_with fail
    refine (byte_any a len cap bc _ (unhide Hs)).mono ?_
    rintro e w1 ⟨x, rfl, x0, x1, s1, o1⟩
    have Hs1 := hide s1
    have Ho1 := hide o1
    clear s1 o1
    go_wp2_with fail
    refine (byte_any a len cap bc _ (unhide Hs1)).mono ?_
    rintro e w2 ⟨y, rfl, y0, y1, s2, o2⟩
    have Hs2 := hide s2
    have Ho2 := hide o2
    clear s2 o2
    go_wp2_with fail
    refine (byte_any a len cap bc _ (unhide Hs2)).mono ?_
    rintro e w3 ⟨z, rfl, z0, z1, s3, o3⟩
    have Hs3 := hide s3
    have Ho3 := hide o3
    clear s3 o3
    go_wp2_with fail
    refine (byte_any a len cap bc _ (unhide Hs3)).mono ?_
    rintro e w4 ⟨v, rfl, v0, v1, s4, o4⟩
    have Hs4 := hide s4
    have Ho4 := hide o4
    clear s4 o4
    go_wp2_with fail
    go_ret
    exact ⟨_, rfl, Int.emod_nonneg _ (by omega), Int.emod_lt_of_pos _ hn, unhide Hs4, (((unhide Ho1).trans (unhide Ho2)).trans (unhide Ho3)).trans (unhide Ho4)⟩

set_option maxHeartbeats 400000 in
theorem once_any (a : Option Addr) (len cap bc : Nat) (n : Int) (hn : 0 < n) (hm : n ≤ 4611686018427387904) (w : World) (hs : St a len cap bc w) :
    Calls Tryz.prog 94 #[.pointer (some ⟨bc, 0, none⟩), .int .i64 n] w fun e w' => ∃ b : Bool, e = .returned (.bool b) ∧ St a len cap bc w' ∧ Off bc w w' := by
  have Hs := hide hs
  clear hs
  go_enter Tryz.func94, Tryz.ntmps94
  go_wp2_with fail
  refine (below_any a len cap bc n hn hm _ (unhide Hs)).mono ?_
  rintro e w1 ⟨x, rfl, x0, x1, s1, o1⟩
  have Hs1 := hide s1
  have Ho1 := hide o1
  clear s1 o1
  go_wp2_with fail
  go_ret
  exact ⟨_, rfl, unhide Hs1, unhide Ho1⟩

set_option maxHeartbeats 400000 in
theorem from_any (a : Option Addr) (len cap bc : Nat) (lo hi : Int) (h : lo ≤ hi) (h1 : -1000000000000 ≤ lo) (h2 : hi ≤ 1000000000000) (w : World) (hs : St a len cap bc w) :
    Calls Tryz.prog 97 #[.pointer (some ⟨bc, 0, none⟩), .int .i64 lo, .int .i64 hi] w fun e w' => ∃ x : Int, e = .returned (.int .i64 x) ∧ lo ≤ x ∧ x ≤ hi ∧ St a len cap bc w' ∧ Off bc w w' := by
  have Hs := hide hs
  clear hs
  go_enter Tryz.func97, Tryz.ntmps97
  go_wp2_with fail
  refine (below_any a len cap bc _ (by omega) (by omega) _ (unhide Hs)).mono ?_
  rintro e w1 ⟨x, rfl, x0, x1, s1, o1⟩
  have Hs1 := hide s1
  have Ho1 := hide o1
  clear s1 o1
  go_wp2_with fail
  go_ret
  exact ⟨_, rfl, by omega, by omega, unhide Hs1, unhide Ho1⟩

theorem new_st {a : Option Addr} {len cap : Nat} {w : World} (hr : Row w.heap.size w a len) {t : TypeId} (x : Int) : St a len cap w.heap.size (w.alloc (.cells #[.slice a len cap, .int .i64 0, .int .i64 x] t)) := by
  refine ⟨⟨by simp, 0, x, by omega, by omega, ?_, ?_, ?_, ?_, ?_⟩, hr.off ((Off.refl _ _).alloc _) (Nat.le_refl _)⟩
  · simp
  · simp
  · simp
  · rw [frozen?_alloc_cells]; exact frozen_past _ _
  · rw [frozen?_alloc_cells]; exact frozen_past _ _

set_option maxHeartbeats 400000 in
theorem new_any (a : Option Addr) (len cap : Nat) (w : World) (hr : Row w.heap.size w a len) :
    Calls Tryz.prog 36 #[.slice a len cap] w fun e w' => e = .returned (.pointer (some ⟨w.heap.size, 0, none⟩)) ∧ St a len cap w.heap.size w' ∧ Off w.heap.size w w' := by
  have Hr := hide hr
  obtain ⟨hl, hr⟩ := hr
  have Hc := hide hr
  clear hr
  go_enter Tryz.func36, Tryz.ntmps36
  go_wp2_with fail
  go_loop [3, 4] (fun t i => ∃ k : Nat, k ≤ len ∧ i = .int .i64 k ∧ ∃ x : Int, t = .int .i64 x) (fun _ i => len - (intOf i).toNat)
  case atStart => exact ⟨0, Nat.zero_le _, rfl, _, rfl⟩
  case round =>
    obtain ⟨k, hk, rfl, x, rfl⟩ := hrel
    by_cases hlt : k < len
    · rcases unhide Hc with h0 | ⟨b, off, rfl, hb, hc⟩
      · omega
      obtain ⟨n, n0, n1, hn⟩ := hc k hlt
      clear hc
      go_wp2_with fail
      go_round
      case rel => exact ⟨k + 1, by omega, by go_num, _, rfl⟩
      case measure => simp [intOf]; omega
    · go_wp2_with fail
      go_ret
      refine ⟨rfl, new_st (unhide Hr) _, (Off.refl _ _).alloc _⟩

/-- A slice of integers that came in: nil, or a row of cap cells of which the first len are its elements. -/
def IsRow (k : IntKind) (w : World) (a : Option Addr) (len cap : Nat) (zs : List Int) : Prop :=
  (a = none ∧ len = 0 ∧ cap = 0 ∧ zs = []) ∨
  ∃ x, a = some x ∧ len ≤ cap ∧ cap ≤ maxLen ∧ zs.length = cap ∧ (∀ i, i < zs.length → w.cell? (x.add i) = some (.int k (zs.getD i 0))) ∧ ∀ n ∈ zs, (Lit.int k n).wf = true

theorem row_of {w : World} {a : Option Addr} {len cap : Nat} {zs : List Int} (h : IsRow .u8 w a len cap zs) (hl : len ≤ 4096) : Row w.heap.size w a len := by
  refine ⟨hl, ?_⟩
  rcases h with ⟨_, h0, _, _⟩ | ⟨x, rfl, hlc, hm, hz, hcell, hwz⟩
  · exact .inl h0
  · by_cases h0 : len = 0
    · exact .inl h0
    · obtain ⟨b, off, spot⟩ := x
      have hc := hcell 0 (by omega)
      have hspot : spot = none := by simpa [Addr.add] using World.cell?_spot hc
      subst hspot
      have hlt := World.block_lt_of_cell? _ _ hc
      refine .inr ⟨b, off, rfl, hlt, fun i hi => ?_⟩
      have hiz : i < zs.length := by omega
      have hb := bounds_u8 (hwz zs[i] (List.getElem_mem hiz))
      have hci := hcell i hiz
      rw [show zs.getD i 0 = zs[i] from by simp [List.getD, hiz]] at hci
      refine ⟨zs[i], hb.1, hb.2, ?_⟩
      by_cases hi0 : i = 0
      · subst hi0; simpa [Addr.add] using hci
      · simpa [Addr.add, hi0] using hci

theorem row_below {B : Nat} {w w' : World} {a : Option Addr} {len : Nat} (h : Row B w a len) (hb : Below B w w') : Row B w' a len := by
  refine ⟨h.1, ?_⟩
  rcases h.2 with h0 | ⟨b, off, ha, hlt, hc⟩
  · exact .inl h0
  · refine .inr ⟨b, off, ha, hlt, fun i hi => ?_⟩
    obtain ⟨n, n0, n1, hn⟩ := hc i hi
    exact ⟨n, n0, n1, by rw [hb.cell (p := ⟨b, off + i, none⟩) hlt]; exact hn⟩
theorem row_up {B B' : Nat} {w : World} {a : Option Addr} {len : Nat} (h : Row B w a len) (hB : B ≤ B') : Row B' w a len := by
  refine ⟨h.1, ?_⟩
  rcases h.2 with h0 | ⟨b, off, ha, hlt, hc⟩
  · exact .inl h0
  · exact .inr ⟨b, off, ha, Nat.lt_of_lt_of_le hlt hB, hc⟩
/-- The bytes are still there in a later world, all of whose older blocks are as they were. -/
theorem row_later {w w' : World} {a : Option Addr} {len : Nat} (h : Row w.heap.size w a len) (hb : Below w.heap.size w w') : Row w'.heap.size w' a len := row_up (row_below h hb) hb.size

theorem big_no (a : Option Addr) (len cap : Nat) (w : World) (hl : len ≤ 4096) : Calls Tryz.prog 8 #[.slice a len cap] w fun e w' => e = .returned (.bool false) ∧ w' = w := by
  have h : ¬ (4096 : Int) < len := by omega
  go_enter Tryz.func8, Tryz.ntmps8
  go_wp2
  go_ret
  exact ⟨rfl, rfl⟩
theorem big_yes (a : Option Addr) (len cap : Nat) (w : World) (hl : 4096 < len) : Calls Tryz.prog 8 #[.slice a len cap] w fun e w' => e = .returned (.bool true) ∧ w' = w := by
  have h : (4096 : Int) < len := by omega
  go_enter Tryz.func8, Tryz.ntmps8
  go_wp2
  go_ret
  exact ⟨rfl, rfl⟩

def isI64 : Value → Bool
  | .int .i64 _ => true
  | _ => false
theorem pick_any (cs : Array Value) (j : Nat) (hj : j < cs.size) (h : cs.toList.all isI64 = true) : ∃ v : Int, cs[j]? = some (.int .i64 v) := by
  rw [Array.all_toList, Array.all_eq_true] at h
  have := h j hj
  rw [Array.getElem?_eq_getElem hj]
  generalize cs[j] = c at *
  unfold isI64 at this
  split at this
  · exact ⟨_, rfl⟩
  · cases this

end Go.Proofs.YtmhagllddhjgmaaGreat.Draw

/- The cursor of the draws: that it stays, and boxes of two cells beside it. No condition but those that a theorem names. -/
namespace Go.Proofs.YtmhagllddhjgmaaGreat
open Go.ChangeShapes Go.WideShapes Go.ChangeAt Go.RowKit Go.Sort
open Draw (St Off Row Cur)
set_option linter.unusedVariables false

/-- The cursor is as it was wherever its block and the older ones are. -/
theorem st_below {a : Option Addr} {len cap bc : Nat} {w w' : World} (h : St a len cap bc w) (hb : Below (bc + 1) w w') : St a len cap bc w' := by
  obtain ⟨⟨hlt, i, x, h0, h1, c0, c1, c2, f1, f2⟩, hr⟩ := h
  have hc : ∀ o, w'.cell? ⟨bc, o, none⟩ = w.cell? ⟨bc, o, none⟩ := fun o => hb.cell (p := ⟨bc, o, none⟩) (Nat.lt_succ_self bc)
  have hf : ∀ o, w'.frozen? ⟨bc, o, none⟩ = w.frozen? ⟨bc, o, none⟩ := fun o => hb.frozen (p := ⟨bc, o, none⟩) (Nat.lt_succ_self bc)
  refine ⟨⟨Nat.lt_of_lt_of_le hlt hb.size, i, x, h0, h1, (hc 0).trans c0, (hc 1).trans c1, (hc 2).trans c2, (hf 1).trans f1, (hf 2).trans f2⟩, Draw.row_below hr (hb.mono (Nat.le_succ bc))⟩
theorem st_lt {a : Option Addr} {len cap bc : Nat} {w : World} (h : St a len cap bc w) : bc < w.heap.size := h.cur.1
theorem off_below {bc : Nat} {a b c : World} (h : Off bc a b) (k : Below a.heap.size b c) : Off bc a c :=
  ⟨k.os.trans h.os, k.tape.trans h.tape, k.output.trans h.output, Nat.le_trans h.size k.size, fun i hi hn => (k.block i hi).trans (h.block i hi hn)⟩
theorem off_but {bc : Nat} {w w' : World} (h : Off bc w w') : But bc w w' := ⟨h.os, h.tape, h.output, h.size, h.block⟩
theorem but_off {bc : Nat} {w w' : World} (h : But bc w w') : Off bc w w' := ⟨h.os, h.tape, h.output, h.size, h.block⟩
theorem off_drew {bc : Nat} {w w' : World} (h : Off bc w.drew w') : Off bc w w' := ⟨h.os, h.tape, h.output, h.size, h.block⟩
theorem st_drew {a : Option Addr} {len cap bc : Nat} {w : World} (h : St a len cap bc w) : St a len cap bc w.drew := ⟨h.cur, h.row⟩

end Go.Proofs.YtmhagllddhjgmaaGreat

/- Contracts of the draws of halls: a hall of six texts, read by the model. Condition: the bytes of the draw can be read and are at most 4096. -/
namespace Go.Proofs.YtmhagllddhjgmaaGreat
open Go.ChangeShapes Go.WideShapes Go.ChangeAt Go.RowKit Go.Sort
open Draw (St Off Row Cur)
set_option linter.unusedVariables false

/-- A text that is a hall's. -/
def good (l : Txt) : Bool := decide (l.length ≤ 1048576) && (readHall l).isSome
def isGood : Value → Bool
  | .string s => good s.data.toList
  | _ => false
theorem pick_good (cs : Array Value) (j : Nat) (hj : j < cs.size) (h : cs.toList.all isGood = true) : ∃ l, cs[j]? = some (.string (bs l)) ∧ good l = true := by
  rw [Array.all_toList, Array.all_eq_true] at h
  have := h j hj
  rw [Array.getElem?_eq_getElem hj]
  generalize cs[j] = c at *
  unfold isGood at this
  split at this
  · rename_i s; exact ⟨s.data.toList, by rw [bs_back], this⟩
  · cases this

set_option maxRecDepth 100000 in
set_option maxHeartbeats 1000000 in
theorem l4Texts_any (w : World) : Calls Tryz.prog 170 #[] w fun e w' => e = .returned (.slice (some ⟨w.heap.size, 0, none⟩) 6 6) ∧ (∀ j, j < 6 → ∃ l, w'.cell? ⟨w.heap.size, j, none⟩ = some (.string (bs l)) ∧ good l = true) ∧ Below w.heap.size w w' ∧ w.heap.size < w'.heap.size := by
  go_enter Tryz.func170, Tryz.ntmps170
  go_wp2_with fail
  go_ret
  refine ⟨rfl, fun j hj => ?_, (Below.refl _ _).alloc (Nat.le_refl _) _, by simp⟩
  rw [World.cell?_alloc_new]
  exact pick_good _ j hj (by decide +kernel)

theorem good_of {l : Txt} (h : good l = true) : l.length ≤ 1048576 ∧ (readHall l).isSome = true := by
  unfold good at h; simpa using h

set_option maxRecDepth 100000 in
set_option maxHeartbeats 2000000 in
theorem l4Draw_any (a : Option Addr) (len cap bc : Nat) (w : World) (hs : St a len cap bc w) :
    Calls Tryz.prog 133 #[.pointer (some ⟨bc, 0, none⟩)] w fun e w' => ∃ v qs, e = .returned (.agg #[v]) ∧ hallB (qs.map (·.1)) = true ∧ OwnHall w.heap.size w' v qs ∧ St a len cap bc w' ∧ Off bc w w' := by
  have Hs := hide hs
  have hbc := st_lt hs
  clear hs
  go_enter Tryz.func133, Tryz.ntmps133
  go_wp2_with fail
  refine (l4Texts_any _).mono ?_
  rintro e w1 ⟨rfl, htx, hb1, hz1⟩
  have hz1' : w.heap.size + 2 ≤ w1.heap.size := by simp at hz1; omega
  have B1 : Hid (Below w.heap.size w w1) := hide (((Below.refl _ _).alloc (Nat.le_refl _) _).trans (hb1.mono (by simp)))
  have x0 : w1.cell? ⟨w.heap.size, 0, none⟩ = some (.slice none 0 0) := (hb1.cell (p := ⟨w.heap.size, 0, none⟩) (by simp)).trans (by simp)
  have x1 : w1.frozen? ⟨w.heap.size, 0, none⟩ = false := (hb1.frozen (p := ⟨w.heap.size, 0, none⟩) (by simp)).trans (by rw [frozen?_alloc_cells]; exact frozen_far (Nat.le_refl _))
  have Htx := hide htx
  clear htx hb1
  go_wp2_with fail
  refine (Draw.below_any a len cap bc 6 (by omega) (by omega) _ (st_below (unhide Hs) ((unhide B1).mono (by omega)))).mono ?_
  rintro e w2 ⟨x, rfl, hx0, hx1, hs2, ho2⟩
  obtain ⟨j, rfl⟩ := Int.eq_ofNat_of_zero_le hx0
  obtain ⟨l, hcl, hgd⟩ := unhide Htx j (by omega)
  simp only [World.size_alloc] at hcl
  have hcl2 := (ho2.cell (p := ⟨w.heap.size + 1, j, none⟩) (by show w.heap.size + 1 < _; omega) (by show w.heap.size + 1 ≠ _; omega)).trans hcl
  have y0 := (ho2.cell (p := ⟨w.heap.size, 0, none⟩) (by show w.heap.size < _; omega) (by show w.heap.size ≠ _; omega)).trans x0
  have y1 : w2.frozen? ⟨w.heap.size, 0, none⟩ = false := (World.frozen?_of_block (w := w1) (w' := w2) (ho2.block w.heap.size (by omega) (by omega))).trans x1
  have Hs2 := hide hs2
  have Ho2 := hide ho2
  have hz2 := ho2.size
  have hll := (good_of hgd).1
  have Hgd := hide (good_of hgd).2
  clear hcl hs2 ho2 x0 x1 hgd
  go_wp2_with fail
  refine (specReadHall_any l _ hll).mono ?_
  rintro e w3 ⟨hgot, hb3⟩
  rcases hgot with ⟨v, qs, rfl, hrd, hown⟩ | ⟨rfl, hrd⟩
  · obtain ⟨va, vcap, rfl⟩ := hown.shape
    have hz3 := hb3.size
    have z0 := (hb3.cell (p := ⟨w.heap.size, 0, none⟩) (by show w.heap.size < _; omega)).trans y0
    have z1 := (hb3.frozen (p := ⟨w.heap.size, 0, none⟩) (by show w.heap.size < _; omega)).trans y1
    have Hown := hide hown
    have Hb3 := hide hb3
    have Hrd := hide (readHall_back hrd).1
    have hlt3 : w.heap.size < w3.heap.size := by omega
    clear hown hb3 hrd y0 y1
    go_wp2_with fail
    have HB : Below w.heap.size w2 ((w3.setCell ⟨w.heap.size, 0, none⟩ (.slice va qs.length vcap)).alloc (.cells #[.slice va qs.length vcap] 26)) := (((unhide Hb3).mono (by omega)).setCell (Nat.le_refl w.heap.size) _).alloc (by simp; omega) _
    refine bodyPost_ret (v := .agg #[.slice va qs.length vcap]) (by simp [results, Tryz.results133, go_sem, *]) rfl ⟨_, qs, rfl, unhide Hrd, ?_, st_below (unhide Hs2) (HB.mono (by omega)), off_below ((off_below (Off.refl bc w) (unhide B1)).trans (unhide Ho2)) HB⟩
    exact ((((unhide Hown).but ((But.refl w.heap.size w3).setCell 0 _) (.inl (by omega))).later ((Below.refl _ _).alloc (Nat.le_refl _) _)).mono (by omega))
  · exfalso; rw [hrd] at Hgd; exact absurd (unhide Hgd) (by simp)

end Go.Proofs.YtmhagllddhjgmaaGreat

