/- Contracts of the cursor over a draw's bytes (its make, its bytes, its numbers): each returns a number within its bounds and writes into the cursor alone. Conditions: the bytes can be read; the cursor lies in a block of its own above them. -/
import Derived.Test.YtnlonncfnlacdaaRows
import Derived.WalkKit
import Derived.ProofKit
import Derived.OpenShut
import Derived.Outline
import Derived.Deep.QuietTactic
import Derived.BigQuiet
namespace Go.Proofs.Ytnlonncfnlacdaa.Draw
open Go.ChangeShapes Go.WideShapes Go.ChangeAt Go.RowKit
set_option linter.unusedVariables false

theorem hide {p : Prop} (h : p) : Hid p := h
theorem unhide {p : Prop} (h : Hid p) : p := h
theorem ret_int {k : IntKind} {a b : Int} (h : a = b) : Ending.returned (.int k a) = .returned (.int k b) := by rw [h]

theorem i64_and255 (n : Int) : bits .and .i64 n 255 = n % 256 := by
  have h127 : (BitVec.ofInt 64 255).toNat = 2 ^ 8 - 1 := by decide
  have key : (BitVec.ofInt 64 n &&& BitVec.ofInt 64 255).toNat = (n % ((2 ^ 64 : Nat) : Int)).toNat % 2 ^ 8 := by
    rw [BitVec.toNat_and, BitVec.toNat_ofInt, h127, Nat.and_two_pow_sub_one_eq_mod]
  show IntKind.i64.wrap ((BitVec.ofInt 64 n &&& BitVec.ofInt 64 255).toNat : Nat) = n % 256
  rw [key, IntKind.wrap_i64]
  omega

/-- Only block bc and new blocks may differ. -/
structure Off (bc : Nat) (w w' : World) : Prop where
  os : w'.os = w.os
  tape : w'.tape = w.tape
  output : w'.output = w.output
  size : w.heap.size ≤ w'.heap.size
  block : ∀ k, k < w.heap.size → k ≠ bc → w'.heap[k]? = w.heap[k]?

theorem Off.refl (bc : Nat) (w : World) : Off bc w w := ⟨rfl, rfl, rfl, Nat.le_refl _, fun _ _ _ => rfl⟩
theorem Off.trans {bc : Nat} {a b c : World} (h : Off bc a b) (k : Off bc b c) : Off bc a c :=
  ⟨k.os.trans h.os, k.tape.trans h.tape, k.output.trans h.output, Nat.le_trans h.size k.size, fun i hi hn => (k.block i (Nat.lt_of_lt_of_le hi h.size) hn).trans (h.block i hi hn)⟩
theorem Off.drewN {bc : Nat} {a w : World} (h : Off bc a w) (n : Nat) : Off bc a (w.drewN n) := ⟨h.os, h.tape, h.output, h.size, h.block⟩
theorem Off.alloc {bc : Nat} {a w : World} (h : Off bc a w) (o : Obj) : Off bc a (w.alloc o) :=
  h.trans ⟨rfl, rfl, rfl, by simp, fun k hk _ => Below.heap_alloc w o k hk⟩
theorem Off.setCell {bc : Nat} {a w : World} (h : Off bc a w) (o : Nat) (v : Value) : Off bc a (w.setCell ⟨bc, o, none⟩ v) :=
  h.trans ⟨rfl, rfl, rfl, by simp, fun k hk hn => Below.heap_setCell w ⟨bc, o, none⟩ v k hn⟩
theorem Off.below {bc : Nat} {a w : World} (h : Off bc a w) {B : Nat} (hB : B ≤ bc) (hs : B ≤ a.heap.size) : Below B a w :=
  ⟨h.os, h.tape, h.output, h.size, fun k hk => h.block k (Nat.lt_of_lt_of_le hk hs) (by omega)⟩
theorem Off.cell {bc : Nat} {w w' : World} (h : Off bc w w') {p : Addr} (hp : p.block < w.heap.size) (hn : p.block ≠ bc) : w'.cell? p = w.cell? p :=
  World.cell?_of_block (w := w) (h.block p.block hp hn)

theorem frozen_past (w : World) (o : Nat) : w.frozen? ⟨w.heap.size, o, none⟩ = false := by simp [World.frozen?]

/-- The bytes that the cursor reads: at most 4096, each below B. -/
def Row (B : Nat) (w : World) (a : Option Addr) (len : Nat) : Prop :=
  len ≤ 4096 ∧ (len = 0 ∨ ∃ b off, a = some ⟨b, off, none⟩ ∧ b < B ∧ ∀ i, i < len → ∃ n : Int, 0 ≤ n ∧ n ≤ 255 ∧ w.cell? ⟨b, off + i, none⟩ = some (.int .u8 n))

/-- The cursor in block bc. -/
def Cur (a : Option Addr) (len cap bc : Nat) (w : World) : Prop :=
  bc < w.heap.size ∧ ∃ i h : Int, 0 ≤ i ∧ i ≤ 4096 ∧ w.cell? ⟨bc, 0, none⟩ = some (.slice a len cap) ∧ w.cell? ⟨bc, 1, none⟩ = some (.int .i64 i) ∧ w.cell? ⟨bc, 2, none⟩ = some (.int .i64 h)
    ∧ w.frozen? ⟨bc, 1, none⟩ = false ∧ w.frozen? ⟨bc, 2, none⟩ = false

structure St (a : Option Addr) (len cap bc : Nat) (w : World) : Prop where
  cur : Cur a len cap bc w
  row : Row bc w a len

theorem Row.off {bc : Nat} {w w' : World} {a : Option Addr} {len : Nat} (h : Row bc w a len) (ho : Off bc w w') (hb : bc ≤ w.heap.size) : Row bc w' a len := by
  refine ⟨h.1, ?_⟩
  rcases h.2 with h0 | ⟨b, off, ha, hlt, hc⟩
  · exact .inl h0
  · refine .inr ⟨b, off, ha, hlt, fun i hi => ?_⟩
    obtain ⟨n, n0, n1, hn⟩ := hc i hi
    exact ⟨n, n0, n1, by rw [ho.cell (p := ⟨b, off + i, none⟩) (Nat.lt_of_lt_of_le hlt hb) (Nat.ne_of_lt hlt)]; exact hn⟩

theorem St.drewN {a : Option Addr} {len cap bc : Nat} {w : World} (h : St a len cap bc w) (n : Nat) : St a len cap bc (w.drewN n) := ⟨h.cur, h.row⟩
theorem St.alloc {a : Option Addr} {len cap bc : Nat} {w : World} (h : St a len cap bc w) (o : Obj) : St a len cap bc (w.alloc o) := by
  obtain ⟨⟨hb, i, x, h0, h1, c0, c1, c2, f1, f2⟩, hr⟩ := h
  have hne : ∀ o, (⟨bc, o, none⟩ : Addr).block ≠ w.heap.size := fun _ => Nat.ne_of_lt hb
  refine ⟨⟨by simp; omega, i, x, h0, h1, ?_, ?_, ?_, ?_, ?_⟩, hr.off ((Off.refl _ _).alloc o) (Nat.le_of_lt hb)⟩
  · rw [World.cell?_alloc_old _ _ _ (hne 0)]; exact c0
  · rw [World.cell?_alloc_old _ _ _ (hne 1)]; exact c1
  · rw [World.cell?_alloc_old _ _ _ (hne 2)]; exact c2
  · rw [World.frozen?_alloc_old _ _ _ (hne 1)]; exact f1
  · rw [World.frozen?_alloc_old _ _ _ (hne 2)]; exact f2
theorem St.setH {a : Option Addr} {len cap bc : Nat} {w : World} (h : St a len cap bc w) (x : Int) : St a len cap bc (w.setCell ⟨bc, 2, none⟩ (.int .i64 x)) := by
  obtain ⟨⟨hb, i, y, h0, h1, c0, c1, c2, f1, f2⟩, hr⟩ := h
  refine ⟨⟨by simpa using hb, i, x, h0, h1, ?_, ?_, ?_, ?_, ?_⟩, hr.off ((Off.refl _ _).setCell 2 _) (Nat.le_of_lt hb)⟩
  · rw [World.cell?_setCell_other _ _ _ _ (by simp)]; exact c0
  · rw [World.cell?_setCell_other _ _ _ _ (by simp)]; exact c1
  · exact World.cell?_setCell_same _ _ _ c2
  · rw [World.frozen?_setCell]; exact f1
  · rw [World.frozen?_setCell]; exact f2
theorem St.setI {a : Option Addr} {len cap bc : Nat} {w : World} (h : St a len cap bc w) (x : Int) (x0 : 0 ≤ x) (x1 : x ≤ 4096) : St a len cap bc (w.setCell ⟨bc, 1, none⟩ (.int .i64 x)) := by
  obtain ⟨⟨hb, i, y, h0, h1, c0, c1, c2, f1, f2⟩, hr⟩ := h
  refine ⟨⟨by simpa using hb, x, y, x0, x1, ?_, ?_, ?_, ?_, ?_⟩, hr.off ((Off.refl _ _).setCell 1 _) (Nat.le_of_lt hb)⟩
  · rw [World.cell?_setCell_other _ _ _ _ (by simp)]; exact c0
  · exact World.cell?_setCell_same _ _ _ c1
  · rw [World.cell?_setCell_other _ _ _ _ (by simp)]; exact c2
  · rw [World.frozen?_setCell]; exact f1
  · rw [World.frozen?_setCell]; exact f2

set_option maxHeartbeats 1000000 in
theorem byte_any (a : Option Addr) (len cap bc : Nat) (w : World) (hs : St a len cap bc w) :
    Calls Try.prog 36 #[.pointer (some ⟨bc, 0, none⟩)] w fun e w' => ∃ x : Int, e = .returned (.int .i64 x) ∧ 0 ≤ x ∧ x ≤ 255 ∧ St a len cap bc w' ∧ Off bc w w' := by
  have Hs := hide hs
  obtain ⟨⟨hb, i, h, h0, h1, c0, c1, c2, f1, f2⟩, hl, hr⟩ := hs
  by_cases hge : i < (len : Int)
  · have Hr := hide hr
    rcases hr with hr | ⟨b, off, rfl, hlt, hc⟩
    · omega
    obtain ⟨k, rfl⟩ := Int.eq_ofNat_of_zero_le h0
    obtain ⟨n, n0, n1, hn⟩ := hc k (by omega)
    have hneb : b ≠ bc := Nat.ne_of_lt hlt
    clear hc Hr
    go_enter Try.func36, Try.ntmps36
    go_wp2_with fail
    go_quiet (fail)
    go_wp2_with fail
    go_quiet (fail)
    go_wp2_with fail
    go_quiet (fail)
    go_wp2_with fail
    go_ret
    refine ⟨_, rfl, ?_, ?_, (((unhide Hs).setH _).drewN _).setI _ (by omega) (by omega), (((Off.refl _ _).setCell 2 _).drewN _).setCell 1 _⟩
    · rw [i64_and255]; omega
    · rw [i64_and255]; omega
  · go_enter Try.func36, Try.ntmps36
    go_wp2_with fail
    go_quiet (fail)
    go_wp2_with fail
    go_quiet (fail)
    go_wp2_with fail
    go_ret
    refine ⟨_, rfl, ?_, ?_, (((unhide Hs).setH _).drewN _).drewN _, (((Off.refl _ _).setCell 2 _).drewN _).drewN _⟩
    · rw [i64_and255]; omega
    · rw [i64_and255]; omega

set_option maxHeartbeats 1000000 in
theorem below_any (a : Option Addr) (len cap bc : Nat) (n : Int) (hn : 0 < n) (hm : n ≤ 4611686018427387904) (w : World) (hs : St a len cap bc w) :
    Calls Try.prog 25 #[.pointer (some ⟨bc, 0, none⟩), .int .i64 n] w fun e w' => ∃ x : Int, e = .returned (.int .i64 x) ∧ 0 ≤ x ∧ x < n ∧ St a len cap bc w' ∧ Off bc w w' := by
  have Hs := hide hs
  clear hs
  by_cases h256 : n ≤ 256
  · go_enter Try.func25, Try.ntmps25
    go_wp2_with fail
    refine (byte_any a len cap bc _ (unhide Hs)).mono ?_
    rintro e w1 ⟨x, rfl, x0, x1, s1, o1⟩
    have Hs1 := hide s1
    have Ho1 := hide o1
    clear s1 o1
    go_wp2_with fail
    go_ret
    exact ⟨_, rfl, Int.emod_nonneg _ (by omega), Int.emod_lt_of_pos _ hn, unhide Hs1, unhide Ho1⟩
  · go_enter Try.func25, Try.ntmps25
    go_wp2_with fail
    refine (byte_any a len cap bc _ (unhide Hs)).mono ?_
    rintro e w1 ⟨x, rfl, x0, x1, s1, o1⟩
    have Hs1 := hide s1
    have Ho1 := hide o1
    clear s1 o1
    go_wp2_with fail
    refine (byte_any a len cap bc _ (unhide Hs1)).mono ?_
    rintro e w2 ⟨y, rfl, y0, y1, s2, o2⟩
    have Hs2 := hide s2
    have Ho2 := hide o2
    clear s2 o2
    go_wp2_with fail
    refine (byte_any a len cap bc _ (unhide Hs2)).mono ?_
    rintro e w3 ⟨z, rfl, z0, z1, s3, o3⟩
    have Hs3 := hide s3
    have Ho3 := hide o3
    clear s3 o3
    go_wp2_with fail
    refine (byte_any a len cap bc _ (unhide Hs3)).mono ?_
    rintro e w4 ⟨v, rfl, v0, v1, s4, o4⟩
    have Hs4 := hide s4
    have Ho4 := hide o4
    clear s4 o4
    go_wp2_with fail
    go_ret
    exact ⟨_, rfl, Int.emod_nonneg _ (by omega), Int.emod_lt_of_pos _ hn, unhide Hs4, (((unhide Ho1).trans (unhide Ho2)).trans (unhide Ho3)).trans (unhide Ho4)⟩

set_option maxHeartbeats 400000 in
theorem once_any (a : Option Addr) (len cap bc : Nat) (n : Int) (hn : 0 < n) (hm : n ≤ 4611686018427387904) (w : World) (hs : St a len cap bc w) :
    Calls Try.prog 24 #[.pointer (some ⟨bc, 0, none⟩), .int .i64 n] w fun e w' => ∃ b : Bool, e = .returned (.bool b) ∧ St a len cap bc w' ∧ Off bc w w' := by
  have Hs := hide hs
  clear hs
  go_enter Try.func24, Try.ntmps24
  go_wp2_with fail
  refine (below_any a len cap bc n hn hm _ (unhide Hs)).mono ?_
  rintro e w1 ⟨x, rfl, x0, x1, s1, o1⟩
  have Hs1 := hide s1
  have Ho1 := hide o1
  clear s1 o1
  go_wp2_with fail
  go_ret
  exact ⟨_, rfl, unhide Hs1, unhide Ho1⟩

set_option maxHeartbeats 400000 in
theorem from_any (a : Option Addr) (len cap bc : Nat) (lo hi : Int) (h : lo ≤ hi) (h1 : -1000000000000 ≤ lo) (h2 : hi ≤ 1000000000000) (w : World) (hs : St a len cap bc w) :
    Calls Try.prog 26 #[.pointer (some ⟨bc, 0, none⟩), .int .i64 lo, .int .i64 hi] w fun e w' => ∃ x : Int, e = .returned (.int .i64 x) ∧ lo ≤ x ∧ x ≤ hi ∧ St a len cap bc w' ∧ Off bc w w' := by
  have Hs := hide hs
  clear hs
  go_enter Try.func26, Try.ntmps26
  go_wp2_with fail
  refine (below_any a len cap bc _ (by omega) (by omega) _ (unhide Hs)).mono ?_
  rintro e w1 ⟨x, rfl, x0, x1, s1, o1⟩
  have Hs1 := hide s1
  have Ho1 := hide o1
  clear s1 o1
  go_wp2_with fail
  go_ret
  exact ⟨_, rfl, by omega, by omega, unhide Hs1, unhide Ho1⟩

theorem new_st {a : Option Addr} {len cap : Nat} {w : World} (hr : Row w.heap.size w a len) {t : TypeId} (x : Int) : St a len cap w.heap.size (w.alloc (.cells #[.slice a len cap, .int .i64 0, .int .i64 x] t)) := by
  refine ⟨⟨by simp, 0, x, by omega, by omega, ?_, ?_, ?_, ?_, ?_⟩, hr.off ((Off.refl _ _).alloc _) (Nat.le_refl _)⟩
  · simp
  · simp
  · simp
  · rw [frozen?_alloc_cells]; exact frozen_past _ _
  · rw [frozen?_alloc_cells]; exact frozen_past _ _

set_option maxHeartbeats 400000 in
theorem new_any (a : Option Addr) (len cap : Nat) (w : World) (hr : Row w.heap.size w a len) :
    Calls Try.prog 22 #[.slice a len cap] w fun e w' => e = .returned (.pointer (some ⟨w.heap.size, 0, none⟩)) ∧ St a len cap w.heap.size w' ∧ Off w.heap.size w w' := by
  have Hr := hide hr
  obtain ⟨hl, hr⟩ := hr
  have Hc := hide hr
  clear hr
  go_enter Try.func22, Try.ntmps22
  go_wp2_with fail
  go_loop [3, 4] (fun t i => ∃ k : Nat, k ≤ len ∧ i = .int .i64 k ∧ ∃ x : Int, t = .int .i64 x) (fun _ i => len - (intOf i).toNat)
  case atStart => exact ⟨0, Nat.zero_le _, rfl, _, rfl⟩
  case round =>
    obtain ⟨k, hk, rfl, x, rfl⟩ := hrel
    by_cases hlt : k < len
    · rcases unhide Hc with h0 | ⟨b, off, rfl, hb, hc⟩
      · omega
      obtain ⟨n, n0, n1, hn⟩ := hc k hlt
      clear hc
      go_wp2_with fail
      go_round
      case rel => exact ⟨k + 1, by omega, by go_num, _, rfl⟩
      case measure => simp [intOf]; omega
    · go_wp2_with fail
      go_ret
      refine ⟨rfl, new_st (unhide Hr) _, (Off.refl _ _).alloc _⟩

/-- A slice of integers that came in: nil, or a row of cap cells of which the first len are its elements. -/
def IsRow (k : IntKind) (w : World) (a : Option Addr) (len cap : Nat) (zs : List Int) : Prop :=
  (a = none ∧ len = 0 ∧ cap = 0 ∧ zs = []) ∨
  ∃ x, a = some x ∧ len ≤ cap ∧ cap ≤ maxLen ∧ zs.length = cap ∧ (∀ i, i < zs.length → w.cell? (x.add i) = some (.int k (zs.getD i 0))) ∧ ∀ n ∈ zs, (Lit.int k n).wf = true

theorem row_of {w : World} {a : Option Addr} {len cap : Nat} {zs : List Int} (h : IsRow .u8 w a len cap zs) (hl : len ≤ 4096) : Row w.heap.size w a len := by
  refine ⟨hl, ?_⟩
  rcases h with ⟨_, h0, _, _⟩ | ⟨x, rfl, hlc, hm, hz, hcell, hwz⟩
  · exact .inl h0
  · by_cases h0 : len = 0
    · exact .inl h0
    · obtain ⟨b, off, spot⟩ := x
      have hc := hcell 0 (by omega)
      have hspot : spot = none := by simpa [Addr.add] using World.cell?_spot hc
      subst hspot
      have hlt := World.block_lt_of_cell? _ _ hc
      refine .inr ⟨b, off, rfl, hlt, fun i hi => ?_⟩
      have hiz : i < zs.length := by omega
      have hb := bounds_u8 (hwz zs[i] (List.getElem_mem hiz))
      have hci := hcell i hiz
      rw [show zs.getD i 0 = zs[i] from by simp [List.getD, hiz]] at hci
      refine ⟨zs[i], hb.1, hb.2, ?_⟩
      by_cases hi0 : i = 0
      · subst hi0; simpa [Addr.add] using hci
      · simpa [Addr.add, hi0] using hci

theorem row_below {B : Nat} {w w' : World} {a : Option Addr} {len : Nat} (h : Row B w a len) (hb : Below B w w') : Row B w' a len := by
  refine ⟨h.1, ?_⟩
  rcases h.2 with h0 | ⟨b, off, ha, hlt, hc⟩
  · exact .inl h0
  · refine .inr ⟨b, off, ha, hlt, fun i hi => ?_⟩
    obtain ⟨n, n0, n1, hn⟩ := hc i hi
    exact ⟨n, n0, n1, by rw [hb.cell (p := ⟨b, off + i, none⟩) hlt]; exact hn⟩
theorem row_up {B B' : Nat} {w : World} {a : Option Addr} {len : Nat} (h : Row B w a len) (hB : B ≤ B') : Row B' w a len := by
  refine ⟨h.1, ?_⟩
  rcases h.2 with h0 | ⟨b, off, ha, hlt, hc⟩
  · exact .inl h0
  · exact .inr ⟨b, off, ha, Nat.lt_of_lt_of_le hlt hB, hc⟩
/-- The bytes are still there in a later world, all of whose older blocks are as they were. -/
theorem row_later {w w' : World} {a : Option Addr} {len : Nat} (h : Row w.heap.size w a len) (hb : Below w.heap.size w w') : Row w'.heap.size w' a len := row_up (row_below h hb) hb.size

theorem big_no (a : Option Addr) (len cap : Nat) (w : World) (hl : len ≤ 4096) : Calls Try.prog 8 #[.slice a len cap] w fun e w' => e = .returned (.bool false) ∧ w' = w := by
  have h : ¬ (4096 : Int) < len := by omega
  go_enter Try.func8, Try.ntmps8
  go_wp2
  go_ret
  exact ⟨rfl, rfl⟩
theorem big_yes (a : Option Addr) (len cap : Nat) (w : World) (hl : 4096 < len) : Calls Try.prog 8 #[.slice a len cap] w fun e w' => e = .returned (.bool true) ∧ w' = w := by
  have h : (4096 : Int) < len := by omega
  go_enter Try.func8, Try.ntmps8
  go_wp2
  go_ret
  exact ⟨rfl, rfl⟩

def isI64 : Value → Bool
  | .int .i64 _ => true
  | _ => false
theorem pick_any (cs : Array Value) (j : Nat) (hj : j < cs.size) (h : cs.toList.all isI64 = true) : ∃ v : Int, cs[j]? = some (.int .i64 v) := by
  rw [Array.all_toList, Array.all_eq_true] at h
  have := h j hj
  rw [Array.getElem?_eq_getElem hj]
  generalize cs[j] = c at *
  unfold isI64 at this
  split at this
  · exact ⟨_, rfl⟩
  · cases this

end Go.Proofs.Ytnlonncfnlacdaa.Draw
