/- Part 14 of what the proof rests on. No condition but those that a theorem names. -/
import Derived.Test.YtffcgajndmhpkaaGreatDoorXe13
import Derived.LaidEql
import Derived.Stop.Asserts
import Derived.RowKitTokens
import Derived.Shelf.RegionOpen
set_option maxHeartbeats 8000000
set_option maxRecDepth 100000
namespace Go.Proofs.YtffcgajndmhpkaaGreatDoor
open Go.ChangeShapes Go.WideShapes Go.ChangeAt Go.RowKit Go.Sort
set_option linter.unusedVariables false
theorem scan_who {ss : List SmithV} {b : Int} : ∀ {k : Nat} {wk : Int} {wt : Bool}, scanV ss b k = some (wk, wt) → (∀ i, i < k → (recAt ss i).2.1 = b → (recAt ss i).1 = 3 → (i : Int) = wk) ∧ (wk = -1 ∨ ∃ i : Nat, i < k ∧ wk = (i : Int) ∧ (recAt ss i).2.1 = b ∧ (recAt ss i).1 = 3)
 | 0, wk, wt, h => by
  cases h
  exact ⟨fun i hi => by omega, .inl rfl⟩
 | k + 1, wk, wt, h => by
  unfold scanV at h
  cases hs : scanV ss b k with
  | none => rw [hs] at h; cases h
  | some r =>
   obtain ⟨w0, t0⟩ := r
   rw [hs] at h
   simp only at h
   obtain ⟨i1, i2⟩ := scan_who hs
   split at h
   ·rename_i hb
    split at h
    ·rename_i h2
     cases h
     refine ⟨fun i hi hbi h3 => ?_, i2.imp id (fun ⟨i, hi, hr⟩ => ⟨i, by omega, hr⟩)⟩
     by_cases e : i = k
     ·subst e; rw [h2] at h3; omega
     ·exact i1 i (by omega) hbi h3
    ·rename_i h2
     split at h
     ·cases h
     ·rename_i hw
      cases h
      have h3 : (recAt ss k).1 = 3 := by
       have := hb.2
       unfold presS at this
       simp only [Bool.or_eq_true, beq_iff_eq] at this
       omega
      refine ⟨fun i hi hbi h3' => ?_, .inr ⟨k, by omega, rfl, hb.1, h3⟩⟩
      by_cases e : i = k
      ·rw [e]
      ·have := i1 i (by omega) hbi h3'
       omega
   ·rename_i hb
    cases h
    refine ⟨fun i hi hbi h3 => ?_, i2.imp id (fun ⟨i, hi, hr⟩ => ⟨i, by omega, hr⟩)⟩
    by_cases e : i = k
    ·subst e
     exact absurd ⟨hbi, by unfold presS; rw [h3]; rfl⟩ hb
    ·exact i1 i (by omega) hbi h3
theorem desk_who {m : SmyV} (h : smyB m = true) {b : Nat} (hb : b < m.desks.length) : (∀ i, i < m.smiths.length → (recAt m.smiths i).2.1 = (b : Int) → (recAt m.smiths i).1 = 3 → (i : Int) = (recAt m.desks b).2.1) ∧ ((recAt m.desks b).2.1 = -1 ∨ ∃ i : Nat, i < m.smiths.length ∧ (recAt m.desks b).2.1 = (i : Int) ∧ (recAt m.smiths i).2.1 = (b : Int) ∧ (recAt m.smiths i).1 = 3) := by
 unfold smyB at h
 simp only [Bool.and_eq_true] at h
 have hk := List.all_eq_true.1 h.2 b (List.mem_range.2 hb)
 unfold benchOkB at hk
 cases hs : scanV m.smiths (b : Int) m.smiths.length with
 | none => rw [hs] at hk; cases hk
 | some r =>
  obtain ⟨wk, wt⟩ := r
  rw [hs] at hk
  simp only [Bool.and_eq_true, beq_iff_eq] at hk
  rw [hk.1]
  exact scan_who hs
theorem seat_bn {m : SmyV} (h : Loose m) {k : Nat} (hk : k < m.smiths.length) (hs : (recAt m.smiths k).1 ≠ 0) : ∃ bn : Nat, (recAt m.smiths k).2.1 = (bn : Int) ∧ bn < m.desks.length := by
 obtain ⟨p, _, hb⟩ := h.limits hk hs
 obtain ⟨⟨st, be, rk, my, gu, lo, hi, hd, ca, ut, wk⟩, hrk⟩ : ∃ d, recAt m.smiths k = d := ⟨_, rfl⟩
 rw [hrk] at p hb
 obtain ⟨_, ⟨b0, b1⟩, _⟩ := presB_of p
 refine ⟨be.toNat, ?_, ?_⟩
 ·rw [hrk]; show be = _; omega
 ·have hb' : be < (m.desks.length : Int) := hb
  omega
def chF (m : SmyV) (n : Int) (s : SmithV) : SmithV := if s.1 = 3 then (chargedV s (n * forceNow m s.2.1)).1 else s
def chS (m : SmyV) (n : Int) (b : Nat) (s : SmithV) : SmithV := if s.1 = 3 ∧ s.2.1 < (b : Int) then (chargedV s (n * forceNow m s.2.1)).1 else s
def fdS (m : SmyV) (n : Int) (s : SmithV) : SmithV := utilS (chF m n s) (fadedManyV (utilOf (chF m n s)) (if s.1 = 3 then forceNow m s.2.1 else 0) n)
structure Ch (m : SmyV) (n : Int) (b : Nat) (ss : List SmithV) : Prop where
 len : ss.length = m.smiths.length
 one : ∀ i, i < m.smiths.length → recAt ss i = chS m n b (recAt m.smiths i)
 ok : ∀ i, i < m.smiths.length → (recAt m.smiths i).1 = 3 → (recAt m.smiths i).2.1 < (b : Int) → (chargedV (recAt m.smiths i) (n * forceNow m (recAt m.smiths i).2.1)).2 = true
structure Fd (m : SmyV) (n : Int) (k : Nat) (ss : List SmithV) : Prop where
 len : ss.length = m.smiths.length
 one : ∀ i, i < m.smiths.length → recAt ss i = if i < k then fdS m n (recAt m.smiths i) else chF m n (recAt m.smiths i)
 ok : ∀ i, i < m.smiths.length → (recAt m.smiths i).1 = 3 → (chargedV (recAt m.smiths i) (n * forceNow m (recAt m.smiths i).2.1)).2 = true
theorem ch_zero {m : SmyV} (hm : smyB m = true) (n : Int) : Ch m n 0 m.smiths := by
 have hb : ∀ i, i < m.smiths.length → (recAt m.smiths i).1 = 3 → ¬ (recAt m.smiths i).2.1 < ((0 : Nat) : Int) := fun i hi h3 => by
  obtain ⟨bn, e, _⟩ := seat_bn (smy_loose hm) hi (by omega)
  omega
 refine ⟨rfl, fun i hi => ?_, fun i hi h3 hlt => absurd hlt (hb i hi h3)⟩
 unfold chS
 rw [if_neg (fun h => hb i hi h.1 h.2)]
theorem ch_skip {m : SmyV} (hm : smyB m = true) {n : Int} {b : Nat} (hb : b < m.desks.length) {ss : List SmithV} (h : Ch m n b ss) (hw : (recAt m.desks b).2.1 = -1) : Ch m n (b + 1) ss := by
 have hn : ∀ i, i < m.smiths.length → (recAt m.smiths i).1 = 3 → ((recAt m.smiths i).2.1 < ((b + 1 : Nat) : Int) ↔ (recAt m.smiths i).2.1 < (b : Int)) := fun i hi h3 => by
  have := (desk_who hm hb).1 i hi
  constructor
  ·intro hlt
   by_cases e : (recAt m.smiths i).2.1 = (b : Int)
   ·have := this e h3; omega
   ·omega
  ·intro hlt; omega
 refine ⟨h.len, fun i hi => ?_, fun i hi h3 hlt => h.ok i hi h3 ((hn i hi h3).1 hlt)⟩
 rw [h.one i hi]
 unfold chS
 by_cases h3 : (recAt m.smiths i).1 = 3
 ·by_cases e : (recAt m.smiths i).2.1 < (b : Int)
  ·rw [if_pos ⟨h3, e⟩, if_pos ⟨h3, (hn i hi h3).2 e⟩]
  ·rw [if_neg (fun x => e x.2), if_neg (fun x => e ((hn i hi h3).1 x.2))]
 ·rw [if_neg (fun x => h3 x.1), if_neg (fun x => h3 x.1)]
theorem ch_at {m : SmyV} {n : Int} {b k : Nat} {ss : List SmithV} (h : Ch m n b ss) (hk : k < m.smiths.length) (hbk : (recAt m.smiths k).2.1 = (b : Int)) : recAt ss k = recAt m.smiths k := by
 rw [h.one k hk]
 unfold chS
 rw [if_neg (fun x => by have := x.2; omega)]
theorem ch_step {m : SmyV} (hm : smyB m = true) {n : Int} {b k : Nat} (hb : b < m.desks.length) {ss : List SmithV} (h : Ch m n b ss) (hk : k < m.smiths.length) (hw : (recAt m.desks b).2.1 = (k : Int)) (hbk : (recAt m.smiths k).2.1 = (b : Int)) (h3 : (recAt m.smiths k).1 = 3) {y : SmithV} (hy : chargedV (recAt m.smiths k) (n * forceNow m (b : Int)) = (y, true)) : Ch m n (b + 1) (ss.set k y) := by
 have hu : ∀ i, i < m.smiths.length → (recAt m.smiths i).1 = 3 → i ≠ k → ((recAt m.smiths i).2.1 < ((b + 1 : Nat) : Int) ↔ (recAt m.smiths i).2.1 < (b : Int)) := fun i hi h3 hne => by
  have := (desk_who hm hb).1 i hi
  constructor
  ·intro hlt
   by_cases e : (recAt m.smiths i).2.1 = (b : Int)
   ·have := this e h3; omega
   ·omega
  ·intro hlt; omega
 refine ⟨by rw [List.length_set]; exact h.len, fun i hi => ?_, fun i hi h3' hlt => ?_⟩
 ·rw [recAt_set (by rw [h.len]; exact hk)]
  by_cases e : i = k
  ·subst e
   rw [if_pos rfl]
   unfold chS
   rw [if_pos ⟨h3, by omega⟩, hbk, hy]
  ·rw [if_neg e, h.one i hi]
   unfold chS
   by_cases h3' : (recAt m.smiths i).1 = 3
   ·by_cases e' : (recAt m.smiths i).2.1 < (b : Int)
    ·rw [if_pos ⟨h3', e'⟩, if_pos ⟨h3', (hu i hi h3' e).2 e'⟩]
    ·rw [if_neg (fun x => e' x.2), if_neg (fun x => e' ((hu i hi h3' e).1 x.2))]
   ·rw [if_neg (fun x => h3' x.1), if_neg (fun x => h3' x.1)]
 ·by_cases e : i = k
  ·subst e; rw [hbk, hy]
  ·exact h.ok i hi h3' ((hu i hi h3' e).1 hlt)
theorem tick_none {m : SmyV} {n : Int} {k : Nat} (hk : k < m.smiths.length) (h : tickS m n (recAt m.smiths k) = none) : tickTo m n m.smiths.length = none := by
 have hn : tickTo m n (k + 1) = none := by
  unfold tickTo
  cases ht : tickTo m n k with
  | none => rfl
  | some ss => rw [h]
 have := tickTo_none (m.smiths.length - (k + 1)) hn
 rwa [show k + 1 + (m.smiths.length - (k + 1)) = m.smiths.length by omega] at this
theorem ch_fail {m : SmyV} {n : Int} {b k : Nat} (hk : k < m.smiths.length) (hbk : (recAt m.smiths k).2.1 = (b : Int)) (h3 : (recAt m.smiths k).1 = 3) {y : SmithV} (hy : chargedV (recAt m.smiths k) (n * forceNow m (b : Int)) = (y, false)) : tickTo m n m.smiths.length = none := by
 refine tick_none hk ?_
 unfold tickS
 rw [if_neg (by omega), if_pos h3, hbk, hy]
 rfl
theorem fd_zero {m : SmyV} (hm : smyB m = true) {n : Int} {ss : List SmithV} (h : Ch m n m.desks.length ss) : Fd m n 0 ss := by
 have hb : ∀ i, i < m.smiths.length → (recAt m.smiths i).1 = 3 → (recAt m.smiths i).2.1 < (m.desks.length : Int) := fun i hi h3 => by
  obtain ⟨bn, e, _⟩ := seat_bn (smy_loose hm) hi (by omega)
  omega
 refine ⟨h.len, fun i hi => ?_, fun i hi h3 => h.ok i hi h3 (hb i hi h3)⟩
 rw [if_neg (by omega), h.one i hi]
 unfold chS chF
 by_cases h3 : (recAt m.smiths i).1 = 3
 ·rw [if_pos ⟨h3, hb i hi h3⟩, if_pos h3]
 ·rw [if_neg (fun x => h3 x.1), if_neg h3]
theorem fd_at {m : SmyV} {n : Int} {k : Nat} {ss : List SmithV} (h : Fd m n k ss) (hk : k < m.smiths.length) : recAt ss k = chF m n (recAt m.smiths k) := by rw [h.one k hk, if_neg (by omega)]
theorem fd_step {m : SmyV} {n : Int} {k : Nat} {ss : List SmithV} (h : Fd m n k ss) (hk : k < m.smiths.length) : Fd m n (k + 1) (ss.set k (fdS m n (recAt m.smiths k))) := by
 refine ⟨by rw [List.length_set]; exact h.len, fun i hi => ?_, h.ok⟩
 rw [recAt_set (by rw [h.len]; exact hk)]
 by_cases e : i = k
 ·subst e; rw [if_pos rfl, if_pos (by omega)]
 ·rw [if_neg e, h.one i hi]
  by_cases e' : i < k
  ·rw [if_pos e', if_pos (by omega)]
  ·rw [if_neg e', if_neg (by omega)]
theorem fade_nought : ∀ n : Nat, fadeN 0 n 0 = 0
 | 0 => rfl
 | n + 1 => by unfold fadeN; exact fade_nought n
theorem tick_one {m : SmyV} (hm : smyB m = true) {n : Int} (hn : inB n 1 20 = true) {i : Nat} (hi : i < m.smiths.length) (hok : (recAt m.smiths i).1 = 3 → (chargedV (recAt m.smiths i) (n * forceNow m (recAt m.smiths i).2.1)).2 = true) : tickS m n (recAt m.smiths i) = some (fdS m n (recAt m.smiths i)) := by
 have hn1 := inB_of hn
 by_cases h0 : (recAt m.smiths i).1 = 0
 ·have hz : recAt m.smiths i = zeroS := by
   rcases here_iff.1 ((smy_loose hm).here i hi) with e | e
   ·exact e
   ·have e1 := e.1
    rw [presB_st h0] at e1
    cases e1
  rw [hz]
  unfold tickS fdS chF
  rw [if_pos (show zeroS.1 = 0 from rfl), if_neg (show ¬ zeroS.1 = 3 by decide)]
  rw [show (if zeroS.1 = 3 then forceNow m zeroS.2.1 else (0 : Int)) = 0 from if_neg (by decide)]
  have : fadedManyV (utilOf zeroS) 0 n = 0 := by
   unfold fadedManyV
   rw [show inB (utilOf zeroS) 0 1024 = true from rfl, show inB 0 0 1024 = true from rfl, inB_t (x := n) (by omega) (by omega)]
   exact fade_nought _
  rw [this]
  rfl
 by_cases h3 : (recAt m.smiths i).1 = 3
 ·have := hok h3
  unfold tickS fdS chF
  rw [if_neg h0, if_pos h3, if_pos this, if_pos h3, if_pos h3]
 ·unfold tickS fdS chF
  rw [if_neg h0, if_neg h3, if_neg h3, if_neg h3]
theorem fd_done {m : SmyV} (hm : smyB m = true) {n : Int} (hn : inB n 1 20 = true) {ss : List SmithV} (h : Fd m n m.smiths.length ss) : tickTo m n m.smiths.length = some ss := by
 have hx : ∀ k, k ≤ m.smiths.length → ∃ ts, tickTo m n k = some ts ∧ ∀ i, i < k → recAt ts i = fdS m n (recAt m.smiths i) := by
  intro k
  induction k with
  | zero => intro _; exact ⟨_, rfl, fun i hi => by omega⟩
  | succ k ih =>
   intro hk
   obtain ⟨ts, e, ht⟩ := ih (by omega)
   have hl := (tickTo_same e).1
   refine ⟨ts.set k (fdS m n (recAt m.smiths k)), ?_, fun i hi => ?_⟩
   ·unfold tickTo
    rw [e]
    simp only
    rw [tick_one hm hn (by omega) (h.ok k (by omega))]
   ·rw [recAt_set (by omega)]
    by_cases e' : i = k
    ·subst e'; rw [if_pos rfl]
    ·rw [if_neg e', ht i (by omega)]
 obtain ⟨ts, e, ht⟩ := hx _ (Nat.le_refl _)
 rw [e]
 congr 1
 refine recs_ext (by rw [h.len, (tickTo_same e).1]) (fun i hi => ?_)
 rw [(tickTo_same e).1] at hi
 rw [ht i hi, h.one i hi, if_pos hi]
def tickC (m : SmyV) (n : Int) : Int := if inB n 1 20 then (match tickTo m n m.smiths.length with
 | none => 4
 | some ss => if looseB (tickX m n ss) then 0 else 4) else 3
def tickY (m : SmyV) (n : Int) : SmyV := match tickTo m n m.smiths.length with
 | none => m
 | some ss => tickX m n ss
theorem tick_is (m : SmyV) (n : Int) : tickV m n = doneV m (tickY m n) (tickC m n) := by
 cases h : smyB m
 ·rw [done_bad h]; unfold tickV; rw [h]; rfl
 unfold tickV tickC tickY
 rw [h]
 simp only [if_true]
 cases hn : inB n 1 20
 ·rw [if_neg (by simp), if_neg (by simp), done_no h _ (by omega)]
 rw [if_pos rfl, if_pos rfl]
 cases ht : tickTo m n m.smiths.length with
 | none => simp only; rw [done_no h _ (by omega)]
 | some ss =>
  simp only
  cases hl : looseB (tickX m n ss)
  ·rw [if_neg (by simp), if_neg (by simp), done_no h _ (by omega)]
  ·rw [if_pos rfl, if_pos rfl, done_yes h, turned_is (loose_of hl)]
def grantC (m : SmyV) (room pace : Int) : Int := if isRoomB m room then (if inB pace 0 (((roomAt m.rooms room.toNat).2.length : Int) - 1) then 0 else 3) else 1
def grantX (m : SmyV) (room pace : Int) : SmyV := setP m room.toNat pace
theorem grant_is (m : SmyV) (room pace : Int) : grantV m room pace = doneV m (grantX m room pace) (grantC m room pace) := by
 cases h : smyB m
 ·rw [done_bad h]; unfold grantV; rw [h]; rfl
 unfold grantV grantC grantX
 rw [h]
 simp only [if_true]
 cases hr : isRoomB m room
 ·rw [if_neg (by simp), if_neg (by simp), done_no h _ (by omega)]
 rw [if_pos rfl, if_pos rfl]
 cases hp : inB pace 0 (((roomAt m.rooms room.toNat).2.length : Int) - 1)
 ·rw [if_neg (by simp), if_neg (by simp), done_no h _ (by omega)]
 rw [if_pos rfl, if_pos rfl, done_yes h]
 obtain ⟨k, rfl, hk⟩ := room_of hr
 rw [show ((k : Int)).toNat = k by simp] at hp ⊢
 have := inB_of hp
 rw [turned_is (keep_pace (smy_loose h) hk (by omega) (by omega))]
open Go.ChangeShapes Go.WideShapes Go.ChangeAt Go.RowKit
set_option linter.unusedSimpArgs false
abbrev sent (a : Addr) : Value := .iface 320 (.pointer (some a))
abbrev refu (b : Nat) : Value := .iface 122 (.pointer (some ⟨b, 0, none⟩))
abbrev rty (t : Nat) : Value := .iface 222 (.agg #[.pointer (some ⟨6, t, none⟩)])
theorem tyE (v : Value) (w : World) : (callFunc 199 #[.iface 320 v]).run Tryz.prog w = .ok (.value (rty 320)) w := by
 rw [@run_callFunc_extern Tryz.prog 199 _ Extern.ReflectliteType.typeOf Tryz.func199 (by kernel_rfl) (by kernel_rfl) (by kernel_rfl) (by kernel_rfl)]
 kernel_rfl
theorem tyR (v : Value) (w : World) : (callFunc 199 #[.iface 122 v]).run Tryz.prog w = .ok (.value (rty 122)) w := by
 rw [@run_callFunc_extern Tryz.prog 199 _ Extern.ReflectliteType.typeOf Tryz.func199 (by kernel_rfl) (by kernel_rfl) (by kernel_rfl) (by kernel_rfl)]
 kernel_rfl
theorem mCmp (v : Value) (w : World) : (method 464 222 v "Comparable").run Tryz.prog w = .ok (361, v) w := by kernel_rfl
theorem cmpE (w : World) : (callFunc 361 #[.agg #[.pointer (some ⟨6, 320, none⟩)]]).run Tryz.prog w = .ok (.value (.bool true)) w := by
 rw [@run_callFunc_extern Tryz.prog 361 _ (Extern.ReflectliteType.method fun t => do Extern.Rtype.noPackHeld "Comparable" t; pure (.bool (← typeInfo t).comparable)) Tryz.func361 (by kernel_rfl) (by kernel_rfl) (by kernel_rfl) (by kernel_rfl)]
 kernel_rfl
theorem isComp : (Tryz.prog.info? 320).map (·.comparable) = some true := by kernel_rfl
theorem isSize : (Tryz.prog.info? 351).map (·.size) = some 1 := by kernel_rfl
theorem noIsE (v : Value) (xT : TypeId) (w : World) : (Instr.typeAssert (.iface 320 v) xT 265 true).run Tryz.prog w = .ok (.tuple #[.nilIface, .bool false]) w := run_typeAssert_lacksB Tryz.underlying265 (by kernel_rfl) (by kernel_rfl) v xT w
theorem noUnwrapE (v : Value) (xT : TypeId) (w : World) : (Instr.typeAssert (.iface 320 v) xT 230 true).run Tryz.prog w = .ok (.tuple #[.nilIface, .bool false]) w := run_typeAssert_lacksB Tryz.underlying230 (by kernel_rfl) (by kernel_rfl) v xT w
theorem noUnwrapsE (v : Value) (xT : TypeId) (w : World) : (Instr.typeAssert (.iface 320 v) xT 232 true).run Tryz.prog w = .ok (.tuple #[.nilIface, .bool false]) w := run_typeAssert_lacksB Tryz.underlying232 (by kernel_rfl) (by kernel_rfl) v xT w
theorem noIsR (v : Value) (xT : TypeId) (w : World) : (Instr.typeAssert (.iface 122 v) xT 265 true).run Tryz.prog w = .ok (.tuple #[.nilIface, .bool false]) w := run_typeAssert_lacksB Tryz.underlying265 (by kernel_rfl) (by kernel_rfl) v xT w
theorem hasUnwrapR (v : Value) (xT : TypeId) (w : World) : (Instr.typeAssert (.iface 122 v) xT 230 true).run Tryz.prog w = .ok (.tuple #[.iface 122 v, .bool true]) w := run_typeAssert_hasB Tryz.underlying230 (by kernel_rfl) v xT w
theorem mUnwrap (v : Value) (w : World) : (method 464 122 v "Unwrap").run Tryz.prog w = .ok (343, v) w := by kernel_rfl
theorem is_other {a b : Addr} {ca cb : Array Value} {ta tb : TypeId} (w : World) (hne : a ≠ b) (ha : w.heap[a.block]? = some (.cells ca ta (0, 0))) (hb : w.heap[b.block]? = some (.cells cb tb (0, 0))) : Calls Tryz.prog 146 #[sent a, sent b] w fun e w' => e = .returned (.bool false) ∧ w' = w := by
 obtain ⟨i, hi, hcmp⟩ := Option.map_eq_some_iff.1 isComp
 obtain ⟨j, hj, hjs⟩ := Option.map_eq_some_iff.1 isSize
 have tT := tyE
 have cT := cmpE
 have mR := mCmp
 have nE := noIsE
 have uE := noUnwrapE
 have vE := noUnwrapsE
 have heq := run_eql_iface_ptr_other (P := Tryz.prog) w Tryz.underlying74 Tryz.underlying320 hi hcmp hj (by rw [hjs]; decide) hne ha hb
 go_enter Tryz.func146, Tryz.ntmps146
 go_wp2
 refine wp_loop_rounds 1 ?_
 rw [rounds_succ]
 go_wp2
 go_ret
 exact ⟨rfl, rfl⟩
theorem is_wrap_same (pb : Nat) (b : Addr) (w : World) (h1 : w.cell? ⟨pb, 6, none⟩ = some (sent b)) : Calls Tryz.prog 146 #[refu pb, sent b] w fun e w' => e = .returned (.bool true) ∧ w' = w := by
 obtain ⟨i, hi, hcmp⟩ := Option.map_eq_some_iff.1 isComp
 obtain ⟨j, hj, hjs⟩ := Option.map_eq_some_iff.1 isSize
 have tT := tyE
 have cT := cmpE
 have mR := mCmp
 have nW := noIsR
 have uW := hasUnwrapR
 have mU := mUnwrap
 have heq := run_eql_iface_ptr_same (P := Tryz.prog) w b Tryz.underlying74 Tryz.underlying320 hi hcmp hj
 have hty := run_eql_iface_types (P := Tryz.prog) 122 320 (.pointer (some ⟨pb, 0, none⟩)) (.pointer (some b)) Tryz.underlying74 (by decide) w
 go_enter Tryz.func146, Tryz.ntmps146
 go_wp2
 refine wp_loop_rounds 2 ?_
 rw [rounds_succ]
 go_wp2
 rw [rounds_succ]
 go_wp2
 go_ret
 exact ⟨rfl, rfl⟩
theorem is_wrap_other (pb : Nat) {a b : Addr} {ca cb : Array Value} {ta tb : TypeId} (w : World) (h1 : w.cell? ⟨pb, 6, none⟩ = some (sent a)) (hne : a ≠ b) (ha : w.heap[a.block]? = some (.cells ca ta (0, 0))) (hb : w.heap[b.block]? = some (.cells cb tb (0, 0))) : Calls Tryz.prog 146 #[refu pb, sent b] w fun e w' => e = .returned (.bool false) ∧ w' = w := by
 obtain ⟨i, hi, hcmp⟩ := Option.map_eq_some_iff.1 isComp
 obtain ⟨j, hj, hjs⟩ := Option.map_eq_some_iff.1 isSize
 have tT := tyE
 have cT := cmpE
 have mR := mCmp
 have nE := noIsE
 have uE := noUnwrapE
 have vE := noUnwrapsE
 have nW := noIsR
 have uW := hasUnwrapR
 have mU := mUnwrap
 have heq := run_eql_iface_ptr_other (P := Tryz.prog) w Tryz.underlying74 Tryz.underlying320 hi hcmp hj (by rw [hjs]; decide) hne ha hb
 have hty := run_eql_iface_types (P := Tryz.prog) 122 320 (.pointer (some ⟨pb, 0, none⟩)) (.pointer (some b)) Tryz.underlying74 (by decide) w
 go_enter Tryz.func146, Tryz.ntmps146
 go_wp2
 refine wp_loop_rounds 2 ?_
 rw [rounds_succ]
 go_wp2
 rw [rounds_succ]
 go_wp2
 go_ret
 exact ⟨rfl, rfl⟩
abbrev tgt (b : Nat) : Value := .iface 124 (.pointer (some ⟨b, 0, none⟩))
abbrev valP (b : Nat) : Value := .agg #[.pointer (some ⟨6, 124, none⟩), .pointer (some ⟨b, 0, none⟩), .int .u64 150]
abbrev valE (b : Nat) : Value := .agg #[.pointer (some ⟨6, 122, none⟩), .pointer (some ⟨b, 0, none⟩), .int .u64 406]
abbrev valR (b : Nat) : Value := .agg #[.pointer (some ⟨6, 122, none⟩), .pointer (some ⟨b, 0, none⟩), .int .u64 150]
open Extern.ReflectliteValue in
theorem vOfT (b : Nat) (w : World) : (callFunc 142 #[tgt b]).run Tryz.prog w = .ok (.value (valP w.heap.size)) (w.alloc (.cells #[.pointer (some ⟨b, 0, none⟩)] 124)) := by
 rw [@run_callFunc_extern Tryz.prog 142 _ (fun args => unpack (args.getD 0 (.tuple #[]))) Tryz.func142 (by kernel_rfl) (by kernel_rfl) (by kernel_rfl) (by kernel_rfl)]
 kernel_rfl
open Extern.ReflectliteValue in
theorem vOfR (b : Nat) (w : World) : (callFunc 142 #[refu b]).run Tryz.prog w = .ok (.value (valR w.heap.size)) (w.alloc (.cells #[.pointer (some ⟨b, 0, none⟩)] 122)) := by
 rw [@run_callFunc_extern Tryz.prog 142 _ (fun args => unpack (args.getD 0 (.tuple #[]))) Tryz.func142 (by kernel_rfl) (by kernel_rfl) (by kernel_rfl) (by kernel_rfl)]
 kernel_rfl
open Extern.ReflectliteValue in
theorem vType (b : Nat) (w : World) : (callFunc 143 #[valP b]).run Tryz.prog w = .ok (.value (rty 124)) w := by
 rw [@run_callFunc_extern Tryz.prog 143 _ (methodAny (valueError "reflectlite.Value.Type" 0) fun t _ _ _ => Extern.ReflectliteType.toType t) Tryz.func143 (by kernel_rfl) (by kernel_rfl) (by kernel_rfl) (by kernel_rfl)]
 kernel_rfl
theorem mKind (p : Value) (w : World) : (method 464 222 (.agg #[p]) "Kind").run Tryz.prog w = .ok (338, p) w := by kernel_rfl
theorem mElem (v : Value) (w : World) : (method 464 222 v "Elem").run Tryz.prog w = .ok (362, v) w := by kernel_rfl
theorem mImpl (v : Value) (w : World) : (method 464 222 v "Implements").run Tryz.prog w = .ok (363, v) w := by kernel_rfl
theorem mAssi (v : Value) (w : World) : (method 464 222 v "AssignableTo").run Tryz.prog w = .ok (360, v) w := by kernel_rfl
theorem kindP (w : World) : (callFunc 338 #[.pointer (some ⟨6, 124, none⟩)]).run Tryz.prog w = .ok (.value (.int .u8 22)) w := by
 rw [@run_callFunc_extern Tryz.prog 338 _ (Extern.ReflectliteType.abiMethod fun t => do pure (.int .u8 (← Extern.Rtype.kind t))) Tryz.func338 (by kernel_rfl) (by kernel_rfl) (by kernel_rfl) (by kernel_rfl)]
 kernel_rfl
theorem kindR (w : World) : (callFunc 338 #[.pointer (some ⟨6, 122, none⟩)]).run Tryz.prog w = .ok (.value (.int .u8 22)) w := by
 rw [@run_callFunc_extern Tryz.prog 338 _ (Extern.ReflectliteType.abiMethod fun t => do pure (.int .u8 (← Extern.Rtype.kind t))) Tryz.func338 (by kernel_rfl) (by kernel_rfl) (by kernel_rfl) (by kernel_rfl)]
 kernel_rfl
theorem elemP (w : World) : (callFunc 362 #[.agg #[.pointer (some ⟨6, 124, none⟩)]]).run Tryz.prog w = .ok (.value (rty 122)) w := by
 rw [@run_callFunc_extern Tryz.prog 362 _ (Extern.ReflectliteType.method Extern.ReflectliteType.elem) Tryz.func362 (by kernel_rfl) (by kernel_rfl) (by kernel_rfl) (by kernel_rfl)]
 kernel_rfl
theorem implR (w : World) : (callFunc 363 #[.agg #[.pointer (some ⟨6, 122, none⟩)], rty 74]).run Tryz.prog w = .ok (.value (.bool true)) w := by
 rw [@run_callFunc_extern Tryz.prog 363 _ (Extern.ReflectliteType.relation "Implements" Extern.ReflectliteType.implements_) Tryz.func363 (by kernel_rfl) (by kernel_rfl) (by kernel_rfl) (by kernel_rfl)]
 kernel_rfl
theorem assiE (w : World) : (callFunc 360 #[.agg #[.pointer (some ⟨6, 320, none⟩)], rty 122]).run Tryz.prog w = .ok (.value (.bool false)) w := by
 rw [@run_callFunc_extern Tryz.prog 360 _ (Extern.ReflectliteType.relation "AssignableTo" Extern.ReflectliteType.assignableTo) Tryz.func360 (by kernel_rfl) (by kernel_rfl) (by kernel_rfl) (by kernel_rfl)]
 kernel_rfl
theorem assiR (w : World) : (callFunc 360 #[.agg #[.pointer (some ⟨6, 122, none⟩)], rty 122]).run Tryz.prog w = .ok (.value (.bool true)) w := by
 rw [@run_callFunc_extern Tryz.prog 360 _ (Extern.ReflectliteType.relation "AssignableTo" Extern.ReflectliteType.assignableTo) Tryz.func360 (by kernel_rfl) (by kernel_rfl) (by kernel_rfl) (by kernel_rfl)]
 kernel_rfl
theorem noAsE (v : Value) (xT : TypeId) (w : World) : (Instr.typeAssert (.iface 320 v) xT 227 true).run Tryz.prog w = .ok (.tuple #[.nilIface, .bool false]) w := run_typeAssert_lacksB Tryz.underlying227 (by kernel_rfl) (by kernel_rfl) v xT w
open Extern.ReflectliteValue in
theorem vNil (b : Nat) (x : Addr) (w : World) (hc : w.cell? ⟨b, 0, none⟩ = some (.pointer (some x))) : (callFunc 144 #[valP b]).run Tryz.prog w = .ok (.value (.bool false)) w := by
 rw [@run_callFunc_extern Tryz.prog 144 _ (Extern.ReflectliteValue.method (valueError "reflectlite.Value.IsNil" 0) isNil) Tryz.func144 (by kernel_rfl) (by kernel_rfl) (by kernel_rfl) (by kernel_rfl)]
 have hp : (parts (valP b)).run Tryz.prog w = .ok (some (124, ⟨b, 0, none⟩, 150)) w := by kernel_rfl
 have ha : (isAgg 124).run Tryz.prog w = .ok false w := by kernel_rfl
 have hl : (loadVar 124 ⟨b, 0, none⟩).run Tryz.prog w = .ok (.pointer (some x)) w := by simp [loadVar, ha, run_load, hc]
 show ((do match ← parts (valP b) with | none => valueError "reflectlite.Value.IsNil" 0 | some (t, a, fl) => isNil t a fl (fl % 32) : Sem Value).run Tryz.prog w).andThen _ = _
 simp [hp, isNil, hl]
open Extern.ReflectliteValue in
theorem vElem (b r : Nat) (w : World) (hc : w.cell? ⟨b, 0, none⟩ = some (.pointer (some ⟨r, 0, none⟩))) : (callFunc 200 #[valP b]).run Tryz.prog w = .ok (.value (valE r)) w := by
 rw [@run_callFunc_extern Tryz.prog 200 _ (Extern.ReflectliteValue.method (valueError "reflectlite.Value.Elem" 0) elem) Tryz.func200 (by kernel_rfl) (by kernel_rfl) (by kernel_rfl) (by kernel_rfl)]
 have hp : (parts (valP b)).run Tryz.prog w = .ok (some (124, ⟨b, 0, none⟩, 150)) w := by kernel_rfl
 have ha : (isAgg 124).run Tryz.prog w = .ok false w := by kernel_rfl
 have hl : (loadVar 124 ⟨b, 0, none⟩).run Tryz.prog w = .ok (.pointer (some ⟨r, 0, none⟩)) w := by simp [loadVar, ha, run_load, hc]
 have he : (Extern.Rtype.elem? 124).run Tryz.prog w = .ok (some 122) w := by kernel_rfl
 have hm : (mk 122 ⟨r, 0, none⟩ flagAddr).run Tryz.prog w = .ok (valE r) w := by kernel_rfl
 show ((do match ← parts (valP b) with | none => valueError "reflectlite.Value.Elem" 0 | some (t, a, fl) => elem t a fl (fl % 32) : Sem Value).run Tryz.prog w).andThen _ = _
 simp [hp, elem, hl, he, hm]
open Extern.ReflectliteValue in
theorem vSet (b r p : Nat) (w : World) (hc : w.cell? ⟨b, 0, none⟩ = some (.pointer (some ⟨p, 0, none⟩))) (hr : w.cell? ⟨r, 0, none⟩ = some (.pointer none)) (hzr : w.frozen? ⟨r, 0, none⟩ = false) : (callFunc 201 #[valE r, valR b]).run Tryz.prog w = .ok (.value (.tuple #[])) (w.setCell ⟨r, 0, none⟩ (.pointer (some ⟨p, 0, none⟩))) := by
 rw [@run_callFunc_extern Tryz.prog 201 _ Extern.ReflectliteValue.set Tryz.func201 (by kernel_rfl) (by kernel_rfl) (by kernel_rfl) (by kernel_rfl)]
 have hp : (parts (valE r)).run Tryz.prog w = .ok (some (122, ⟨r, 0, none⟩, 406)) w := by kernel_rfl
 have hq : (parts (valR b)).run Tryz.prog w = .ok (some (122, ⟨b, 0, none⟩, 150)) w := by kernel_rfl
 have ha : (isAgg 122).run Tryz.prog w = .ok false w := by kernel_rfl
 have hl : (loadVar 122 ⟨b, 0, none⟩).run Tryz.prog w = .ok (.pointer (some ⟨p, 0, none⟩)) w := by simp [loadVar, ha, run_load, hc]
 have hd : (Extern.Rtype.directlyAssignable 122 122).run Tryz.prog w = .ok true w := by kernel_rfl
 have hs : (storeVar 122 ⟨r, 0, none⟩ (.pointer (some ⟨p, 0, none⟩))).run Tryz.prog w = .ok () (w.setCell ⟨r, 0, none⟩ (.pointer (some ⟨p, 0, none⟩))) := by
  have hz : (sizeOf 122).run Tryz.prog w = .ok 1 w := by kernel_rfl
  simp [storeVar, hz, storeCells, Value.cells]
  show (store ⟨r, 0, none⟩ (.pointer (some ⟨p, 0, none⟩))).run Tryz.prog w = _
  rw [run_store _ _ _ _ _ rfl, hr]
  simp [hzr]
 have h0 : (Extern.ReflectliteValue.set #[valE r, valR b]).run Tryz.prog w = .ok (.tuple #[]) (w.setCell ⟨r, 0, none⟩ (.pointer (some ⟨p, 0, none⟩))) := by
  unfold Extern.ReflectliteValue.set
  show Sem.run Tryz.prog (parts (valE r) >>= _) w = _
  rw [Sem.run_bind, hp]
  simp only [Result.andThen_ok]
  show Sem.run Tryz.prog (parts (valR b) >>= _) w = _
  rw [Sem.run_bind, hq]
  simp only [Result.andThen_ok]
  simp [hl, hd, hs, flagAddr]
 rw [h0]; rfl
theorem as_nil (v : Value) (w : World) : Calls Tryz.prog 93 #[.nilIface, v] w fun e w' => e = .returned (.bool false) ∧ w' = w := by
 go_enter Tryz.func93, Tryz.ntmps93
 go_wp2
 go_ret
 exact ⟨rfl, rfl⟩
abbrev asW (b : Nat) (w : World) : World := (w.alloc (.cells #[.pointer (some ⟨b, 0, none⟩)] 124)).alloc (.cells #[.pointer (some ⟨6, 124, none⟩), .pointer (some ⟨w.heap.size, 0, none⟩), .int .u64 150] 175)
theorem asW_cell (b : Nat) (w : World) : (asW b w).cell? ⟨w.heap.size, 0, none⟩ = some (.pointer (some ⟨b, 0, none⟩)) := by go_simp
theorem asW_below (b : Nat) (w : World) : Below w.heap.size w (asW b w) := ((ba _ _)).alloc (by simp) _
theorem as_no (a : Addr) (b : Nat) (w : World) (hT : w.cell? ⟨2, 0, none⟩ = some (rty 74)) : Calls Tryz.prog 93 #[sent a, tgt b] w fun e w' => e = .returned (.bool false) ∧ Below w.heap.size w w' := by
 have h1 := vOfT
 have h2 := vType
 have h3 := mKind
 have h4 := kindP
 have h5 := kindR
 have h6 := mElem
 have h7 := elemP
 have h8 := mImpl
 have h9 := implR
 have h10 := vNil w.heap.size ⟨b, 0, none⟩ (asW b w) (asW_cell b w)
 have hT2 : (asW b w).cell? ⟨2, 0, none⟩ = some (rty 74) := ((asW_below b w).cell (World.block_lt_of_cell? _ _ hT)).trans hT
 have t1 := tyE
 have t2 := mAssi
 have t3 := assiE
 have t4 := noAsE
 have uE := noUnwrapE
 have vE := noUnwrapsE
 go_enter Tryz.func93, Tryz.ntmps93
 go_wp2
 refine wp_loop_rounds 1 ?_
 rw [rounds_succ]
 go_wp2
 go_ret
 exact ⟨rfl, ((asW_below b w).alloc (by simp; omega) _)⟩
theorem below_set {n : Nat} {w W : World} {b : Nat} {v : Value} (h : Below n w W) (hn : n ≤ b) : Below n w (W.setCell ⟨b, 0, none⟩ v) := Below.setCell h hn v
abbrev asX (b : Nat) (w : World) : World := (asW b w).alloc (.cells #[.pointer (some ⟨6, 124, none⟩), .pointer (some ⟨w.heap.size, 0, none⟩), .int .u64 150] 175)
abbrev asY (b p : Nat) (w : World) : World := (asX b w).alloc (.cells #[.pointer (some ⟨p, 0, none⟩)] 122)
theorem asX_cell (b : Nat) (w : World) : (asX b w).cell? ⟨w.heap.size, 0, none⟩ = some (.pointer (some ⟨b, 0, none⟩)) := by go_simp
theorem asX_size (b : Nat) (w : World) : (asX b w).heap.size = w.heap.size + 1 + 1 + 1 := by simp
theorem asY_cell (b p : Nat) (w : World) : (asY b p w).cell? ⟨w.heap.size + 1 + 1 + 1, 0, none⟩ = some (.pointer (some ⟨p, 0, none⟩)) := by go_simp
theorem asY_below (b p : Nat) (w : World) : Below w.heap.size w (asY b p w) := ((asW_below b w).alloc (by simp; omega) _).alloc (by simp; omega) _
theorem as_yes (b p : Nat) (w : World) (hT : w.cell? ⟨2, 0, none⟩ = some (rty 74)) (hb : w.cell? ⟨b, 0, none⟩ = some (.pointer none)) (hz : w.frozen? ⟨b, 0, none⟩ = false) : Calls Tryz.prog 93 #[refu p, tgt b] w fun e w' => e = .returned (.bool true) ∧ w'.cell? ⟨b, 0, none⟩ = some (.pointer (some ⟨p, 0, none⟩)) ∧ ∀ n, n ≤ b → n ≤ w.heap.size → Below n w w' := by
 have h1 := vOfT
 have h2 := vType
 have h3 := mKind
 have h4 := kindP
 have h5 := kindR
 have h6 := mElem
 have h7 := elemP
 have h8 := mImpl
 have h9 := implR
 have h10 := vNil w.heap.size ⟨b, 0, none⟩ (asW b w) (asW_cell b w)
 have hT2 : (asW b w).cell? ⟨2, 0, none⟩ = some (rty 74) := ((asW_below b w).cell (World.block_lt_of_cell? _ _ hT)).trans hT
 have t1 := tyR
 have t2 := mAssi
 have t3 := assiR
 have k1 := vOfR p (asX b w)
 rw [asX_size] at k1
 have k2 := vElem w.heap.size b (asX b w) (asX_cell b w)
 have hlt := World.block_lt_of_cell? _ _ hb
 have hb2 : (asY b p w).cell? ⟨b, 0, none⟩ = some (.pointer none) := ((asY_below b p w).cell hlt).trans hb
 have hz2 : (asY b p w).frozen? ⟨b, 0, none⟩ = false := ((asY_below b p w).frozen hlt).trans hz
 have k3 := vSet (w.heap.size + 1 + 1 + 1) b p (asY b p w) (asY_cell b p w) hb2 hz2
 go_enter Tryz.func93, Tryz.ntmps93
 go_wp2
 refine wp_loop_rounds 1 ?_
 rw [rounds_succ]
 go_wp2
 go_ret
 exact ⟨rfl, World.cell?_setCell_same _ _ _ hb2, fun n hn hnw => below_set ((asY_below b p w).mono hnw) hn⟩
set_option maxRecDepth 100000
structure Errs (w : World) (q : Int → Addr) : Prop where
 c1 : w.cell? ⟨1, 0, none⟩ = some (sent (q 1))
 c2 : w.cell? ⟨3, 0, none⟩ = some (sent (q 2))
 c3 : w.cell? ⟨0, 0, none⟩ = some (sent (q 3))
 c4 : w.cell? ⟨4, 0, none⟩ = some (sent (q 4))
 c5 : w.cell? ⟨5, 0, none⟩ = some (sent (q 5))
 ct : w.cell? ⟨2, 0, none⟩ = some (rty 74)
 b1 : ∃ c t, w.heap[(q 1).block]? = some (.cells c t (0, 0))
 b2 : ∃ c t, w.heap[(q 2).block]? = some (.cells c t (0, 0))
 b3 : ∃ c t, w.heap[(q 3).block]? = some (.cells c t (0, 0))
 b4 : ∃ c t, w.heap[(q 4).block]? = some (.cells c t (0, 0))
 b5 : ∃ c t, w.heap[(q 5).block]? = some (.cells c t (0, 0))
 n12 : q 1 ≠ q 2
 n13 : q 1 ≠ q 3
 n14 : q 1 ≠ q 4
 n15 : q 1 ≠ q 5
 n23 : q 2 ≠ q 3
 n24 : q 2 ≠ q 4
 n25 : q 2 ≠ q 5
 n34 : q 3 ≠ q 4
 n35 : q 3 ≠ q 5
 n45 : q 4 ≠ q 5
theorem blk_later {w w' : World} {k : Nat} (h : ∃ c t, w.heap[k]? = some (.cells c t (0, 0))) (hb : Below w.heap.size w w') : ∃ c t, w'.heap[k]? = some (.cells c t (0, 0)) := by
 obtain ⟨c, t, e⟩ := h
 exact ⟨c, t, (hb.block k (Array.getElem?_eq_some_iff.1 e).1).trans e⟩
theorem Errs.below {w w' : World} {q : Int → Addr} (h : Errs w q) (hb : Below w.heap.size w w') : Errs w' q :=
 ⟨(hb.cell (World.block_lt_of_cell? _ _ h.c1)).trans h.c1, (hb.cell (World.block_lt_of_cell? _ _ h.c2)).trans h.c2, (hb.cell (World.block_lt_of_cell? _ _ h.c3)).trans h.c3, (hb.cell (World.block_lt_of_cell? _ _ h.c4)).trans h.c4, (hb.cell (World.block_lt_of_cell? _ _ h.c5)).trans h.c5, (hb.cell (World.block_lt_of_cell? _ _ h.ct)).trans h.ct, blk_later h.b1 hb, blk_later h.b2 hb, blk_later h.b3 hb, blk_later h.b4 hb, blk_later h.b5 hb, h.n12, h.n13, h.n14, h.n15, h.n23, h.n24, h.n25, h.n34, h.n35, h.n45⟩
theorem codeOf_nil (w : World) : Calls Tryz.prog 94 #[.nilIface] w fun e w' => e = .returned (.int .i64 0) ∧ w' = w := by
 go_enter Tryz.func94, Tryz.ntmps94
 go_wp2_with fail
 go_ret
 exact ⟨rfl, rfl⟩
theorem codeOf_wrap1 (p : Nat) {w : World} {q : Int → Addr} (h : Errs w q) (hp : w.cell? ⟨p, 6, none⟩ = some (sent (q 1))) : Calls Tryz.prog 94 #[refu p] w fun e w' => e = .returned (.int .i64 1) ∧ w' = w := by
 have HE := hide h
 have Hp := hide hp
 clear hp
 obtain ⟨x1, x2, x3, x4, x5, _⟩ := h
 go_enter Tryz.func94, Tryz.ntmps94
 go_wp2_with fail
 refine (is_wrap_same p (q 1) _ (uh Hp)).mono ?_
 rintro e w' ⟨rfl, h9⟩
 subst w'
 go_wp2_with fail
 go_ret
 exact ⟨rfl, rfl⟩
theorem codeOf_wrap2 (p : Nat) {w : World} {q : Int → Addr} (h : Errs w q) (hp : w.cell? ⟨p, 6, none⟩ = some (sent (q 2))) : Calls Tryz.prog 94 #[refu p] w fun e w' => e = .returned (.int .i64 2) ∧ w' = w := by
 have HE := hide h
 have Hp := hide hp
 clear hp
 obtain ⟨x1, x2, x3, x4, x5, _⟩ := h
 go_enter Tryz.func94, Tryz.ntmps94
 go_wp2_with fail
 obtain ⟨ca, ta, ha⟩ := (uh HE).b2
 obtain ⟨cb, tb, hb⟩ := (uh HE).b1
 refine (is_wrap_other p _ (uh Hp) ((uh HE).n12.symm) ha hb).mono ?_
 clear ha hb
 rintro e w' ⟨rfl, h9⟩
 subst w'
 go_wp2_with fail
 refine (is_wrap_same p (q 2) _ (uh Hp)).mono ?_
 rintro e w' ⟨rfl, h9⟩
 subst w'
 go_wp2_with fail
 go_ret
 exact ⟨rfl, rfl⟩
theorem codeOf_wrap3 (p : Nat) {w : World} {q : Int → Addr} (h : Errs w q) (hp : w.cell? ⟨p, 6, none⟩ = some (sent (q 3))) : Calls Tryz.prog 94 #[refu p] w fun e w' => e = .returned (.int .i64 3) ∧ w' = w := by
 have HE := hide h
 have Hp := hide hp
 clear hp
 obtain ⟨x1, x2, x3, x4, x5, _⟩ := h
 go_enter Tryz.func94, Tryz.ntmps94
 go_wp2_with fail
 obtain ⟨ca, ta, ha⟩ := (uh HE).b3
 obtain ⟨cb, tb, hb⟩ := (uh HE).b1
 refine (is_wrap_other p _ (uh Hp) ((uh HE).n13.symm) ha hb).mono ?_
 clear ha hb
 rintro e w' ⟨rfl, h9⟩
 subst w'
 go_wp2_with fail
 obtain ⟨ca, ta, ha⟩ := (uh HE).b3
 obtain ⟨cb, tb, hb⟩ := (uh HE).b2
 refine (is_wrap_other p _ (uh Hp) ((uh HE).n23.symm) ha hb).mono ?_
 clear ha hb
 rintro e w' ⟨rfl, h9⟩
 subst w'
 go_wp2_with fail
 obtain ⟨ca, ta, ha⟩ := (uh HE).b3
 obtain ⟨cb, tb, hb⟩ := (uh HE).b4
 refine (is_wrap_other p _ (uh Hp) ((uh HE).n34) ha hb).mono ?_
 clear ha hb
 rintro e w' ⟨rfl, h9⟩
 subst w'
 go_wp2_with fail
 obtain ⟨ca, ta, ha⟩ := (uh HE).b3
 obtain ⟨cb, tb, hb⟩ := (uh HE).b5
 refine (is_wrap_other p _ (uh Hp) ((uh HE).n35) ha hb).mono ?_
 clear ha hb
 rintro e w' ⟨rfl, h9⟩
 subst w'
 go_wp2_with fail
 go_ret
 exact ⟨rfl, rfl⟩
theorem codeOf_wrap4 (p : Nat) {w : World} {q : Int → Addr} (h : Errs w q) (hp : w.cell? ⟨p, 6, none⟩ = some (sent (q 4))) : Calls Tryz.prog 94 #[refu p] w fun e w' => e = .returned (.int .i64 4) ∧ w' = w := by
 have HE := hide h
 have Hp := hide hp
 clear hp
 obtain ⟨x1, x2, x3, x4, x5, _⟩ := h
 go_enter Tryz.func94, Tryz.ntmps94
 go_wp2_with fail
 obtain ⟨ca, ta, ha⟩ := (uh HE).b4
 obtain ⟨cb, tb, hb⟩ := (uh HE).b1
 refine (is_wrap_other p _ (uh Hp) ((uh HE).n14.symm) ha hb).mono ?_
 clear ha hb
 rintro e w' ⟨rfl, h9⟩
 subst w'
 go_wp2_with fail
 obtain ⟨ca, ta, ha⟩ := (uh HE).b4
 obtain ⟨cb, tb, hb⟩ := (uh HE).b2
 refine (is_wrap_other p _ (uh Hp) ((uh HE).n24.symm) ha hb).mono ?_
 clear ha hb
 rintro e w' ⟨rfl, h9⟩
 subst w'
 go_wp2_with fail
 refine (is_wrap_same p (q 4) _ (uh Hp)).mono ?_
 rintro e w' ⟨rfl, h9⟩
 subst w'
 go_wp2_with fail
 go_ret
 exact ⟨rfl, rfl⟩
theorem codeOf_wrap5 (p : Nat) {w : World} {q : Int → Addr} (h : Errs w q) (hp : w.cell? ⟨p, 6, none⟩ = some (sent (q 5))) : Calls Tryz.prog 94 #[refu p] w fun e w' => e = .returned (.int .i64 5) ∧ w' = w := by
 have HE := hide h
 have Hp := hide hp
 clear hp
 obtain ⟨x1, x2, x3, x4, x5, _⟩ := h
 go_enter Tryz.func94, Tryz.ntmps94
 go_wp2_with fail
 obtain ⟨ca, ta, ha⟩ := (uh HE).b5
 obtain ⟨cb, tb, hb⟩ := (uh HE).b1
 refine (is_wrap_other p _ (uh Hp) ((uh HE).n15.symm) ha hb).mono ?_
 clear ha hb
 rintro e w' ⟨rfl, h9⟩
 subst w'
 go_wp2_with fail
 obtain ⟨ca, ta, ha⟩ := (uh HE).b5
 obtain ⟨cb, tb, hb⟩ := (uh HE).b2
 refine (is_wrap_other p _ (uh Hp) ((uh HE).n25.symm) ha hb).mono ?_
 clear ha hb
 rintro e w' ⟨rfl, h9⟩
 subst w'
 go_wp2_with fail
 obtain ⟨ca, ta, ha⟩ := (uh HE).b5
 obtain ⟨cb, tb, hb⟩ := (uh HE).b4
 refine (is_wrap_other p _ (uh Hp) ((uh HE).n45.symm) ha hb).mono ?_
 clear ha hb
 rintro e w' ⟨rfl, h9⟩
 subst w'
 go_wp2_with fail
 refine (is_wrap_same p (q 5) _ (uh Hp)).mono ?_
 rintro e w' ⟨rfl, h9⟩
 subst w'
 go_wp2_with fail
 go_ret
 exact ⟨rfl, rfl⟩
theorem codeOf_bare {w : World} {q : Int → Addr} (h : Errs w q) : Calls Tryz.prog 94 #[sent (q 3)] w fun e w' => e = .returned (.int .i64 3) ∧ w' = w := by
 have HE := hide h
 obtain ⟨x1, x2, x3, x4, x5, _⟩ := h
 go_enter Tryz.func94, Tryz.ntmps94
 go_wp2_with fail
 obtain ⟨ca, ta, ha⟩ := (uh HE).b3
 obtain ⟨cb, tb, hb⟩ := (uh HE).b1
 refine (is_other _ ((uh HE).n13.symm) ha hb).mono ?_
 clear ha hb
 rintro e w' ⟨rfl, h9⟩
 subst w'
 go_wp2_with fail
 obtain ⟨ca, ta, ha⟩ := (uh HE).b3
 obtain ⟨cb, tb, hb⟩ := (uh HE).b2
 refine (is_other _ ((uh HE).n23.symm) ha hb).mono ?_
 clear ha hb
 rintro e w' ⟨rfl, h9⟩
 subst w'
 go_wp2_with fail
 obtain ⟨ca, ta, ha⟩ := (uh HE).b3
 obtain ⟨cb, tb, hb⟩ := (uh HE).b4
 refine (is_other _ ((uh HE).n34) ha hb).mono ?_
 clear ha hb
 rintro e w' ⟨rfl, h9⟩
 subst w'
 go_wp2_with fail
 obtain ⟨ca, ta, ha⟩ := (uh HE).b3
 obtain ⟨cb, tb, hb⟩ := (uh HE).b5
 refine (is_other _ ((uh HE).n35) ha hb).mono ?_
 clear ha hb
 rintro e w' ⟨rfl, h9⟩
 subst w'
 go_wp2_with fail
 go_ret
 exact ⟨rfl, rfl⟩
theorem codeOf_wrap {c : Int} (hc : c = 1 ∨ c = 2 ∨ c = 3 ∨ c = 4 ∨ c = 5) (p : Nat) {w : World} {q : Int → Addr} (h : Errs w q) (hp : w.cell? ⟨p, 6, none⟩ = some (sent (q c))) : Calls Tryz.prog 94 #[refu p] w fun e w' => e = .returned (.int .i64 c) ∧ w' = w := by
 rcases hc with rfl | rfl | rfl | rfl | rfl
 ·exact codeOf_wrap1 p h hp
 ·exact codeOf_wrap2 p h hp
 ·exact codeOf_wrap3 p h hp
 ·exact codeOf_wrap4 p h hp
 ·exact codeOf_wrap5 p h hp
open Go.ChangeShapes Go.WideShapes Go.ChangeAt Go.RowKit Go.Sort Go.Shelf
set_option maxRecDepth 100000
structure Nx (w W : World) (R : Nat) (v0 v1 v2 v3 v4 : Value) (m : SmyV) (qs : List (RoomV × Value)) : Prop where
 full : FullSmy w.heap.size W v0 v1 v2 v3 v4 m qs
 blk : Blk W R 32 #[v0, v1, v2, v3, v4, .int .i64 m.now]
 own : ∀ k, OwnB v0 v1 v2 v3 v4 qs k → k ≠ R
 bb : Below w.heap.size w W
 hR : w.heap.size ≤ R
section
variable {w W X : World} {R : Nat} {v0 v1 v2 v3 v4 : Value} {m : SmyV} {qs : List (RoomV × Value)}
theorem Nx.next (h : Nx w W R v0 v1 v2 v3 v4 m qs) (hb : Below W.heap.size W X) : Nx w X R v0 v1 v2 v3 v4 m qs := ⟨h.full.below hb, h.blk.below hb h.blk.lt, h.own, h.bb.trans (hb.mono h.bb.size), h.hR⟩
theorem Nx.cells (h : Nx w W R v0 v1 v2 v3 v4 m qs) : W.cell? ⟨R, 0, none⟩ = some v0 ∧ W.cell? ⟨R, 1, none⟩ = some v1 ∧ W.cell? ⟨R, 2, none⟩ = some v2 ∧ W.cell? ⟨R, 3, none⟩ = some v3 ∧ W.cell? ⟨R, 4, none⟩ = some v4 ∧ W.cell? ⟨R, 5, none⟩ = some (.int .i64 m.now) := h.blk.c6
theorem Nx.putS {g n cap : Nat} (h : Nx w W R v0 v1 (.slice (some ⟨g, 0, none⟩) n cap) v3 v4 m qs) (hn : n = m.smiths.length) {j i : Nat} (hj : j < m.smiths.length) (hi : i < 11) (u : Value) (x : SmithV) (hx : encSmith x = (encSmith (recAt m.smiths j)).set i u) : Nx w (W.setCell ⟨g, j * 11 + i, none⟩ u) R v0 v1 (.slice (some ⟨g, 0, none⟩) n cap) v3 v4 (setS m j x) qs := by
 have hg := h.full.own (k := g) (.inr (.inr (.inr (.inl rfl))))
 have hgR := h.own g (.inr (.inr (.inr (.inl rfl))))
 exact ⟨h.full.putS hn hj hi u x hx, h.blk.other (a := ⟨g, j * 11 + i, none⟩) (fun e => hgR e.symm) u, h.own, h.bb.setCell (p := ⟨g, j * 11 + i, none⟩) hg.1 u, h.hR⟩
theorem Nx.putW {g n cap : Nat} (h : Nx w W R v0 v1 (.slice (some ⟨g, 0, none⟩) n cap) v3 v4 m qs) (hn : n = m.smiths.length) {j : Nat} (hj : j < m.smiths.length) (x : SmithV) : Nx w (setW W g (j * 11) (encSmith x)) R v0 v1 (.slice (some ⟨g, 0, none⟩) n cap) v3 v4 (setS m j x) qs := by
 have hg := h.full.own (k := g) (.inr (.inr (.inr (.inl rfl))))
 have hgR := h.own g (.inr (.inr (.inr (.inl rfl))))
 obtain ⟨_, hgr⟩ := RecAt.put encSmith_len (by omega) h.full.smiths hn hj x
 exact ⟨h.full.putW hn hj x, h.blk.same (hgr.block R h.blk.lt (fun e => hgR (by cases e; rfl))), h.own, h.bb.grown hgr h.bb.size (fun k e => by cases e; exact hg.1), h.hR⟩
end
def Chg (w : World) (R : Nat) (q : Int → Addr) (X : SmyV) (c : Int) (e : Ending) (W' : World) : Prop :=
 Below w.heap.size w W' ∧ ((c = 0 ∧ e = .returned .nilIface ∧ ∃ u0 u1 u2 u3 u4 rs, Nx w W' R u0 u1 u2 u3 u4 X rs) ∨ ((c = 1 ∨ c = 2 ∨ c = 3 ∨ c = 4 ∨ c = 5) ∧ e = .returned (sent (q c))))
theorem Chg.no {w W' : World} {R : Nat} {q : Int → Addr} {X : SmyV} {c d : Int} (h : Below w.heap.size w W') (e : c = d) (hd : d = 1 ∨ d = 2 ∨ d = 3 ∨ d = 4 ∨ d = 5) : Chg w R q X c (.returned (sent (q d))) W' := by
 subst e
 exact ⟨h, .inr ⟨hd, rfl⟩⟩
theorem Chg.yes {w W' : World} {R : Nat} {q : Int → Addr} {X Y : SmyV} {c : Int} {u0 u1 u2 u3 u4 : Value} {rs : List (RoomV × Value)} (h : Nx w W' R u0 u1 u2 u3 u4 Y rs) (e : c = 0) (hX : X = Y) : Chg w R q X c (.returned .nilIface) W' := by
 subst e hX
 exact ⟨h.bb, .inl ⟨rfl, rfl, _, _, _, _, _, _, h⟩⟩
structure Ny (F : Nat → TypeId → Array Value → Prop) (w W : World) (R : Nat) (v0 v1 v2 v3 v4 : Value) (m : SmyV) (qs : List (RoomV × Value)) : Prop where
 nx : Nx w W R v0 v1 v2 v3 v4 m qs
 fx : ∀ k t cs, F k t cs → Blk W k t cs ∧ k ≠ R ∧ ¬ OwnB v0 v1 v2 v3 v4 qs k
section
variable {F : Nat → TypeId → Array Value → Prop} {w W X : World} {R : Nat} {v0 v1 v2 v3 v4 : Value} {m : SmyV} {qs : List (RoomV × Value)}
theorem Ny.full (h : Ny F w W R v0 v1 v2 v3 v4 m qs) : FullSmy w.heap.size W v0 v1 v2 v3 v4 m qs := h.nx.full
theorem Ny.blk (h : Ny F w W R v0 v1 v2 v3 v4 m qs) : Blk W R 32 #[v0, v1, v2, v3, v4, .int .i64 m.now] := h.nx.blk
theorem Ny.bb (h : Ny F w W R v0 v1 v2 v3 v4 m qs) : Below w.heap.size w W := h.nx.bb
theorem Ny.fb (h : Ny F w W R v0 v1 v2 v3 v4 m qs) : ∀ k t cs, F k t cs → Blk W k t cs := fun k t cs e => (h.fx k t cs e).1
theorem Ny.next (h : Ny F w W R v0 v1 v2 v3 v4 m qs) (hb : Below W.heap.size W X) : Ny F w X R v0 v1 v2 v3 v4 m qs := ⟨h.nx.next hb, fun k t cs e => ⟨(h.fx k t cs e).1.below hb (h.fx k t cs e).1.lt, (h.fx k t cs e).2⟩⟩
theorem Ny.cells (h : Ny F w W R v0 v1 v2 v3 v4 m qs) : W.cell? ⟨R, 0, none⟩ = some v0 ∧ W.cell? ⟨R, 1, none⟩ = some v1 ∧ W.cell? ⟨R, 2, none⟩ = some v2 ∧ W.cell? ⟨R, 3, none⟩ = some v3 ∧ W.cell? ⟨R, 4, none⟩ = some v4 ∧ W.cell? ⟨R, 5, none⟩ = some (.int .i64 m.now) := h.nx.cells
theorem Ny.putS {g n cap : Nat} (h : Ny F w W R v0 v1 (.slice (some ⟨g, 0, none⟩) n cap) v3 v4 m qs) (hn : n = m.smiths.length) {j i : Nat} (hj : j < m.smiths.length) (hi : i < 11) (u : Value) (x : SmithV) (hx : encSmith x = (encSmith (recAt m.smiths j)).set i u) : Ny F w (W.setCell ⟨g, j * 11 + i, none⟩ u) R v0 v1 (.slice (some ⟨g, 0, none⟩) n cap) v3 v4 (setS m j x) qs :=
 ⟨h.nx.putS hn hj hi u x hx, fun k t cs e => ⟨(h.fx k t cs e).1.other (a := ⟨g, j * 11 + i, none⟩) (fun e2 => (h.fx k t cs e).2.2 (.inr (.inr (.inr (.inl (by rw [e2]; rfl)))))) u, (h.fx k t cs e).2⟩⟩
theorem Ny.putW {g n cap : Nat} (h : Ny F w W R v0 v1 (.slice (some ⟨g, 0, none⟩) n cap) v3 v4 m qs) (hn : n = m.smiths.length) {j : Nat} (hj : j < m.smiths.length) (x : SmithV) : Ny F w (setW W g (j * 11) (encSmith x)) R v0 v1 (.slice (some ⟨g, 0, none⟩) n cap) v3 v4 (setS m j x) qs := by
 obtain ⟨_, hgr⟩ := RecAt.put encSmith_len (by omega) h.nx.full.smiths hn hj x
 exact ⟨h.nx.putW hn hj x, fun k t cs e => ⟨(h.fx k t cs e).1.same (hgr.block k (h.fx k t cs e).1.lt (fun e2 => (h.fx k t cs e).2.2 (.inr (.inr (.inr (.inl e2.symm)))))), (h.fx k t cs e).2⟩⟩
end
theorem Ny.of {w W : World} {R : Nat} {v0 v1 v2 v3 v4 : Value} {m : SmyV} {qs : List (RoomV × Value)} (h : Nx w W R v0 v1 v2 v3 v4 m qs) : Ny (fun _ _ _ => False) w W R v0 v1 v2 v3 v4 m qs := ⟨h, fun _ _ _ e => e.elim⟩
end Go.Proofs.YtffcgajndmhpkaaGreatDoor
namespace Go.Proofs.YtffcgajndmhpkaaGreatDoor
open Go.ChangeShapes Go.WideShapes Go.ChangeAt Go.RowKit Go.Sort
set_option linter.unusedVariables false
structure Bx (w W : World) (R : Nat) (a0 : Option Addr) (p0 : Nat) (a1 : Option Addr) (p1 : Nat) (a2 : Option Addr) (p2 : Nat) (a3 : Option Addr) (p3 : Nat) (a4 : Option Addr) (p4 : Nat) (m : SmyV) : Prop where
 smy : Smy W (.slice a0 m.rooms.length p0) (.slice a1 m.guilds.length p1) (.slice a2 m.smiths.length p2) (.slice a3 m.desks.length p3) (.slice a4 m.paces.length p4) m
 blk : Blk W R 32 (S6 a0 p0 a1 p1 a2 p2 a3 p3 a4 p4 m)
 bb : Below w.heap.size w W
section
variable {w W X : World} {R : Nat} {a0 a1 a2 a3 a4 : Option Addr} {p0 p1 p2 p3 p4 : Nat} {m : SmyV}
theorem Bx.next (h : Bx w W R a0 p0 a1 p1 a2 p2 a3 p3 a4 p4 m) (hb : Below W.heap.size W X) : Bx w X R a0 p0 a1 p1 a2 p2 a3 p3 a4 p4 m := ⟨h.smy.below hb, h.blk.below hb h.blk.lt, h.bb.trans (hb.mono h.bb.size)⟩
theorem Bx.alloc (h : Bx w W R a0 p0 a1 p1 a2 p2 a3 p3 a4 p4 m) (o : Obj) : Bx w (W.alloc o) R a0 p0 a1 p1 a2 p2 a3 p3 a4 p4 m := h.next ((ba _ _))
theorem Bx.cells (h : Bx w W R a0 p0 a1 p1 a2 p2 a3 p3 a4 p4 m) : W.cell? ⟨R, 0, none⟩ = some (.slice a0 m.rooms.length p0) ∧ W.cell? ⟨R, 1, none⟩ = some (.slice a1 m.guilds.length p1) ∧ W.cell? ⟨R, 2, none⟩ = some (.slice a2 m.smiths.length p2) ∧ W.cell? ⟨R, 3, none⟩ = some (.slice a3 m.desks.length p3) ∧ W.cell? ⟨R, 4, none⟩ = some (.slice a4 m.paces.length p4) ∧ W.cell? ⟨R, 5, none⟩ = some (.int .i64 m.now) := h.blk.c6
end
theorem Bx.new {w : World} {v0 v1 v2 v3 v4 : Value} {m : SmyV} (h : Smy w v0 v1 v2 v3 v4 m) : ∃ a0 p0 a1 p1 a2 p2 a3 p3 a4 p4, v0 = .slice a0 m.rooms.length p0 ∧ v1 = .slice a1 m.guilds.length p1 ∧ v2 = .slice a2 m.smiths.length p2 ∧ v3 = .slice a3 m.desks.length p3 ∧ v4 = .slice a4 m.paces.length p4 ∧ Bx w (w.alloc (.cells (S6 a0 p0 a1 p1 a2 p2 a3 p3 a4 p4 m) 32)) w.heap.size a0 p0 a1 p1 a2 p2 a3 p3 a4 p4 m := by
 obtain ⟨a0, p0, a1, p1, a2, p2, a3, p3, a4, p4, rfl, rfl, rfl, rfl, rfl, _⟩ := h.five
 exact ⟨a0, p0, a1, p1, a2, p2, a3, p3, a4, p4, rfl, rfl, rfl, rfl, rfl, h.alloc _, Blk.new _ _ _, (ba _ _)⟩
end Go.Proofs.YtffcgajndmhpkaaGreatDoor
