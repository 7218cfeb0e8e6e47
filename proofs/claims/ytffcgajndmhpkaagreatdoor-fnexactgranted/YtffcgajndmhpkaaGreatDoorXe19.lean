/- Part 19 of what the proof rests on. No condition but those that a theorem names. -/
import Derived.Test.YtffcgajndmhpkaaGreatDoorXe18
import Derived.Laws.EntriesVeiled
import Derived.Laws.CopyRow
set_option maxHeartbeats 8000000
set_option maxRecDepth 100000
namespace Go.Proofs.YtffcgajndmhpkaaGreatDoor
open Go.ChangeShapes Go.WideShapes Go.ChangeAt Go.RowKit Go.Sort
set_option linter.unusedVariables false
def GotQ (n₀ : Nat) (r : List PaceV × Bool) (e : Ending) (w' : World) : Prop := ∃ v', e = .returned (.tuple #[v', .bool r.2]) ∧ EntsAt n₀ w' v' r.1
theorem queuedV_no {ps : List PaceV} {e : PaceV} (h : queueB ps = false) : queuedV ps e = ([], false) := by unfold queuedV; rw [h]; rfl
theorem queuedV_stays {ps : List PaceV} {e : PaceV} (h : queueB ps = true) (h2 : queueB (putV ps e) = false) : queuedV ps e = (ps, false) := by unfold queuedV; rw [h, h2]; rfl
theorem queuedV_yes {ps : List PaceV} {e : PaceV} (h : queueB ps = true) (h2 : queueB (putV ps e) = true) : queuedV ps e = (putV ps e, true) := by unfold queuedV; rw [h, h2]; rfl
theorem implQueued_any {w : World} {v : Value} {ps : List PaceV} (f z : Int) (h : IsPaces w v ps) :
  Calls Tryz.prog 256 #[v, .agg #[.int .i64 f, .int .i64 z]] w fun e w' => GotQ w.heap.size (queuedV ps (f, z)) e w' ∧ Below w.heap.size w w' := by
 have Hv := hide h
 obtain ⟨a, cap, rfl, hc, hm, hr⟩ := h
 clear hr
 cases hq : queueB ps
 ·rw [queuedV_no hq]
  go_enter Tryz.func256, Tryz.ntmps256
  go_wp2_with fail
  refine (implQueueOk_any ((uh Hv).below ((ba _ _)))).mono ?_
  rw [hq]
  rintro e w1 ⟨rfl, hb1⟩
  have B1 : Hid (Below w.heap.size w w1) := hide (((ba _ _)).trans (hb1.mono (by simp)))
  clear hb1
  go_wp2_with fail
  go_ret2
  exact ⟨⟨_, rfl, ents_empty rfl (uh B1).size⟩, (uh B1).alloc (uh B1).size _⟩
 ·have hQ := isQ_of hq
  have hlen := hQ.len
  have HQ := hide hQ
  clear hQ
  go_enter Tryz.func256, Tryz.ntmps256
  go_wp2_with fail
  refine (implQueueOk_any ((uh Hv).below ((ba _ _)))).mono ?_
  rw [hq]
  rintro e w1 ⟨rfl, hb1⟩
  have hz1 : w.heap.size + 1 ≤ w1.heap.size := by have := hb1.size; simpa using this
  have c0 : w1.cell? ⟨w.heap.size, 0, none⟩ = some (.int .i64 f) := (hb1.cell (p := ⟨w.heap.size, 0, none⟩) (by simp)).trans (by simp)
  have c1 : w1.cell? ⟨w.heap.size, 1, none⟩ = some (.int .i64 z) := (hb1.cell (p := ⟨w.heap.size, 1, none⟩) (by simp)).trans (by simp)
  have B1 : Hid (Below w.heap.size w w1) := hide (((ba _ _)).trans (hb1.mono (by simp)))
  clear hb1
  go_wp2_with fail
  refine (heapOf_any ((uh Hv).below (uh B1)) (by omega)).mono ?_
  rintro e w2 ⟨bx, v2, rfl, hbx, hh2, hb2⟩
  have hlt1 : w.heap.size < w1.heap.size := by omega
  have d0 := (hb2.cell (p := ⟨w.heap.size, 0, none⟩) hlt1).trans c0
  have d1 := (hb2.cell (p := ⟨w.heap.size, 1, none⟩) hlt1).trans c1
  have hz2 := hb2.size
  have H2 := hide hh2
  have B2 : Hid (Below w.heap.size w w2) := hide ((uh B1).trans (hb2.mono (by omega)))
  clear hb2 hh2 c0 c1
  go_wp2_with fail
  refine (heapPush_any f z (uh H2) (ris_heap (uh HQ).ris) (by omega) hbx hz2).mono ?_
  rintro e w3 ⟨rfl, v3, hs, hh3, hto3, hpe3, hb3⟩
  have hz3 := hb3.size
  have hsl : hs.length = ps.length + 1 := by have := hpe3.length_eq; simpa using this
  have H3 := hide hh3
  have T3 := hide hto3
  have P3 := hide hpe3
  have B3 : Hid (Below w.heap.size w w3) := hide ((uh B2).trans (hb3.mono (by omega)))
  clear hb3 hh3 hto3 hpe3 d0 d1
  go_wp2_with fail
  refine (emptied_any (uh H3) (uh T3) (by omega) hbx (by omega)).mono ?_
  rintro e w4 ⟨v4, qs, rfl, hi4, hris4, hpe4, hb4⟩
  obtain rfl : qs = putV ps (f, z) := sorted_put (uh HQ) hris4 (hpe4.trans (uh P3))
  have hz4 := hb4.size
  obtain ⟨a4, cap4, rfl⟩ := hi4.shape
  have H4 := hide hi4
  have B4 : Hid (Below w.heap.size w w4) := hide ((uh B3).trans (hb4.mono (by omega)))
  clear hi4 hris4 hpe4 hb4 H2 H3 T3 P3
  go_wp2_with fail
  refine (implQueueOk_any (uh H4).paces).mono ?_
  cases hq2 : queueB (putV ps (f, z))
  ·rintro e w5 ⟨rfl, hb5⟩
   have B5 : Hid (Below w.heap.size w w5) := hide ((uh B4).trans (hb5.mono (by omega)))
   clear hb5
   go_wp2_with fail
   refine (copyOf_any ((uh Hv).below (uh B5)) (by omega)).mono ?_
   rintro e w6 ⟨v6, rfl, hi6, hb6⟩
   obtain ⟨a6, cap6, rfl⟩ := hi6.shape
   have H6 := hide hi6
   have B6 : Hid (Below w.heap.size w w6) := hide ((uh B5).trans (hb6.mono (uh B5).size))
   clear hi6 hb6
   go_wp2_with fail
   go_ret2
   rw [queuedV_stays hq hq2]
   exact ⟨⟨_, rfl, (uh H6).mono (uh B5).size⟩, uh B6⟩
  ·rintro e w5 ⟨rfl, hb5⟩
   have H5 := hide ((uh H4).later hb5)
   have B5 : Hid (Below w.heap.size w w5) := hide ((uh B4).trans (hb5.mono (by omega)))
   clear hb5
   go_wp2_with fail
   go_ret2
   rw [queuedV_yes hq hq2]
   exact ⟨⟨_, rfl, (uh H5).mono (by omega)⟩, uh B5⟩
set_option maxRecDepth 100000
theorem where_at {m : SmyV} {b : Int} {k : Nat} (hk : k < (whereTo (atB b) m.smiths m.smiths.length).length) : ∃ i : Nat, i < m.smiths.length ∧ recAt (whereTo (atB b) m.smiths m.smiths.length) k = (i : Int) := by
 obtain ⟨i, hi, e, _⟩ := (whereTo_mem (atB b) m.smiths _ m.smiths.length).1 (recAt_mem hk)
 exact ⟨i, hi, e⟩
theorem queueAt_of {w : World} {v0 v1 v2 v3 v4 : Value} {m M : SmyV} (b : Int) (h : Smy w v0 v1 v2 v3 v4 m) (hL : Loose M) (hM : M.smiths = m.smiths) : Calls Tryz.prog 204 #[.agg #[v0, v1, v2, v3, v4, .int .i64 m.now], .int .i64 b] w fun e w' => ∃ v', e = .returned v' ∧ EntsAt w.heap.size w' v' (atV m.smiths b m.smiths.length) ∧ Below w.heap.size w w' := by
 have Hv := hide ((h.alloc (.cells #[v0, v1, v2, v3, v4, .int .i64 m.now] 32)).alloc (.cells #[] 151))
 have HV0 := hide h
 obtain ⟨a0, p0, a1, p1, a2, p2, a3, p3, a4, p4, rfl, rfl, rfl, rfl, rfl, _, _, _, _, _, _, _, _, _, _⟩ := h.five
 clear h
 have hl : m.smiths.length ≤ 1000 := by rw [← hM]; have := (few_of hL).smiths; omega
 have HL : Hid (∀ k, queueB (queueOf m.smiths ((whereTo (atB b) m.smiths m.smiths.length).take k)) = true) := hide (fun k => by have := part_queue hL b k; rw [hM] at this; exact this)
 clear hL hM
 have kb : Hid (Blk ((w.alloc (.cells (S6 a0 p0 a1 p1 a2 p2 a3 p3 a4 p4 m) 32)).alloc (.cells #[] 151)) w.heap.size 32 (S6 a0 p0 a1 p1 a2 p2 a3 p3 a4 p4 m)) := hide ((Blk.new w _ _).alloc _)
 have BB : Hid (Below w.heap.size w ((w.alloc (.cells (S6 a0 p0 a1 p1 a2 p2 a3 p3 a4 p4 m) 32)).alloc (.cells #[] 151))) := hide (((ba _ _)).alloc (by simp) _)
 have HE : Hid (EntsAt w.heap.size ((w.alloc (.cells (S6 a0 p0 a1 p1 a2 p2 a3 p3 a4 p4 m) 32)).alloc (.cells #[] 151)) (.slice (some ⟨w.heap.size + 1, 0, none⟩) 0 0) []) := hide (ents_empty (by simp) (by simp))
 go_enter Tryz.func204, Tryz.ntmps204
 go_upto_region 2 with fail
 generalize (w.alloc (.cells (S6 a0 p0 a1 p1 a2 p2 a3 p3 a4 p4 m) 32)).alloc (.cells #[] 151) = W at *
 obtain ⟨c0, c1, c2, c3, c4, c5⟩ := (uh kb).c6
 go_wp2_with fail
 refine (whoIsAt_any b (uh Hv) hl).mono ?_
 rintro e w1 ⟨vn, rfl, hn, hb⟩
 obtain ⟨na, nc, rfl⟩ := RecAt.shape hn
 have HN0 := hide (RecAt.mono hn (uh BB).size)
 have Hv1 := hide ((uh Hv).below hb)
 have kb1 := hide ((uh kb).below hb (uh kb).lt)
 have BB1 := hide ((uh BB).trans (hb.mono (uh BB).size))
 have HE1 := hide ((uh HE).later hb)
 clear hb hn c0 c1 c2 c3 c4 c5 Hv kb BB HE
 have Hq := hide (queueOf_at m.smiths b m.smiths.length)
 have Hwh := hide (fun k hk => where_at (m := m) (b := b) (k := k) hk)
 have Hpq := HL
 clear HL
 have hwl := whereTo_len (atB b) m.smiths m.smiths.length
 generalize whereTo (atB b) m.smiths m.smiths.length = ws at *
 go_wp2_with fail
 go_loopw [5, 13] (fun l i wr => ∃ k : Nat, k ≤ ws.length ∧ i = .int .i64 k ∧ EntsAt w.heap.size wr l (queueOf m.smiths (ws.take k)) ∧ NumsAt w.heap.size wr (.slice na ws.length nc) ws ∧ Blk wr w.heap.size 32 (S6 a0 p0 a1 p1 a2 p2 a3 p3 a4 p4 m) ∧ Smy wr (.slice a0 m.rooms.length p0) (.slice a1 m.guilds.length p1) (.slice a2 m.smiths.length p2) (.slice a3 m.desks.length p3) (.slice a4 m.paces.length p4) m ∧ Below w.heap.size w wr) (fun _ i _ => ws.length - (intOf i).toNat)
 case atStart => exact ⟨0, Nat.zero_le _, rfl, uh HE1, uh HN0, uh kb1, uh Hv1, uh BB1⟩
 case round =>
  obtain ⟨k, hk, rfl, he, hn, hkb, hv, hb0⟩ := hrel
  obtain ⟨la, lc, rfl⟩ := EntsAt.shape he
  have HE := hide he
  have HN := hide hn
  have kb := hide hkb
  have Hv := hide hv
  have BB := hide hb0
  clear he hn hkb hv hb0 HE1 HN0 kb1 Hv1 BB1
  by_cases hlt : k < ws.length
  ·have hlt1 : (k : Int) < (ws.length : Int) := by omega
   obtain ⟨g, hga, _, _, hcl, _⟩ := RecAt.view encNum_len (by omega) (uh HN) rfl (by omega)
   cases hga
   have z0 := hcl k hlt 0 _ rfl
   simp only [Nat.mul_one, Nat.add_zero] at z0
   obtain ⟨i, hi, hiw⟩ := uh Hwh k hlt
   rw [hiw] at z0
   have hi1 : (i : Int) < (m.smiths.length : Int) := by omega
   obtain ⟨_, _, hse, _, _, r2⟩ := (uh Hv).smiths
   cases hse
   rcases r2 with e0 | ⟨sb, off, rfl, hbw, hcs⟩
   ·rw [e0] at hi; simp at hi
   obtain ⟨_, _, _, _, _, _, _, d7, _⟩ := smith_cells hcs hi
   have HT : Hid (queueOf m.smiths (ws.take (k + 1)) = putV (queueOf m.smiths (ws.take k)) (hadS (recAt m.smiths i), (i : Int))) := hide (by rw [take_snoc_at hlt, queueOf_snoc, hiw]; simp)
   have hq1 := uh Hpq k
   have hq2 := uh Hpq (k + 1)
   rw [uh HT] at hq2
   have HQ := hide (queuedV_yes hq1 hq2)
   clear hcl hcs hq1 hq2
   have e7 : (recAt m.smiths i).2.2.2.2.2.2.2.1 = hadS (recAt m.smiths i) := rfl
   rw [e7] at d7
   clear e7
   generalize hadS (recAt m.smiths i) = hd at *
   have c2 := (uh kb).cell (i := 2) (v := .slice (some ⟨sb, off, none⟩) m.smiths.length p2) rfl
   go_wp2_with fail
   refine (implQueued_any hd (i : Int) (uh HE).paces).mono ?_
   rw [uh HQ]
   rintro e w2 ⟨⟨v', rfl, he⟩, hb⟩
   obtain ⟨ua, uc, rfl⟩ := EntsAt.shape he
   have HE2 := hide (he.mono (uh BB).size)
   replace HN := hide (RecAt.later (uh HN) hb)
   replace kb := bl kb hb
   replace Hv := hide ((uh Hv).below hb)
   replace BB := bt BB hb
   clear hb he c2 d7 z0
   go_wp2_with fail
   go_roundw
   case rel => exact ⟨k + 1, by omega, by go_num, by rw [uh HT]; exact uh HE2, uh HN, uh kb, uh Hv, uh BB⟩
   case measure => exact ms
  ·obtain rfl : k = ws.length := by omega
   have HE3 : Hid (EntsAt w.heap.size wr (.slice la (queueOf m.smiths (ws.take ws.length)).length lc) (atV m.smiths b m.smiths.length)) := hide (by
    have h9 := uh HE
    have e9 : queueOf m.smiths (ws.take ws.length) = atV m.smiths b m.smiths.length := by rw [List.take_length, uh Hq]
    rw [← e9]
    exact h9)
   go_wp2_with fail
   go_ret
   exact ⟨_, rfl, uh HE3, uh BB⟩
theorem queueAt_any {w : World} {v0 v1 v2 v3 v4 : Value} {m : SmyV} (b : Int) (h : Smy w v0 v1 v2 v3 v4 m) (hL : Loose m) : Calls Tryz.prog 204 #[.agg #[v0, v1, v2, v3, v4, .int .i64 m.now], .int .i64 b] w fun e w' => ∃ v', e = .returned v' ∧ EntsAt w.heap.size w' v' (atV m.smiths b m.smiths.length) ∧ Below w.heap.size w w' := queueAt_of b h hL rfl
set_option maxRecDepth 100000
theorem hasRooms_any (a : Option Addr) (n cap : Nat) (i : Int) (w : World) : Calls Tryz.prog 178 #[.slice a n cap, .int .i64 i] w fun e w' => e = .returned (.bool (hasB n i)) ∧ w' = w := by
 by_cases h0 : 0 ≤ i
 ·by_cases h1 : i < (n : Int)
  all_goals
   go_enter Tryz.func178, Tryz.ntmps178
   go_wp2_with fail
   go_ret
   exact ⟨ret_bool (by unfold hasB; simp [h0, h1]), rfl⟩
 ·go_enter Tryz.func178, Tryz.ntmps178
  go_wp2_with fail
  go_ret
  exact ⟨ret_bool (by unfold hasB; simp; omega), rfl⟩
theorem hasRoom_any {w : World} {v0 v1 v2 v3 v4 : Value} {m : SmyV} {r : Int} {q : Bool} (hq : isRoomB m r = q) (h : Smy w v0 v1 v2 v3 v4 m) : Calls Tryz.prog 114 #[.agg #[v0, v1, v2, v3, v4, .int .i64 m.now], .int .i64 r] w fun e w' => e = .returned (.bool q) ∧ Below w.heap.size w w' := by
 have Hq : Hid (hasB m.rooms.length r = q) := hide (by rw [has_in]; exact hq)
 clear hq
 obtain ⟨a0, p0, a1, p1, a2, p2, a3, p3, a4, p4, rfl, rfl, rfl, rfl, rfl, K⟩ := Bx.new h
 clear h
 go_enter Tryz.func114, Tryz.ntmps114
 go_wp2_with fail
 refine (hasRooms_any _ _ _ r _).mono ?_
 rw [uh Hq]
 rintro e w1 ⟨rfl, h9⟩
 subst w1
 go_wp2_with fail
 go_ret
 exact ⟨rfl, K.bb⟩
open Go.ChangeShapes Go.WideShapes Go.ChangeAt Go.RowKit Go.Sort Go.Shelf
set_option linter.unusedSimpArgs false
set_option maxRecDepth 100000
section
variable {F G : Nat → TypeId → Array Value → Prop} {w W : World} {R : Nat} {v0 v1 v2 v3 v4 : Value} {m : SmyV} {qs : List (RoomV × Value)}
theorem Ny.more (h : Ny F w W R v0 v1 v2 v3 v4 m qs) (hG : ∀ k t cs, G k t cs → Blk W k t cs ∧ k ≠ R ∧ ¬ OwnB v0 v1 v2 v3 v4 qs k) : Ny (fun k t cs => F k t cs ∨ G k t cs) w W R v0 v1 v2 v3 v4 m qs := ⟨h.nx, fun k t cs e => e.elim (h.fx k t cs) (hG k t cs)⟩
theorem Ny.less (h : Ny F w W R v0 v1 v2 v3 v4 m qs) (hG : ∀ k t cs, G k t cs → F k t cs) : Ny G w W R v0 v1 v2 v3 v4 m qs := ⟨h.nx, fun k t cs e => h.fx k t cs (hG k t cs e)⟩
theorem Ny.new (h : Ny F w W R v0 v1 v2 v3 v4 m qs) (t : TypeId) (cs : Array Value) : Ny (fun k t' cs' => F k t' cs' ∨ (k = W.heap.size ∧ t' = t ∧ cs' = cs)) w (W.alloc (.cells cs t)) R v0 v1 v2 v3 v4 m qs := by
 have hR := h.blk.lt
 refine (h.next ((ba _ _))).more fun k t' cs' e => ?_
 obtain ⟨rfl, rfl, rfl⟩ := e
 exact ⟨Blk.new _ _ _, by omega, fun ho => by have := (h.full.own ho).2; omega⟩
end
def StAt (m : SmyV) (n : Int) (j : Nat) (x : SmyV) : Prop :=
 (j = 0 ∧ m = x) ∨ (j = 1 ∧ inB n 1 20 = true ∧ m = x) ∨ (j = 2 ∧ inB n 1 20 = true ∧ ∃ ss, Ch m n m.desks.length ss ∧ x = { m with smiths := ss }) ∨ (j = 3 ∧ inB n 1 20 = true ∧ ∃ ss, Fd m n m.smiths.length ss ∧ x = { m with smiths := ss }) ∨ (j = 4 ∧ inB n 1 20 = true ∧ ∃ ss, Fd m n m.smiths.length ss ∧ x = tickX m n ss) ∨ (j = 5 ∧ inB n 1 20 = true ∧ ∃ ss, Fd m n m.smiths.length ss ∧ looseB (tickX m n ss) = true ∧ x = tickX m n ss)
theorem tickC_out {m : SmyV} {n : Int} (h : inB n 1 20 = false) : tickC m n = 3 := by unfold tickC; rw [h]; rfl
theorem tickC_none {m : SmyV} {n : Int} (h : inB n 1 20 = true) (ht : tickTo m n m.smiths.length = none) : tickC m n = 4 := by unfold tickC; rw [h, ht]; rfl
theorem tickC_some {m : SmyV} {n : Int} (h : inB n 1 20 = true) {ss : List SmithV} (ht : tickTo m n m.smiths.length = some ss) {q : Bool} (hq : looseB (tickX m n ss) = q) : tickC m n = if q then 0 else 4 := by unfold tickC; rw [h, ht]; simp only [if_true]; rw [hq]
theorem tickY_some {m : SmyV} {n : Int} {ss : List SmithV} (ht : tickTo m n m.smiths.length = some ss) : tickY m n = tickX m n ss := by unfold tickY; rw [ht]
theorem steps_any {w : World} {q : Int → Addr} (he : Errs w q) : Calls Tryz.prog 97 #[] w fun e w' => e = .returned (.slice (some ⟨w.heap.size, 0, none⟩) 5 5) ∧ w' = w.alloc (.cells #[.func (Fn.func 154) #[] #[], sent (q 3), .func (Fn.func 155) #[] #[], sent (q 4), .func (Fn.func 156) #[] #[], sent (q 4), .func (Fn.func 157) #[] #[], sent (q 4), .func (Fn.func 158) #[] #[], sent (q 4)] 132) := by
 have x3 := he.c3
 have x4 := he.c4
 clear he
 go_enter Tryz.func97, Tryz.ntmps97
 go_wp2_with fail
 go_ret
 exact ⟨rfl, rfl⟩
theorem passes_any {w W : World} {R : Nat} {v0 v1 v2 v3 v4 : Value} {m : SmyV} {qs : List (RoomV × Value)} {q : Int → Addr} (K : Nx w W R v0 v1 v2 v3 v4 m qs) (he : Errs w q) (hm : smyB m = true) (n : Int) : Calls Tryz.prog 37 #[.pointer (some ⟨R, 0, none⟩), .int .i64 n] W fun e W' => Chg w R q (tickY m n) (tickC m n) e W' := by
 have HM := hide hm
 have HE := hide he
 have hnow : 0 ≤ m.now ∧ m.now ≤ 1000000 := by
  have hd := (smy_loose hm).head
  unfold headB at hd
  simp only [Bool.and_eq_true, decide_eq_true_eq] at hd
  exact inB_of hd.2.2.2.2.2
 obtain ⟨hnow0, hnow1⟩ := hnow
 clear hm he
 go_enter Tryz.func37, Tryz.ntmps37
 go_wp2_with fail
 refine ck (steps_any ((uh HE).below K.bb)) fun w1 hw1 => ?_
 subst hw1
 have K0 := (Ny.of K).new 132 #[.func (Fn.func 154) #[] #[], sent (q 3), .func (Fn.func 155) #[] #[], sent (q 4), .func (Fn.func 156) #[] #[], sent (q 4), .func (Fn.func 157) #[] #[], sent (q 4), .func (Fn.func 158) #[] #[], sent (q 4)]
 replace K0 : Hid (Ny (fun k t cs => k = W.heap.size ∧ t = 132 ∧ cs = #[.func (Fn.func 154) #[] #[], sent (q 3), .func (Fn.func 155) #[] #[], sent (q 4), .func (Fn.func 156) #[] #[], sent (q 4), .func (Fn.func 157) #[] #[], sent (q 4), .func (Fn.func 158) #[] #[], sent (q 4)]) w (W.alloc (.cells #[.func (Fn.func 154) #[] #[], sent (q 3), .func (Fn.func 155) #[] #[], sent (q 4), .func (Fn.func 156) #[] #[], sent (q 4), .func (Fn.func 157) #[] #[], sent (q 4), .func (Fn.func 158) #[] #[], sent (q 4)] 132)) R v0 v1 v2 v3 v4 m qs) := hide (K0.less fun k t cs e => .inr e)
 clear K
 generalize W.alloc (.cells #[.func (Fn.func 154) #[] #[], sent (q 3), .func (Fn.func 155) #[] #[], sent (q 4), .func (Fn.func 156) #[] #[], sent (q 4), .func (Fn.func 157) #[] #[], sent (q 4), .func (Fn.func 158) #[] #[], sent (q 4)] 132) = W1 at *
 generalize W.heap.size = sb at *
 go_wp2_with fail
 go_loopw [9] (fun i wr => ∃ (j : Nat) (x : SmyV), i = .int .i64 j ∧ StAt m n j x ∧ Ny (fun k t cs => k = sb ∧ t = 132 ∧ cs = #[.func (Fn.func 154) #[] #[], sent (q 3), .func (Fn.func 155) #[] #[], sent (q 4), .func (Fn.func 156) #[] #[], sent (q 4), .func (Fn.func 157) #[] #[], sent (q 4), .func (Fn.func 158) #[] #[], sent (q 4)]) w wr R v0 v1 v2 v3 v4 x qs) (fun i _ => 5 - (intOf i).toNat)
 case atStart => exact ⟨0, m, rfl, .inl ⟨rfl, rfl⟩, uh K0⟩
 case round =>
  clear K0
  obtain ⟨j, x, rfl, hst, K⟩ := hrel
  have kb := hide (K.fx sb _ _ ⟨rfl, rfl, rfl⟩).1
  rcases hst with ⟨rfl, rfl⟩ | ⟨rfl, hn, rfl⟩ | ⟨rfl, hn, ss, hch, rfl⟩ | ⟨rfl, hn, ss, hfd, rfl⟩ | ⟨rfl, hn, ss, hfd, rfl⟩ | ⟨rfl, hn, ss, hfd, hl, rfl⟩
  ·have d0 := (uh kb).cell (i := 0) (v := .func (Fn.func 154) #[] #[]) rfl
   have d1 := (uh kb).cell (i := 1) (v := sent (q 3)) rfl
   go_upto_region 4 with fail
   have KS := K.new 132 #[.func (Fn.func 154) #[] #[], sent (q 3)]
   have ks := (KS.fx _ _ _ (.inr ⟨rfl, rfl, rfl⟩)).1
   clear d0 d1 kb K
   generalize wr.alloc (.cells #[.func (Fn.func 154) #[] #[], sent (q 3)] 132) = W2 at *
   generalize wr.heap.size = sv at *
   have e0 := ks.cell (i := 0) (v := .func (Fn.func 154) #[] #[]) rfl
   clear ks
   obtain ⟨qn, hqn⟩ : ∃ b, inB n 1 20 = b := ⟨_, rfl⟩
   have Hqn := hide hqn
   clear hqn
   go_wp2_with fail
   refine (canGoBy_any n _ _).mono ?_
   rw [uh Hqn]
   rintro e w5 ⟨rfl, hw5⟩
   subst hw5
   clear e0
   cases qn
   ·have hcd := tickC_out (m := m) (uh Hqn)
    have e1 := (KS.fb _ _ _ (.inr ⟨rfl, rfl, rfl⟩)).cell (i := 1) (v := sent (q 3)) rfl
    have Hcd := hide hcd
    clear hcd
    go_wp2_with fail
    go_ret
    exact Chg.no KS.bb (uh Hcd) (by omega)
   ·go_wp2_with fail
    go_roundw
    case rel => exact ⟨1, _, by go_num, .inr (.inl ⟨rfl, uh Hqn, rfl⟩), KS.less fun k t cs e => .inl e⟩
    case measure => simp [intOf]
  ·have d0 := (uh kb).cell (i := 2) (v := .func (Fn.func 155) #[] #[]) rfl
   have d1 := (uh kb).cell (i := 3) (v := sent (q 4)) rfl
   go_upto_region 4 with fail
   have KS := K.new 132 #[.func (Fn.func 155) #[] #[], sent (q 4)]
   have ks := (KS.fx _ _ _ (.inr ⟨rfl, rfl, rfl⟩)).1
   clear d0 d1 kb K
   generalize wr.alloc (.cells #[.func (Fn.func 155) #[] #[], sent (q 4)] 132) = W2 at *
   generalize wr.heap.size = sv at *
   have e0 := ks.cell (i := 0) (v := .func (Fn.func 155) #[] #[]) rfl
   clear ks
   have Hn := hide hn
   clear hn
   go_wp2_with fail
   refine (chargeWorkers_any KS (uh HM) (uh Hn)).mono ?_
   rintro e w5 ⟨hb5, hF5, ⟨rfl, ss, hch, K5⟩ | ⟨rfl, htn⟩⟩
   ·have Hch := hide hch
    clear hch e0 KS hb5 hF5
    go_wp2_with fail
    go_roundw
    case rel => exact ⟨2, _, by go_num, .inr (.inr (.inl ⟨rfl, uh Hn, ss, uh Hch, rfl⟩)), K5.less fun k t cs e => .inl e⟩
    case measure => simp [intOf]
   ·have hcd := tickC_none (uh Hn) htn
    clear e0 KS htn
    have e1 := (hF5 _ _ _ (.inr ⟨rfl, rfl, rfl⟩)).cell (i := 1) (v := sent (q 4)) rfl
    have Hcd := hide hcd
    clear hcd
    go_wp2_with fail
    go_ret
    exact Chg.no hb5 (uh Hcd) (by omega)
  ·have d0 := (uh kb).cell (i := 4) (v := .func (Fn.func 156) #[] #[]) rfl
   have d1 := (uh kb).cell (i := 5) (v := sent (q 4)) rfl
   go_upto_region 4 with fail
   have KS := K.new 132 #[.func (Fn.func 156) #[] #[], sent (q 4)]
   have ks := (KS.fx _ _ _ (.inr ⟨rfl, rfl, rfl⟩)).1
   clear d0 d1 kb K
   generalize wr.alloc (.cells #[.func (Fn.func 156) #[] #[], sent (q 4)] 132) = W2 at *
   generalize wr.heap.size = sv at *
   have e0 := ks.cell (i := 0) (v := .func (Fn.func 156) #[] #[]) rfl
   clear ks
   have Hn := hide hn
   have Hz := hide (fd_zero (uh HM) hch)
   clear hn hch
   go_wp2_with fail
   refine (fadeAll_any KS (uh HM) (uh Hn) (uh Hz)).mono ?_
   rintro e w5 ⟨rfl, ts, hfd, K5⟩
   have Hfd := hide hfd
   clear hfd e0 KS Hz
   go_wp2_with fail
   go_roundw
   case rel => exact ⟨3, _, by go_num, .inr (.inr (.inr (.inl ⟨rfl, uh Hn, ts, uh Hfd, rfl⟩))), K5.less fun k t cs e => .inl e⟩
   case measure => simp [intOf]
  ·have d0 := (uh kb).cell (i := 6) (v := .func (Fn.func 157) #[] #[]) rfl
   have d1 := (uh kb).cell (i := 7) (v := sent (q 4)) rfl
   go_upto_region 4 with fail
   have KS := K.new 132 #[.func (Fn.func 157) #[] #[], sent (q 4)]
   have ks := (KS.fx _ _ _ (.inr ⟨rfl, rfl, rfl⟩)).1
   clear d0 d1 kb K
   generalize wr.alloc (.cells #[.func (Fn.func 157) #[] #[], sent (q 4)] 132) = W2 at *
   generalize wr.heap.size = sv at *
   have e0 := ks.cell (i := 0) (v := .func (Fn.func 157) #[] #[]) rfl
   clear ks
   have Hn := hide hn
   have Hfd := hide hfd
   clear hn hfd
   go_wp2_with fail
   refine ck (countTime_any KS hnow0 hnow1 (uh Hn)) fun w5 K5 => ?_
   clear e0 KS
   go_wp2_with fail
   go_roundw
   case rel => exact ⟨4, _, by go_num, .inr (.inr (.inr (.inr (.inl ⟨rfl, uh Hn, ss, uh Hfd, rfl⟩)))), K5.less fun k t cs e => .inl e⟩
   case measure => simp [intOf]
  ·have d0 := (uh kb).cell (i := 8) (v := .func (Fn.func 158) #[] #[]) rfl
   have d1 := (uh kb).cell (i := 9) (v := sent (q 4)) rfl
   go_upto_region 4 with fail
   have KS := K.new 132 #[.func (Fn.func 158) #[] #[], sent (q 4)]
   have ks := (KS.fx _ _ _ (.inr ⟨rfl, rfl, rfl⟩)).1
   clear d0 d1 kb K
   generalize wr.alloc (.cells #[.func (Fn.func 158) #[] #[], sent (q 4)] 132) = W2 at *
   generalize wr.heap.size = sv at *
   have e0 := ks.cell (i := 0) (v := .func (Fn.func 158) #[] #[]) rfl
   clear ks
   have Hn := hide hn
   have Hfd := hide hfd
   clear hn hfd
   obtain ⟨ql, hql⟩ : ∃ b, looseB (tickX m n ss) = b := ⟨_, rfl⟩
   have Hql := hide hql
   clear hql
   go_wp2_with fail
   refine ck (isInRange_any KS _ (uh Hql)) fun w5 K5 => ?_
   clear e0 KS
   cases ql
   ·have hcd := tickC_some (uh Hn) (fd_done (uh HM) (uh Hn) (uh Hfd)) (uh Hql)
    replace hcd : tickC m n = 4 := hcd
    have e1 := (K5.fb _ _ _ (.inr ⟨rfl, rfl, rfl⟩)).cell (i := 1) (v := sent (q 4)) rfl
    have Hcd := hide hcd
    clear hcd
    go_wp2_with fail
    go_ret
    exact Chg.no K5.bb (uh Hcd) (by omega)
   ·go_wp2_with fail
    go_roundw
    case rel => exact ⟨5, _, by go_num, .inr (.inr (.inr (.inr (.inr ⟨rfl, uh Hn, ss, uh Hfd, uh Hql, rfl⟩)))), K5.less fun k t cs e => .inl e⟩
    case measure => simp [intOf]
  ·have hc0 := tickC_some hn (fd_done (uh HM) hn hfd) hl
   have hx0 := tickY_some (fd_done (uh HM) hn hfd)
   have Hc0 := hide hc0
   have Hx0 := hide hx0
   clear hc0 hx0 hfd hl hn kb
   go_wp2_with fail
   go_ret
   exact Chg.yes K.nx (uh Hc0) (uh Hx0)
theorem grants_any {w W : World} {R : Nat} {v0 v1 v2 v3 v4 : Value} {m : SmyV} {qs : List (RoomV × Value)} {q : Int → Addr} (K : Nx w W R v0 v1 v2 v3 v4 m qs) (he : Errs w q) (hm : smyB m = true) (room pace : Int) : Calls Tryz.prog 57 #[.pointer (some ⟨R, 0, none⟩), .int .i64 room, .int .i64 pace] W fun e W' => Chg w R q (grantX m room pace) (grantC m room pace) e W' := by
 have HM := hide hm
 have HE := hide he
 clear hm he
 obtain ⟨a0, p0, a1, p1, a2, p2, a3, p3, a4, p4, rfl, rfl, rfl, rfl, rfl⟩ := full_five K.full
 obtain ⟨qr, hqr⟩ : ∃ q, isRoomB m room = q := ⟨_, rfl⟩
 have Hr := hide hqr
 clear hqr
 obtain ⟨c0, c1, c2, c3, c4, c5⟩ := K.cells
 go_enter Tryz.func57, Tryz.ntmps57
 go_wp2_with fail
 refine ck (hasRoom_any (uh Hr) K.full.smy) fun w2 hb => ?_
 replace K := K.next hb
 clear hb c0 c1 c2 c3 c4 c5
 cases qr
 ·have hc0 : grantC m room pace = 1 := by unfold grantC; rw [uh Hr]; rfl
  have x1 := ((uh HE).below K.bb).c1
  go_wp2_with fail
  go_ret
  exact Chg.no K.bb hc0 (by omega)
 obtain ⟨r, rfl, hr⟩ := room_of (uh Hr)
 have hr1 : (r : Int) < (m.rooms.length : Int) := by omega
 obtain ⟨_, _, hre, _, _, r0⟩ := K.full.smy.rooms
 cases hre
 rcases r0 with e0 | ⟨rb, off, rfl, hbw, hcl⟩
 ·rw [e0] at hr; simp at hr
 obtain ⟨d0, pv, d1, hpv⟩ := hcl r hr
 obtain ⟨pa, pc, rfl, _, _, _⟩ := hpv
 obtain ⟨pl, hpl⟩ : ∃ q, (roomAt m.rooms r).2.length = q := ⟨_, rfl⟩
 have Hpl := hide hpl
 rw [hpl] at d1
 obtain ⟨qp, hqp⟩ : ∃ q, hasB pl pace = q := ⟨_, rfl⟩
 have Hqp := hide hqp
 have Hin : Hid (inB pace 0 (((roomAt m.rooms ((r : Int)).toNat).2.length : Int) - 1) = qp) := hide (by rw [Int.toNat_natCast, hpl, ← hqp, has_in])
 clear hcl hpl hqp d0
 obtain ⟨c0, c1, c2, c3, c4, c5⟩ := K.cells
 go_wp2_with fail
 refine (hasPace_any _ _ _ _ _).mono ?_
 rw [uh Hqp]
 rintro e w3 ⟨rfl, hw3⟩
 subst hw3
 clear d1 c0 c1 c2 c3 c4 c5
 cases qp
 ·have hc0 : grantC m (r : Int) pace = 3 := by unfold grantC; rw [uh Hr, uh Hin]; rfl
  have x1 := ((uh HE).below K.bb).c3
  go_wp2_with fail
  go_ret
  exact Chg.no K.bb hc0 (by omega)
 have hc0 : grantC m (r : Int) pace = 0 := by unfold grantC; rw [uh Hr, uh Hin]; rfl
 have hx0 : grantX m (r : Int) pace = setP m r pace := by unfold grantX; rw [Int.toNat_natCast]
 have Hc0 := hide hc0
 have Hx0 := hide hx0
 clear hc0 hx0
 have hpl := paces_len (smy_loose (uh HM))
 have hr2 : r < m.paces.length := by omega
 have hr3 : (r : Int) < (m.paces.length : Int) := by omega
 obtain ⟨g4, rfl, hg4, hg4w, hc4, hz4⟩ := RecAt.view encNum_len (by omega) K.full.paces rfl (show 0 < m.paces.length by omega)
 have n0 := hc4 r hr2 0 _ rfl
 have fz := hz4 r
 simp only [Nat.mul_one, Nat.add_zero] at n0
 have HK := hide (K.putP rfl hr2 pace)
 clear hc4 hz4 hpl
 obtain ⟨_, _, _, _, c4, _⟩ := K.cells
 clear K
 go_wp2_with fail
 go_ret
 exact Chg.yes (uh HK) (uh Hc0) (uh Hx0)
end Go.Proofs.YtffcgajndmhpkaaGreatDoor
namespace Go.Proofs.YtffcgajndmhpkaaGreatDoor
open Go.ChangeShapes Go.WideShapes Go.ChangeAt Go.RowKit Go.Sort
set_option linter.unusedVariables false
set_option linter.unusedSimpArgs false
set_option maxRecDepth 100000
theorem own_hall_empty {B g : Nat} {w : World} (hg : g = w.heap.size) (hB : B ≤ g) : OwnHall B (w.alloc (.cells #[] 45)) (.slice (some ⟨g, 0, none⟩) 0 0) [] := by
 subst hg
 exact ⟨⟨by simp [rcells], .inr ⟨_, 0, #[], rfl, hB, heap_alloc_new w _, Nat.le_refl _, Nat.zero_le _, by simp, by simp [rcells]⟩⟩, fun _ h => (by cases h), fun _ h => (by cases h), List.Pairwise.nil⟩
theorem copied_any {w : World} {v : Value} {ps : List PaceV} (h : IsPaces w v ps) (hl : ps.length ≤ 1000) : Calls Tryz.prog 203 #[v] w fun e w' => ∃ v', e = .returned v' ∧ PacesAt w.heap.size w' v' ps ∧ Below w.heap.size w w' := by
 have HR := hide (IsPaces.rec (h.below ((Below.refl _ _).alloc (Nat.le_refl _) (.cells #[] 42))))
 obtain ⟨a, cap, rfl, hc, hm, hr⟩ := h
 clear hr
 go_enter Tryz.func203, Tryz.ntmps203
 go_wp2_with (at_builtin; refine wpList_append_recs tyPace rfl (.tmp 3) (.tmp 4) 147 Tryz.underlying147 rfl w.heap.size _ _ [] ps rfl rfl (recs_empty rfl (Nat.le_refl _)) (uh HR) (by simp; omega) (by simp) ?_; intro u9 w9 hp9 hg9 hat9; rw [List.nil_append] at hp9; have HP9 := hide hp9; have HG9 := hide hg9; clear hp9 hg9 hat9)
 have hb9 : Below w.heap.size w w9 := ((ba _ _)).trans ((Below.refl _ _).grown (uh HG9) (by simp) (fun i e => by cases e; exact Nat.le_refl _))
 go_wp2_with fail
 go_ret
 exact ⟨_, rfl, uh HP9, hb9⟩
theorem copyOfHall_any {w : World} {v : Value} {rs : List RoomV} (h : IsRooms w v rs) (hl : rs.length ≤ 1000) (hp : ∀ r ∈ rs, r.2.length ≤ 1000) :
  Calls Tryz.prog 147 #[.agg #[v]] w fun e w' => ∃ v' qs, e = .returned (.agg #[v']) ∧ qs.map (·.1) = rs ∧ OwnHall w.heap.size w' v' qs ∧ Below w.heap.size w w' := by
 obtain ⟨a, cap, rfl, hc, hm, hr⟩ := h
 have Hr := hide hr
 have HP := hide hp
 clear hr hp
 go_enter Tryz.func147, Tryz.ntmps147
 go_wp2_with fail
 go_loopw [3, 10] (fun u i wr => ∃ (k : Nat) (qs : List (RoomV × Value)) (ua : Option Addr) (uc : Nat), k ≤ rs.length ∧ i = .int .i64 k ∧ u = .slice ua k uc ∧ Blk wr (w.heap.size + 1) 26 #[.slice none 0 0] ∧ OwnHall (w.heap.size + 2) wr (.slice ua k uc) qs ∧ qs.map (·.1) = rs.take k ∧ Below w.heap.size w wr) (fun _ i _ => rs.length - (intOf i).toNat)
 case atStart =>
  refine ⟨0, [], _, _, Nat.zero_le _, rfl, rfl, ?_, own_hall_empty (by simp) (by simp), rfl, (((ba _ _)).alloc (by simp) _).alloc (by simp; omega) _⟩
  have k := Blk.new (w.alloc (.cells #[.slice a rs.length cap] 26)) 26 #[.slice none 0 0]
  rw [World.size_alloc] at k
  exact k.alloc _
 case round =>
  obtain ⟨k, qs, ua, uc, hk, rfl, rfl, kr, ho, hq, hb⟩ := hrel
  have hql : qs.length = k := by have := congrArg List.length hq; simp at this; omega
  have Hql := hide hql
  clear hql
  have Kr := hide kr
  have Ho := hide ho
  have Hq := hide hq
  have Hb := hide hb
  have hsz := kr.lt
  by_cases hlt : k < rs.length
  ·have hlt1 : (k : Int) < (rs.length : Int) := by omega
   rcases uh Hr with e0 | ⟨b, off, rfl, hbw, hcl⟩
   ·rw [e0] at hlt; simp at hlt
   obtain ⟨c0, pv, c1, hpv⟩ := hcl k hlt
   rw [← hb.cell (p := ⟨b, off + k * 2, none⟩) hbw] at c0
   rw [← hb.cell (p := ⟨b, off + k * 2 + 1, none⟩) hbw] at c1
   have Hpv := hide (hpv.below (hb.mono (Nat.le_refl _)))
   have hpl := uh HP (roomAt rs k) (by unfold roomAt; simp [List.getD, hlt])
   have Htk : Hid (rs.take (k + 1) = rs.take k ++ [roomAt rs k]) := hide (by rw [List.take_succ_eq_append_getElem hlt]; unfold roomAt; simp [List.getD, hlt])
   generalize roomAt rs k = r at *
   obtain ⟨n, ps⟩ := r
   simp only at c0 hpl hpv
   obtain ⟨pa, pc, rfl, _, _, _⟩ := hpv
   have hbw' : b < wr.heap.size := by have := hb.size; omega
   clear hcl kr ho hq hb
   go_wp2_with fail
   clear c0 c1
   have hba : Below wr.heap.size wr (wr.alloc (.cells #[.int .i64 n, .slice pa ps.length pc] 45)) := ba _ _
   have KB : Hid (Blk (wr.alloc (.cells #[.int .i64 n, .slice pa ps.length pc] 45)) wr.heap.size 45 #[.int .i64 n, .slice pa ps.length pc]) := hide (Blk.new wr _ _)
   replace Kr := bl Kr hba
   have HLB : Hid (∀ i, (Value.slice ua k uc).ownBlock = some i → i < wr.heap.size) := hide (fun i e => ((uh Ho).lt (.inl e)).2)
   replace Ho := hide ((uh Ho).later hba)
   replace Hb := hide ((uh Hb).trans (hba.mono (uh Hb).size))
   replace Hpv := hide ((uh Hpv).below hba)
   have hsz2 : w.heap.size + 2 ≤ (wr.alloc (.cells #[.int .i64 n, .slice pa ps.length pc] 45)).heap.size := by have := (uh Kr).lt; simp at this ⊢; omega
   clear hba
   generalize wr.alloc (.cells #[.int .i64 n, .slice pa ps.length pc] 45) = X at *
   generalize wr.heap.size = rb at *
   have s0 := (uh KB).cell (i := 0) (v := .int .i64 n) rfl
   have s1 := (uh KB).cell (i := 1) (v := .slice pa ps.length pc) rfl
   refine wp_region_last (S := fun w' => w'.cell? ⟨rb, 0, none⟩ = some (.int .i64 n) ∧ w'.cell? ⟨rb, 1, none⟩ = some (.slice pa ps.length pc)) (by kernel_rfl) (List.cons_ne_nil _ _) (by kernel_rfl) ⟨s0, s1⟩ (fun hHeld => ?_)
   simp only [List.dropLast_cons_cons, List.dropLast_singleton, List.length_cons, List.length_nil, Nat.zero_add, Nat.reduceAdd]
   (refine tq 0 ?_; (try simp only [Act.put, sA, sZ, sS]))
   (refine tq 1 ?_; (try simp only [Act.put, sA, sZ, sS]))
   (refine tq 2 ?_; (try simp only [Act.put, sA, sZ, sS]))
   (refine tq 3 ?_; (try simp only [Act.put, sA, sZ, sS]))
   (refine tq 4 ?_; (try simp only [Act.put, sA, sZ, sS]))
   refine rd 5 rfl (fun K hK => ?_)
   go_simp
   refine (copied_any ((uh Hpv).below (Below.refl _ _).drew) hpl).mono ?_
   rintro e9 w4 ⟨v4, rfl, hp4, hb4⟩
   obtain ⟨pa4, pc4, rfl⟩ := PacesAt.shape hp4
   have X4 : Below X.heap.size X w4 := (Below.refl X.heap.size X).drew.trans hb4
   have HO4 : Hid (PacesAt X.heap.size w4 (.slice pa4 ps.length pc4) ps) := hide hp4
   have HX4 := hide X4
   have hz4 := X4.size
   have t0 := (X4.cell (p := ⟨rb, 0, none⟩) (uh KB).lt).trans s0
   have t1 := (X4.cell (p := ⟨rb, 1, none⟩) (uh KB).lt).trans s1
   clear hp4 hb4 X4
   refine hK.out _ _ ⟨t0, t1⟩ (fun hHeld => ?_)
   clear hK K
   (try simp only [Act.put, sA, sZ, sS])
   (refine tq 6 ?_; (try simp only [Act.put, sA, sZ, sS]))
   have KB5 := ((uh KB).below (uh HX4) (uh KB).lt).alloc (.cells #[.int .i64 n, .slice pa4 ps.length pc4] 45)
   have u0 := KB5.cell (i := 0) (v := .int .i64 n) rfl
   have u1 := KB5.cell (i := 1) (v := .slice pa ps.length pc) rfl
   refine rd 7 rfl (fun K hK => ?_)
   go_simp
   refine hK.out _ _ ⟨u0, u1⟩ (fun hHeld => ?_)
   clear hK K
   (try simp only [Act.put, sA, sZ, sS])
   obtain ⟨v5, w5, hrun5, hown5, hg5, hat5⟩ := run_append_room (w := w4.alloc (.cells #[.int .i64 n, .slice pa4 ps.length pc4] 45)) (t := 24) (ty := 24) (base := w.heap.size + 2) (v := .slice ua k uc) (n := k) (xs := rcells qs) Tryz.underlying24 (World.ownsRow.alloc (by have h9 := ((uh Ho).later (uh HX4)).row; rw [uh Hql] at h9; exact h9) _) (g := w4.heap.size) (c := 1) (cell_new w4 (i := 0) rfl) (cell_new w4 (i := 1) rfl) rfl (by omega) (by simp; omega)
   obtain ⟨a5, c5, rfl⟩ := own_shape hown5
   have hn5 : ∀ i, (Value.slice ua k uc).ownBlock = some i → w.heap.size + 2 ≤ i ∧ i < X.heap.size := fun i e => (uh Ho).lt (.inl e)
   have hrbX := (uh KB).lt
   have RB : Hid (∀ i, (Value.slice ua k uc).ownBlock = some i → i ≠ rb) := hide (fun i e e2 => by have := uh HLB i e; omega)
   have KB6 := KB5.same (w' := w5) (hg5.block _ KB5.lt (fun e => uh RB _ e.symm rfl))
   have y0 := KB6.cell (i := 0) (v := .int .i64 n) rfl
   have y1 := KB6.cell (i := 1) (v := .slice pa ps.length pc) rfl
   have HO5 := hide hown5
   have HG5 := hide hg5
   have HA5 := hide hat5
   have R5 := hide hrun5
   have X5 : Hid (Below (w.heap.size + 2) X w5) := hide (by
    have q1 : Below X.heap.size X w4 := uh HX4
    have q2 : Below w4.heap.size w4 (w4.alloc (.cells #[.int .i64 n, .slice pa4 ps.length pc4] 45)) := ba _ _
    have q3 : Below (w.heap.size + 2) (w4.alloc (.cells #[.int .i64 n, .slice pa4 ps.length pc4] 45)) w5 := (Below.refl _ _).grown (uh HG5) (by have := q1.size; simp; omega) (fun i e => ((uh Ho).lt (.inl e)).1)
    exact ((q1.mono (by omega)).trans (q2.mono (by have := q1.size; omega))).trans q3)
   have hp5 : OwnHall (w.heap.size + 2) w5 (.slice a5 (k + 1) c5) (qs ++ [((n, ps), .slice pa4 ps.length pc4)]) := by
    have q1 : OwnHall (w.heap.size + 2) w4 (.slice ua k uc) qs := (uh Ho).later (uh HX4)
    have q2 : PacesAt X.heap.size w4 (.slice pa4 ps.length pc4) ps := uh HO4
    have q3 : PacesAt (w.heap.size + 2) w4 (.slice pa4 ps.length pc4) ps := q2.mono (by omega)
    refine OwnHall.push (w := w4) (w1 := w5) (v := .slice ua k uc) (o := .cells #[.int .i64 n, .slice pa4 ps.length pc4] 45) q1 q3 ?_ ?_ ?_ (uh HG5) (uh HA5)
    ·intro b' e e'
     have h8 := (q2.lt e).1
     have h9 := ((uh Ho).lt (.inl e')).2
     omega
    ·intro q hq' b' e e'
     have h8 := (q2.lt e').1
     have h9 := ((uh Ho).lt (.inr ⟨q, hq', e⟩)).2
     omega
    ·rw [uh Hql]; exact uh HO5
   have HP5 := hide hp5
   clear hp5 hown5 hg5 hat5 hrun5 KB5 KB6
   refine rd 8 rfl (fun K hK => ?_)
   refine step_append_run rfl (.tmp 14) (.tmp 21) 24 rfl rfl rfl (uh R5) ?_
   refine hK.out _ _ ⟨y0, y1⟩ (fun hHeld => ?_)
   clear hK K
   (try simp only [Act.put, sA, sZ, sS])
   refine wpAnyH_done (by kernel_rfl) ?_ _
   refine tailQ_run rfl rfl ?_
   go_simp
   clear hHeld
   go_wp2_with fail
   go_roundw
   case rel =>
    exact ⟨k + 1, qs ++ [((n, ps), .slice pa4 ps.length pc4)], a5, c5, by omega, by go_num, rfl, (uh Kr).below (uh X5) (by omega), uh HP5, by rw [List.map_append, uh Hq, uh Htk]; rfl, (uh Hb).trans ((uh X5).mono (by omega))⟩
   case measure => exact ms
  ·obtain rfl : k = rs.length := by omega
   have r0 := kr.cell (i := 0) rfl
   have r1 := kr.free 0
   go_wp2_with fail
   rw [List.take_length] at hq
   refine bodyPost_ret (v := .agg #[.slice ua rs.length uc]) (by simp [results, Tryz.results147, go_sem, *]) rfl ⟨_, qs, rfl, hq, ?_, ?_⟩
   ·exact (ho.same fun i h0 hi => heap_setCell_other _ _ _ _ (by show i ≠ w.heap.size + 1; omega)).mono (by omega)
   ·exact hb.setCell (by show _ ≤ w.heap.size + 1; omega) _
set_option maxRecDepth 100000
theorem slice_cut (a : Option Addr) (n cap k : Nat) (hn : n = k + 1) (hc : n ≤ cap) (W : World) : (Instr.slice 148 (.slice a n cap) (some (.int .i64 1)) (some (.int .i64 (n : Int))) (some (.int .i64 (n : Int)))).run Tryz.prog W = .ok (.slice (if k = 0 then a else a.map (·.add 2)) k k) W := by
 obtain ⟨i0, hi, hz0, hz1, hz2⟩ := info_parts infoEntry
 have hs : ∀ W, (sizeOf 151).run Tryz.prog W = .ok 2 W := fun W => by simp [sizeOf, typeInfo, hi, hz1]
 have hb : ∀ W, (Instr.sliceBounds true n cap (some (.int .i64 1)) (some (.int .i64 (n : Int))) (some (.int .i64 (n : Int)))).run Tryz.prog W = .ok (1, n, n) W := fun W => by
  have h1 : (0 : Int) ≤ (n : Int) ∧ (n : Int) ≤ (cap : Int) := by omega
  have h2 : (0 : Int) ≤ (n : Int) ∧ (n : Int) ≤ (n : Int) := by omega
  have h3 : (0 : Int) ≤ 1 ∧ (1 : Int) ≤ (n : Int) := by omega
  simp only [Instr.sliceBounds, Instr.sliceBound, asIntOf, Sem.run_bind, Sem.run_pure, Result.andThen_ok, if_pos h1, if_pos h2, if_pos h3, Int.toNat_natCast]
  rfl
 simp only [Instr.slice, Sem.run_bind, run_underlying Tryz.underlying148, Result.andThen, hb, hs, Sem.run_pure]
 have e1 : (n = 1) = (k = 0) := by apply propext; omega
 rw [show n - 1 = k by omega]
 simp only [e1, Nat.one_mul]
theorem IsPaces.behind {w : World} {a : Option Addr} {n cap : Nat} {e : PaceV} {t : List PaceV} (h : IsPaces w (.slice a n cap) (e :: t)) : IsPaces w (.slice (if t.length = 0 then a else a.map (·.add 2)) t.length t.length) t := by
 obtain ⟨a', cap', he, hc, hm, hr⟩ := h
 cases he
 rw [List.length_cons] at hc
 refine ⟨_, t.length, rfl, Nat.le_refl _, by omega, ?_⟩
 by_cases h0 : t.length = 0
 ·exact .inl (List.eq_nil_of_length_eq_zero h0)
 ·rcases hr with hr | ⟨b, off, rfl, hlt, hcl⟩
  ·cases hr
  ·rw [if_neg h0]
   refine .inr ⟨b, off + 2, by simp [addr_at], hlt, fun j hj => ?_⟩
   have := hcl (j + 1) (by simp; omega)
   rw [show off + (j + 1) * 2 = off + 2 + j * 2 by omega] at this
   exact this
theorem run_copy_ents {w : World} {g base sc : Nat} {sp : Option Addr} {ps : List PaceV} {xs : List Value} (ty : TypeId) (hd : w.ownsRow base 151 2 (.slice (some ⟨g, 0, none⟩) ps.length ps.length) ps.length xs) (hs : IsPaces w (.slice sp ps.length sc) ps) :
  ∃ w', (Builtin.copy_ #[148, 148] ty #[.slice (some ⟨g, 0, none⟩) ps.length ps.length, .slice sp ps.length sc]).run Tryz.prog w = .ok (goInt ps.length) w' ∧ EntsAt base w' (.slice (some ⟨g, 0, none⟩) ps.length ps.length) ps ∧ Below base w w' := by
 obtain ⟨i0, hi, hz0, hz1, hz2⟩ := info_parts infoEntry
 rcases hd.2 with ⟨he, _⟩ | ⟨g', cap, cur, he, hb, hg, hnc, hcm, hsz, htk⟩
 ·cases he
 cases he
 have hpl := pcells_len ps
 obtain ⟨a', cap', he, hc, hm, hr⟩ := hs
 cases he
 have hload : (Builtin.firstCells 2 ps.length (.slice sp ps.length sc)).run Tryz.prog w = .ok (pcells ps).toArray w := by
  rcases hr with hr | ⟨b, off, rfl, hlt, hcl⟩
  ·subst hr
   cases sp with
   | none => rfl
   | some ad =>
    have := run_loadCells_list (P := Tryz.prog) w ad (pcells []) (fun j v h => by simp [pcells] at h)
    exact this
  ·have := run_loadCells_list (P := Tryz.prog) w ⟨b, off, none⟩ (pcells ps) (fun j v h => by
    have hj : j < ps.length * 2 := by
     have := (List.getElem?_eq_some_iff.1 h).1
     omega
    have hp := pairs_get (f := fun p : PaceV => Value.int .i64 p.1) (g := fun p : PaceV => Value.int .i64 p.2) ps (j / 2) (by omega)
    have hat : paceAt ps (j / 2) = ps[j / 2]'(by omega) := by unfold paceAt; simp [List.getD, (by omega : j / 2 < ps.length)]
    obtain ⟨c0, c1⟩ := hcl (j / 2) (by omega)
    rw [hat] at c0 c1
    have ha : (⟨b, off, none⟩ : Addr).add j = ⟨b, off + j, none⟩ := by unfold Addr.add; split <;> simp_all
    rw [ha]
    rcases Nat.mod_two_eq_zero_or_one j with e2 | e2
    ·have ej : j = j / 2 * 2 := by omega
     have h9 : (pcells ps)[j / 2 * 2]? = some (.int .i64 (ps[j / 2]'(by omega)).1) := hp.1
     rw [← ej, h] at h9
     cases h9
     rw [show off + j = off + j / 2 * 2 by omega]
     exact c0
    ·have ej : j = j / 2 * 2 + 1 := by omega
     have h9 : (pcells ps)[j / 2 * 2 + 1]? = some (.int .i64 (ps[j / 2]'(by omega)).2) := hp.2
     rw [← ej, h] at h9
     cases h9
     rw [show off + j = off + j / 2 * 2 + 1 by omega]
     exact c1)
   rw [hpl] at this
   exact this
 have hst := run_storeCells_at Tryz.prog g 0 151 (pcells ps) 0 cur w hg (by rw [hpl, hsz]; omega) (fun v hv => by
  unfold pcells at hv
  obtain ⟨p, _, hp⟩ := List.mem_flatMap.1 hv
  simp only [List.mem_cons, List.not_mem_nil, or_false] at hp
  rcases hp with rfl | rfl <;> rfl)
 have hdrop : cur.toList.drop (pcells ps).length = [] := by
  rw [List.drop_eq_nil_iff, Array.length_toList, hsz, hpl]; exact Nat.le_refl _
 simp only [Nat.zero_add, List.take_zero, List.nil_append, hdrop, List.append_nil] at hst
 refine ⟨w.setRow g (pcells ps).toArray, ?_, ⟨hpl, .inr ⟨g, ps.length, (pcells ps).toArray, rfl, hb, setRow_heap w g _ _ _ _ hg, Nat.le_refl _, hcm, by simp [hpl], ?_⟩⟩, ?_⟩
 ·have hsz2 : (sizeOf 151).run Tryz.prog w = .ok 2 w := by simp [sizeOf, typeInfo, hi, hz1]
  have hlen : (Builtin.lenOf (.slice sp ps.length sc)).run Tryz.prog w = .ok ps.length w := rfl
  have hmin : Nat.min ps.length ps.length = ps.length := Nat.min_self _
  unfold Builtin.copy_
  simp only [Sem.run_bind, run_underlying Tryz.underlying148, Result.andThen_ok, hlen, hmin, hsz2, hload, List.getElem?_toArray, List.getElem?_cons_zero, List.getElem?_cons_succ, Sem.run_pure, hst]
 ·rw [List.take_of_length_le (by simp [hpl])]
 ·exact ⟨rfl, rfl, rfl, by simp [World.setRow], fun k hk => setRow_other w g k _ (by omega)⟩
theorem waitingIn_any {w : World} {v : Value} {e : PaceV} {t : List PaceV} (h : IsPaces w v (e :: t)) (hl : t.length ≤ 1000) : Calls Tryz.prog 207 #[v] w fun e w' => ∃ v', e = .returned v' ∧ EntsAt w.heap.size w' v' t ∧ Below w.heap.size w w' := by
 have Hv := hide h
 obtain ⟨a, cap, rfl, hc, hm, hr⟩ := h
 obtain ⟨n, hn⟩ : ∃ n, n = t.length + 1 := ⟨_, rfl⟩
 rw [show (e :: t).length = n by rw [hn]; rfl] at Hv hc ⊢
 have hcut := fun W => slice_cut a n cap t.length hn hc W
 have HB := hide (uh Hv).behind
 obtain ⟨sp, hsp⟩ : ∃ q, (if t.length = 0 then a else a.map (·.add 2)) = q := ⟨_, rfl⟩
 rw [hsp] at HB
 simp only [hsp] at hcut
 have hn1 : n ≤ 1001 := by omega
 clear hr hn hsp
 obtain ⟨i0, hi, hz0, hz1, hz2⟩ := info_parts infoEntry
 go_enter Tryz.func207, Tryz.ntmps207
 go_upto_region 3 with (at_make; refine wpList_make_full _ rfl _ _ 148 rfl w.heap.size 151 i0 (.agg #[.int .i64 0, .int .i64 0]) 2 Tryz.underlying148 hi hz0 hz1 _ _ _ _ t.length rfl rfl rfl rfl (by rw [hz2]; omega) (by unfold maxLen; omega) (Nat.le_refl _) ?_; intro w0 hown hgrow; have HBB : Hid (Below w.heap.size w w0) := hide ((Below.refl _ _).grown hgrow (Nat.le_refl _) (fun k e => by cases e)); obtain ⟨w9, hrun, he9, hb9⟩ := run_copy_ents 3 hown ((uh HB).below (uh HBB)); have HR := hide hrun; have HE := hide he9; have HB9 := hide hb9; clear hown hgrow hrun he9 hb9)
 have hr9 := uh HR
 go_wp2_with fail
 go_ret
 exact ⟨_, rfl, uh HE, (uh HBB).trans (uh HB9)⟩
theorem copiedGuild_any {w : World} {v : Value} {ps : List GuildV} (h : IsGuilds w v ps) (hl : ps.length ≤ 1000) : Calls Tryz.prog 148 #[v] w fun e w' => ∃ v', e = .returned v' ∧ GuildsAt w.heap.size w' v' ps ∧ Below w.heap.size w w' := by
 have HR := hide (h.below ((Below.refl _ _).alloc (Nat.le_refl _) (.cells #[] 88)))
 obtain ⟨a, cap, rfl, hc, hm, hr⟩ := h
 clear hr
 go_enter Tryz.func148, Tryz.ntmps148
 go_wp2_with (at_builtin; refine wpList_append_recs tyG rfl (.tmp 3) (.tmp 4) 186 Tryz.underlying186 rfl w.heap.size _ _ [] ps rfl rfl (recs_empty rfl (Nat.le_refl _)) (uh HR) (by simp; omega) (by simp) ?_; intro u9 w9 hp9 hg9 hat9; rw [List.nil_append] at hp9; have HP9 := hide hp9; have HG9 := hide hg9; clear hp9 hg9 hat9)
 have hb9 : Below w.heap.size w w9 := ((ba _ _)).trans ((Below.refl _ _).grown (uh HG9) (by simp) (fun i e => by cases e; exact Nat.le_refl _))
 go_wp2_with fail
 go_ret
 exact ⟨_, rfl, uh HP9, hb9⟩
theorem copiedSmith_any {w : World} {v : Value} {ps : List SmithV} (h : IsSmiths w v ps) (hl : ps.length ≤ 1000) : Calls Tryz.prog 149 #[v] w fun e w' => ∃ v', e = .returned v' ∧ SmithsAt w.heap.size w' v' ps ∧ Below w.heap.size w w' := by
 have HR := hide (h.below ((Below.refl _ _).alloc (Nat.le_refl _) (.cells #[] 39)))
 obtain ⟨a, cap, rfl, hc, hm, hr⟩ := h
 clear hr
 go_enter Tryz.func149, Tryz.ntmps149
 go_wp2_with (at_builtin; refine wpList_append_recs tyS rfl (.tmp 3) (.tmp 4) 141 Tryz.underlying141 rfl w.heap.size _ _ [] ps rfl rfl (recs_empty rfl (Nat.le_refl _)) (uh HR) (by simp; omega) (by simp) ?_; intro u9 w9 hp9 hg9 hat9; rw [List.nil_append] at hp9; have HP9 := hide hp9; have HG9 := hide hg9; clear hp9 hg9 hat9)
 have hb9 : Below w.heap.size w w9 := ((ba _ _)).trans ((Below.refl _ _).grown (uh HG9) (by simp) (fun i e => by cases e; exact Nat.le_refl _))
 go_wp2_with fail
 go_ret
 exact ⟨_, rfl, uh HP9, hb9⟩
theorem copiedDesk_any {w : World} {v : Value} {ps : List DeskV} (h : IsDesks w v ps) (hl : ps.length ≤ 1000) : Calls Tryz.prog 151 #[v] w fun e w' => ∃ v', e = .returned v' ∧ DesksAt w.heap.size w' v' ps ∧ Below w.heap.size w w' := by
 have HR := hide (h.below ((Below.refl _ _).alloc (Nat.le_refl _) (.cells #[] 53)))
 obtain ⟨a, cap, rfl, hc, hm, hr⟩ := h
 clear hr
 go_enter Tryz.func151, Tryz.ntmps151
 go_wp2_with (at_builtin; refine wpList_append_recs tyD rfl (.tmp 3) (.tmp 4) 189 Tryz.underlying189 rfl w.heap.size _ _ [] ps rfl rfl (recs_empty rfl (Nat.le_refl _)) (uh HR) (by simp; omega) (by simp) ?_; intro u9 w9 hp9 hg9 hat9; rw [List.nil_append] at hp9; have HP9 := hide hp9; have HG9 := hide hg9; clear hp9 hg9 hat9)
 have hb9 : Below w.heap.size w w9 := ((ba _ _)).trans ((Below.refl _ _).grown (uh HG9) (by simp) (fun i e => by cases e; exact Nat.le_refl _))
 go_wp2_with fail
 go_ret
 exact ⟨_, rfl, uh HP9, hb9⟩
theorem copiedNum_any {w : World} {v : Value} {ps : List Int} (h : IsNums w v ps) (hl : ps.length ≤ 1000) : Calls Tryz.prog 152 #[v] w fun e w' => ∃ v', e = .returned v' ∧ NumsAt w.heap.size w' v' ps ∧ Below w.heap.size w w' := by
 have HR := hide (h.below ((Below.refl _ _).alloc (Nat.le_refl _) (.cells #[] 2)))
 obtain ⟨a, cap, rfl, hc, hm, hr⟩ := h
 clear hr
 go_enter Tryz.func152, Tryz.ntmps152
 go_wp2_with (at_builtin; refine wpList_append_recs tyN rfl (.tmp 3) (.tmp 4) 192 Tryz.underlying192 rfl w.heap.size _ _ [] ps rfl rfl (recs_empty rfl (Nat.le_refl _)) (uh HR) (by simp; omega) (by simp) ?_; intro u9 w9 hp9 hg9 hat9; rw [List.nil_append] at hp9; have HP9 := hide hp9; have HG9 := hide hg9; clear hp9 hg9 hat9)
 have hb9 : Below w.heap.size w w9 := ((ba _ _)).trans ((Below.refl _ _).grown (uh HG9) (by simp) (fun i e => by cases e; exact Nat.le_refl _))
 go_wp2_with fail
 go_ret
 exact ⟨_, rfl, uh HP9, hb9⟩
theorem copyOfSmithy_any {w : World} {v0 v1 v2 v3 v4 : Value} {m : SmyV} (h : Smy w v0 v1 v2 v3 v4 m) (hF : Few m) :
  Calls Tryz.prog 95 #[.agg #[v0, v1, v2, v3, v4, .int .i64 m.now]] w fun e w' => ∃ u0 u1 u2 u3 u4 qs, e = .returned (.agg #[u0, u1, u2, u3, u4, .int .i64 m.now]) ∧ FullSmy w.heap.size w' u0 u1 u2 u3 u4 m qs ∧ Below w.heap.size w w' := by
 have Hv0 := hide h
 have HF := hide hF
 obtain ⟨a0, p0, a1, p1, a2, p2, a3, p3, a4, p4, rfl, rfl, rfl, rfl, rfl, _, _, _, _, _, _, _, _, _, _⟩ := h.five
 clear h hF
 go_enter Tryz.func95, Tryz.ntmps95
 go_wp2_with fail
 obtain ⟨W, hW, kb, kr, BB⟩ := two_boxes w 32 (S6 a0 p0 a1 p1 a2 p2 a3 p3 a4 p4 m) 32 E6
 rw [hW]
 clear hW
 obtain ⟨c0, c1, c2, c3, c4, c5⟩ := (uh kb).c6
 refine wp_region_last (S := fun w' => w'.cell? ⟨w.heap.size, 0, none⟩ = some (.slice a0 m.rooms.length p0) ∧ w'.cell? ⟨w.heap.size, 1, none⟩ = some (.slice a1 m.guilds.length p1) ∧ w'.cell? ⟨w.heap.size, 2, none⟩ = some (.slice a2 m.smiths.length p2) ∧ w'.cell? ⟨w.heap.size, 3, none⟩ = some (.slice a3 m.desks.length p3) ∧ w'.cell? ⟨w.heap.size, 4, none⟩ = some (.slice a4 m.paces.length p4) ∧ w'.cell? ⟨w.heap.size, 5, none⟩ = some (.int .i64 m.now)) (by kernel_rfl) (List.cons_ne_nil _ _) (by kernel_rfl) ⟨c0, c1, c2, c3, c4, c5⟩ (fun hHeld => ?_)
 replace kb := hide ((uh kb).below (Below.refl _ _).drew (uh kb).lt)
 replace kr := hide ((uh kr).below (Below.refl _ _).drew (uh kr).lt)
 replace BB := hide ((uh BB).drew)
 have Hv := hide ((uh Hv0).below (uh BB))
 clear c0 c1 c2 c3 c4 c5
 simp only [List.dropLast_cons_cons, List.dropLast_singleton, List.length_cons, List.length_nil, Nat.zero_add, Nat.reduceAdd]
 generalize W.drew = X0 at *
 have hz0 : w.heap.size + 2 ≤ X0.heap.size := by have := (uh kr).lt; omega
 (refine tq 0 ?_; (try simp only [Act.put, sA, sZ, sS]))
 (refine tq 1 ?_; (try simp only [Act.put, sA, sZ, sS]))
 (refine tq 3 ?_; (try simp only [Act.put, sA, sZ, sS]))
 (refine tq 4 ?_; (try simp only [Act.put, sA, sZ, sS]))
 (refine tq 6 ?_; (try simp only [Act.put, sA, sZ, sS]))
 (refine tq 9 ?_; (try simp only [Act.put, sA, sZ, sS]))
 (refine tq 12 ?_; (try simp only [Act.put, sA, sZ, sS]))
 (refine tq 13 ?_; (try simp only [Act.put, sA, sZ, sS]))
 (refine tq 15 ?_; (try simp only [Act.put, sA, sZ, sS]))
 (refine tq 16 ?_; (try simp only [Act.put, sA, sZ, sS]))
 refine rd 2 rfl (fun K hK => ?_)
 go_simp
 refine (copyOfHall_any (uh Hv).rooms (uh HF).rooms (uh HF).paces).mono ?_
 rintro e9 X1 ⟨u0, qs, rfl, hmap, hp, hb⟩
 replace Hv := hide ((uh Hv).below hb)
 replace kb := bl kb hb
 replace kr := bl kr hb
 replace BB := bt BB hb
 have Hmap := hide hmap
 have hql : qs.length = m.rooms.length := by rw [← hmap, List.length_map]
 obtain ⟨b0, q0, hu0⟩ : ∃ b0 q0, u0 = .slice b0 m.rooms.length q0 := by
  obtain ⟨a9, c9, e9⟩ := hp.shape
  exact ⟨a9, c9, by rw [e9, hql]⟩
 subst hu0
 have N0 : Hid (OwnHall (w.heap.size + 2) X1 (.slice b0 m.rooms.length q0) qs) := hide (hp.mono hz0)
 have L0 : Hid (∀ b, ((Value.slice b0 m.rooms.length q0).ownBlock = some b ∨ ∃ q ∈ qs, q.2.ownBlock = some b) → b < X1.heap.size) := hide (fun b e => (hp.lt e).2)
 have hz1 : w.heap.size + 2 ≤ X1.heap.size := by have := hb.size; omega
 clear hmap hql hp hb
 refine hK.out _ _ (uh kb).c6 (fun hHeld => ?_)
 clear hK K
 (try simp only [Act.put, sA, sZ, sS])
 refine rd 5 rfl (fun K hK => ?_)
 go_simp
 refine (copiedGuild_any (uh Hv).guilds (uh HF).guilds).mono ?_
 rintro e9 X2 ⟨u1, rfl, hp, hb⟩
 replace Hv := hide ((uh Hv).below hb)
 replace kb := bl kb hb
 replace kr := bl kr hb
 replace BB := bt BB hb
 replace N0 := hide ((uh N0).later hb)
 obtain ⟨b1, q1, hu1⟩ := RecAt.shape hp
 subst hu1
 have N1 : Hid (GuildsAt (w.heap.size + 2) X2 (.slice b1 m.guilds.length q1) m.guilds) := hide (RecAt.mono hp (by omega))
 have L1 : Hid (∀ b, (Value.slice b1 m.guilds.length q1).ownBlock = some b → X1.heap.size ≤ b ∧ b < X2.heap.size) := hide (fun b e => RecAt.lt hp e)
 have hsX2 := hb.size
 clear hp hb
 refine hK.out _ _ (uh kb).c6 (fun hHeld => ?_)
 clear hK K
 (try simp only [Act.put, sA, sZ, sS])
 refine rd 7 rfl (fun K hK => ?_)
 go_simp
 refine ck (smithsOf_any _ _ _ _ _ _ _ _ _ _ _ _ _ _ _ _ _) fun X3 hb => ?_
 replace Hv := hide ((uh Hv).below hb)
 replace kb := bl kb hb
 replace kr := bl kr hb
 replace BB := bt BB hb
 replace N0 := hide ((uh N0).later hb)
 replace N1 := hide (RecAt.later (uh N1) hb)
 have hsX3 := hb.size
 clear hb
 refine hK.out _ _ (uh kb).c6 (fun hHeld => ?_)
 clear hK K
 (try simp only [Act.put, sA, sZ, sS])
 refine rd 8 rfl (fun K hK => ?_)
 go_simp
 refine (copiedSmith_any (uh Hv).smiths (Nat.le_trans (uh HF).smiths (by omega))).mono ?_
 rintro e9 X4 ⟨u2, rfl, hp, hb⟩
 replace Hv := hide ((uh Hv).below hb)
 replace kb := bl kb hb
 replace kr := bl kr hb
 replace BB := bt BB hb
 replace N0 := hide ((uh N0).later hb)
 replace N1 := hide (RecAt.later (uh N1) hb)
 obtain ⟨b2, q2, hu2⟩ := RecAt.shape hp
 subst hu2
 have N2 : Hid (SmithsAt (w.heap.size + 2) X4 (.slice b2 m.smiths.length q2) m.smiths) := hide (RecAt.mono hp (by omega))
 have L2 : Hid (∀ b, (Value.slice b2 m.smiths.length q2).ownBlock = some b → X3.heap.size ≤ b ∧ b < X4.heap.size) := hide (fun b e => RecAt.lt hp e)
 have hsX4 := hb.size
 clear hp hb
 refine hK.out _ _ (uh kb).c6 (fun hHeld => ?_)
 clear hK K
 (try simp only [Act.put, sA, sZ, sS])
 refine rd 10 rfl (fun K hK => ?_)
 go_simp
 refine ck (desksOf_any _ _ _ _ _ _ _ _ _ _ _ _ _ _ _ _ _) fun X5 hb => ?_
 replace Hv := hide ((uh Hv).below hb)
 replace kb := bl kb hb
 replace kr := bl kr hb
 replace BB := bt BB hb
 replace N0 := hide ((uh N0).later hb)
 replace N1 := hide (RecAt.later (uh N1) hb)
 replace N2 := hide (RecAt.later (uh N2) hb)
 have hsX5 := hb.size
 clear hb
 refine hK.out _ _ (uh kb).c6 (fun hHeld => ?_)
 clear hK K
 (try simp only [Act.put, sA, sZ, sS])
 refine rd 11 rfl (fun K hK => ?_)
 go_simp
 refine (copiedDesk_any (uh Hv).desks (uh HF).desks).mono ?_
 rintro e9 X6 ⟨u3, rfl, hp, hb⟩
 replace Hv := hide ((uh Hv).below hb)
 replace kb := bl kb hb
 replace kr := bl kr hb
 replace BB := bt BB hb
 replace N0 := hide ((uh N0).later hb)
 replace N1 := hide (RecAt.later (uh N1) hb)
 replace N2 := hide (RecAt.later (uh N2) hb)
 obtain ⟨b3, q3, hu3⟩ := RecAt.shape hp
 subst hu3
 have N3 : Hid (DesksAt (w.heap.size + 2) X6 (.slice b3 m.desks.length q3) m.desks) := hide (RecAt.mono hp (by omega))
 have L3 : Hid (∀ b, (Value.slice b3 m.desks.length q3).ownBlock = some b → X5.heap.size ≤ b ∧ b < X6.heap.size) := hide (fun b e => RecAt.lt hp e)
 have hsX6 := hb.size
 clear hp hb
 refine hK.out _ _ (uh kb).c6 (fun hHeld => ?_)
 clear hK K
 (try simp only [Act.put, sA, sZ, sS])
 refine rd 14 rfl (fun K hK => ?_)
 go_simp
 refine (copiedNum_any (uh Hv).paces (uh HF).nums).mono ?_
 rintro e9 X7 ⟨u4, rfl, hp, hb⟩
 replace Hv := hide ((uh Hv).below hb)
 replace kb := bl kb hb
 replace kr := bl kr hb
 replace BB := bt BB hb
 replace N0 := hide ((uh N0).later hb)
 replace N1 := hide (RecAt.later (uh N1) hb)
 replace N2 := hide (RecAt.later (uh N2) hb)
 replace N3 := hide (RecAt.later (uh N3) hb)
 obtain ⟨b4, q4, hu4⟩ := RecAt.shape hp
 subst hu4
 have N4 : Hid (NumsAt (w.heap.size + 2) X7 (.slice b4 m.paces.length q4) m.paces) := hide (RecAt.mono hp (by omega))
 have L4 : Hid (∀ b, (Value.slice b4 m.paces.length q4).ownBlock = some b → X6.heap.size ≤ b ∧ b < X7.heap.size) := hide (fun b e => RecAt.lt hp e)
 have hsX7 := hb.size
 clear hp hb
 refine hK.out _ _ (uh kb).c6 (fun hHeld => ?_)
 clear hK K
 (try simp only [Act.put, sA, sZ, sS])
 (refine tq 17 ?_; (try simp only [Act.put, sA, sZ, sS]))
 obtain ⟨o0, o1, o2, o3, o4, o5⟩ := (uh kr).c6
 obtain ⟨f0, f1, f2, f3, f4, f5⟩ := (uh kr).f6
 refine wpAnyH_done (by kernel_rfl) ?_ _
 refine tailQ_run rfl rfl ?_
 go_simp
 clear hHeld
 have HFull : Hid (FullSmy (w.heap.size + 2) X7 (.slice b0 m.rooms.length q0) (.slice b1 m.guilds.length q1) (.slice b2 m.smiths.length q2) (.slice b3 m.desks.length q3) (.slice b4 m.paces.length q4) m qs) := hide (full_of X1.heap.size X2.heap.size X4.heap.size X6.heap.size (uh N0) (uh Hmap) (uh N1) (uh N2) (uh N3) (uh N4) (uh L0) (uh L1) (fun b e => by have := uh L2 b e; omega) (fun b e => by have := uh L3 b e; omega) (fun b e => (uh L4 b e).1) (by omega) (by omega) (by omega))
 go_wp2_with fail
 refine bodyPost_ret (v := .agg (S6 b0 q0 b1 q1 b2 q2 b3 q3 b4 q4 m)) (by simp [results, Tryz.results95, go_sem, *]) rfl ⟨_, _, _, _, _, qs, rfl, ?_, ?_⟩
 ·refine FullSmy.mono (n₀ := w.heap.size + 2) ?_ (by omega)
  iterate 6 (refine FullSmy.set ?_ _ _ _ (by omega))
  exact uh HFull
 ·iterate 6 (refine Below.setCell ?_ (by show _ ≤ w.heap.size + 1; omega) _)
  exact uh BB
end Go.Proofs.YtffcgajndmhpkaaGreatDoor
